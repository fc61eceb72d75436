/-
  Contracts: tables of points, of both sides.
-/
import Derived.Test.YtfcegkighjnmeaaLst
import Derived.Test.YtfcegkighjnmeaaFloHu
import Derived.Deep.QuietTactic
import Derived.BigQuiet
namespace Go.Proofs.Ytfcegkighjnmeaa
open Go.RowKit Fl
set_option linter.unusedVariables false

def prevB (bs : List Int) (i : Nat) : Int := if i = 0 then -1 else bs.getD (i - 1) 0
def TbAt (bs : List Int) (ms : List Nat) (i : Nat) : Bool := decide (prevB bs i < bs.getD i 0) && lsB (ms.getD i 0)
def TbTo (bs : List Int) (ms : List Nat) (k : Nat) : Prop := ∀ i, i < k → TbAt bs ms i = true
def tbA (bs : List Int) (ms : List Nat) : Bool := decide (∀ i, i < bs.length → TbAt bs ms i = true)
def lnB (bs : List Int) (ms : List Nat) : Bool := decide (1 ≤ bs.length ∧ bs.length ≤ 64 ∧ ms.length = bs.length)
def tbB (bs : List Int) (ms : List Nat) : Bool := lnB bs ms && tbA bs ms
theorem prevB_succ (bs : List Int) (k : Nat) : prevB bs (k + 1) = bs.getD k 0 := by unfold prevB; rw [if_neg (by omega)]; rfl
theorem tbTo_succ {bs : List Int} {ms : List Nat} {k : Nat} (h : TbTo bs ms k) (h1 : TbAt bs ms k = true) : TbTo bs ms (k + 1) := by
  intro i hi
  by_cases he : i = k
  · rw [he]; exact h1
  · exact h i (by omega)
theorem tbAt_out {bs : List Int} {ms : List Nat} {i : Nat} (h : TbAt bs ms i = true) : prevB bs i < bs.getD i 0 ∧ lsB (ms.getD i 0) = true := by
  unfold TbAt at h; rw [Bool.and_eq_true, decide_eq_true_eq] at h; exact h
theorem prevB_ge {bs : List Int} {ms : List Nat} {k : Nat} (h : TbTo bs ms k) : ∀ i, i ≤ k → -1 ≤ prevB bs i := by
  intro i
  induction i with
  | zero => intro _; unfold prevB; rw [if_pos rfl]; omega
  | succ i ih =>
    intro hi
    rw [prevB_succ]
    have := ih (by omega)
    have := (tbAt_out (h i (by omega))).1
    omega
theorem tb_lt {bs : List Int} {ms : List Nat} {k : Nat} (h : TbTo bs ms k) (a d : Nat) (hd : a + d + 1 < k) : bs.getD a 0 < bs.getD (a + d + 1) 0 := by
  induction d with
  | zero => have := (tbAt_out (h (a + 1) (by omega))).1; rw [prevB_succ] at this; exact this
  | succ d ih =>
    have h1 := ih (by omega)
    have := (tbAt_out (h (a + d + 1 + 1) (by omega))).1
    rw [prevB_succ] at this
    rw [show a + (d + 1) + 1 = a + d + 1 + 1 by omega]
    omega
theorem tbA_yes {bs : List Int} {ms : List Nat} (h : TbTo bs ms bs.length) : tbA bs ms = true := decide_eq_true fun i hi => h i hi
theorem tbA_no {bs : List Int} {ms : List Nat} {k : Nat} (hk : k < bs.length) (h : TbAt bs ms k = false) : tbA bs ms = false := decide_eq_false fun hh => by rw [hh k hk] at h; cases h
theorem tbA_out {bs : List Int} {ms : List Nat} (h : tbA bs ms = true) : TbTo bs ms bs.length := fun i hi => of_decide_eq_true h i hi
theorem tbB_out {bs : List Int} {ms : List Nat} (h : tbB bs ms = true) : 1 ≤ bs.length ∧ bs.length ≤ 64 ∧ ms.length = bs.length ∧ TbTo bs ms bs.length := by
  unfold tbB lnB at h; rw [Bool.and_eq_true, decide_eq_true_eq] at h
  exact ⟨h.1.1, h.1.2.1, h.1.2.2, tbA_out h.2⟩
theorem il_getD (xs : List Int) (k : Nat) (h : k < xs.length) : (il xs)[k]? = some (.int .i64 (xs.getD k 0)) := by rw [il_get xs k h]; simp [List.getD, List.getElem?_eq_getElem h]
theorem fl_getD (xs : List Nat) (k : Nat) (h : k < xs.length) : (fl xs)[k]? = some (.float .f32 (xs.getD k 0)) := by rw [fl_get xs k h]; simp [List.getD, List.getElem?_eq_getElem h]
theorem getD_lt {xs : List Nat} (hx : ∀ x ∈ xs, x < 2 ^ 32) (k : Nat) (h : k < xs.length) : xs.getD k 0 < 2 ^ 32 := by
  rw [show xs.getD k 0 = xs[k] by simp [List.getD, List.getElem?_eq_getElem h]]; exact hx _ (List.getElem_mem h)
def TbRel (w : World) (bs : List Int) (ms : List Nat) (n : Nat) (b i : Value) (wr : World) : Prop := ∃ k m : Nat, k ≤ n ∧ i = .int .i64 k ∧ b = .int .i64 (prevB bs k) ∧ TbTo bs ms k ∧ wr = w.drewN m
def TbRelS (w : World) (bs : List Int) (ms : List Nat) (n : Nat) (i : Value) (wr : World) : Prop := ∃ k m : Nat, k ≤ n ∧ i = .int .i64 k ∧ TbTo bs ms k ∧ wr = w.drewN m
set_option maxRecDepth 100000 in
set_option maxHeartbeats 4000000 in
theorem tbI_any (v u : Value) (bs : List Int) (ms : List Nat) (w : World) (B : Nat) (h : Rd w B v (il bs)) (h' : Rd w B u (fl ms)) (hm : bs.length ≤ 1048576) (hm2 : ms.length ≤ 1048576) (hx : ∀ x ∈ ms, x < 2 ^ 32) :
    Calls Try.prog 58 #[v, u] w (RetBo (tbB bs ms) w) := by
  obtain ⟨A, c, hv, q1, q2, q3⟩ := h
  obtain ⟨A', c', hu, p1, p2, p3⟩ := h'
  rw [il_len] at hv q1 q3
  rw [fl_len] at hu p1 p3
  subst hv hu
  have HC := Lib.hid q3
  have HD := Lib.hid p3
  have HX := Lib.hid hx
  clear q1 q2 q3 p1 p2 p3 hx
  by_cases hl : 1 ≤ bs.length ∧ bs.length ≤ 64 ∧ ms.length = bs.length
  · obtain ⟨l1, l2, l3⟩ := hl
    have HT := Lib.hid (show tbB bs ms = tbA bs ms by unfold tbB lnB; rw [decide_eq_true ⟨l1, l2, l3⟩]; rfl)
    have HAll := Lib.hid (fun h => tbA_yes (bs := bs) (ms := ms) h)
    have HNo := Lib.hid (fun k hk h => tbA_no (bs := bs) (ms := ms) (k := k) hk h)
    have HG := Lib.hid (show ∀ k, k < bs.length → (il bs)[k]? = some (.int .i64 (bs.getD k 0)) ∧ (fl ms)[k]? = some (.float .f32 (ms.getD k 0)) ∧ ms.getD k 0 < 2 ^ 32 from fun k hk => ⟨il_getD bs k hk, fl_getD ms k (by omega), getD_lt HX.out k (by omega)⟩)
    rw [l3] at HD ⊢
    obtain ⟨n, hn⟩ : ∃ n, bs.length = n := ⟨_, rfl⟩
    rw [hn] at HC HD HAll HNo HG l1 l2 ⊢
    clear hn l3 hm hm2 HX
    go_enter Try.func58, Try.ntmps58
    go_wp2_with fail
    go_loopw [5, 25] (TbRel w bs ms n) (fun _ i _ => n - (intOf i).toNat)
    case atStart => exact ⟨0, 0, Nat.zero_le _, rfl, rfl, fun i h => absurd h (Nat.not_lt_zero _), rfl⟩
    case round =>
      obtain ⟨k, m, hk, rfl, rfl, ht, rfl⟩ := hrel
      have HTo := Lib.hid ht
      clear ht
      by_cases hlt : k < n
      · obtain ⟨b, off, rfl, hbl, hcc⟩ := HC.out (by omega)
        obtain ⟨b', off', rfl, hbl', hcc'⟩ := HD.out (by omega)
        obtain ⟨g1, g2, hxk⟩ := HG.out k hlt
        have h1 : w.cell? ⟨b, off + k, none⟩ = some (.int .i64 (bs.getD k 0)) := hcc k _ g1
        have h2 : w.cell? ⟨b', off' + k, none⟩ = some (.float .f32 (ms.getD k 0)) := hcc' k _ g2
        have HS := Lib.hid (fun h => tbTo_succ (k := k) HTo.out h)
        have HN := Lib.hid (HNo.out k hlt)
        have HA := Lib.hid (show TbAt bs ms k = (decide (prevB bs k < bs.getD k 0) && lsB (ms.getD k 0)) from rfl)
        have HP := Lib.hid (prevB_succ bs k)
        clear hcc hcc' HC HD HG HNo HAll g1 g2
        generalize bs.getD k 0 = y at *
        generalize ms.getD k 0 = x at *
        generalize prevB bs k = pv at *
        have HQ := Lib.hid (fun w' => lsI_any x w' hxk)
        by_cases hb : y ≤ pv
        · have HF := Lib.hid (HN.out (by rw [HA.out, decide_eq_false (by omega)]; rfl))
          go_wp2_with (go_at_call 53; refine (HQ.out _).mono ?_; rintro e w' ⟨rfl, n1, rfl⟩)
          go_ret
          rw [HT.out, HF.out]
          exact ⟨rfl, _, rfl⟩
        · have hb' : pv < y := by omega
          clear hb
          cases hl : lsB x with
          | false =>
            have HF := Lib.hid (HN.out (by rw [HA.out, hl]; simp))
            have HL := Lib.hid hl
            clear hl
            go_wp2_with (go_at_call 53; refine (HQ.out _).mono ?_; rintro e w' ⟨rfl, n1, rfl⟩; rw [HL.out])
            go_ret
            rw [HT.out, HF.out]
            exact ⟨rfl, _, by first | rfl | exact World.drewN_drewN _ _ _⟩
          | true =>
            have HF := Lib.hid (HS.out (by rw [HA.out, hl, decide_eq_true hb']; rfl))
            have HL := Lib.hid hl
            clear hl
            go_wp2_with (go_at_call 53; refine (HQ.out _).mono ?_; rintro e w' ⟨rfl, n1, rfl⟩; rw [HL.out])
            go_roundw
            case rel => exact ⟨k + 1, _, by omega, by go_num, by rw [HP.out], HF.out, by first | rfl | exact World.drewN_drewN _ _ _⟩
            case measure => simp [intOf]; omega
      · obtain rfl : k = n := by omega
        have HF := Lib.hid (HAll.out HTo.out)
        go_wp2
        go_ret
        rw [HT.out, HF.out]
        exact ⟨rfl, _, rfl⟩
  · have HT := Lib.hid (show tbB bs ms = false by unfold tbB lnB; rw [decide_eq_false hl]; rfl)
    clear HC HD HX
    generalize bs.length = n at *
    generalize ms.length = n' at *
    by_cases l1 : n < 1
    · clear hl
      go_enter Try.func58, Try.ntmps58
      go_wp2_with fail
      go_ret
      rw [HT.out]
      exact ⟨rfl, 0, rfl⟩
    · by_cases l2 : 64 < n
      · have l1' : 1 ≤ n := by omega
        clear hl l1
        go_enter Try.func58, Try.ntmps58
        go_wp2_with fail
        go_ret
        rw [HT.out]
        exact ⟨rfl, 0, rfl⟩
      · have l1' : 1 ≤ n := by omega
        have l2' : n ≤ 64 := by omega
        have l3 : ((n' : Int) != (n : Int)) = true := by simp; omega
        clear hl l1 l2
        go_enter Try.func58, Try.ntmps58
        go_wp2_with fail
        go_ret
        rw [HT.out]
        exact ⟨rfl, 0, rfl⟩
set_option maxRecDepth 100000 in
set_option maxHeartbeats 4000000 in
theorem tbS_any (v u : Value) (bs : List Int) (ms : List Nat) (w : World) (B : Nat) (h : Rd w B v (il bs)) (h' : Rd w B u (fl ms)) (hm : bs.length ≤ 1048576) (hm2 : ms.length ≤ 1048576) (hx : ∀ x ∈ ms, x < 2 ^ 32) :
    Calls Try.prog 56 #[v, u] w (RetBo (tbB bs ms) w) := by
  obtain ⟨A, c, hv, q1, q2, q3⟩ := h
  obtain ⟨A', c', hu, p1, p2, p3⟩ := h'
  rw [il_len] at hv q1 q3
  rw [fl_len] at hu p1 p3
  subst hv hu
  have HC := Lib.hid q3
  have HD := Lib.hid p3
  have HX := Lib.hid hx
  clear q1 q2 q3 p1 p2 p3 hx
  by_cases hl : 1 ≤ bs.length ∧ bs.length ≤ 64 ∧ ms.length = bs.length
  · obtain ⟨l1, l2, l3⟩ := hl
    have HT := Lib.hid (show tbB bs ms = tbA bs ms by unfold tbB lnB; rw [decide_eq_true ⟨l1, l2, l3⟩]; rfl)
    have HAll := Lib.hid (fun h => tbA_yes (bs := bs) (ms := ms) h)
    have HNo := Lib.hid (fun k hk h => tbA_no (bs := bs) (ms := ms) (k := k) hk h)
    have HG := Lib.hid (show ∀ k, k < bs.length → (il bs)[k]? = some (.int .i64 (bs.getD k 0)) ∧ (fl ms)[k]? = some (.float .f32 (ms.getD k 0)) ∧ ms.getD k 0 < 2 ^ 32 from fun k hk => ⟨il_getD bs k hk, fl_getD ms k (by omega), getD_lt HX.out k (by omega)⟩)
    rw [l3] at HD ⊢
    obtain ⟨n, hn⟩ : ∃ n, bs.length = n := ⟨_, rfl⟩
    rw [hn] at HC HD HAll HNo HG l1 l2 ⊢
    clear hn l3 hm hm2 HX
    go_enter Try.func56, Try.ntmps56
    go_wp2_with fail
    go_loopw [5] (TbRelS w bs ms n) (fun i _ => n - (intOf i).toNat)
    case atStart => exact ⟨0, 0, Nat.zero_le _, rfl, fun i h => absurd h (Nat.not_lt_zero _), rfl⟩
    case round =>
      obtain ⟨k, m, hk, rfl, ht, rfl⟩ := hrel
      have HTo := Lib.hid ht
      clear ht
      by_cases hlt : k < n
      · obtain ⟨b, off, rfl, hbl, hcc⟩ := HC.out (by omega)
        obtain ⟨b', off', rfl, hbl', hcc'⟩ := HD.out (by omega)
        obtain ⟨g1, g2, hxk⟩ := HG.out k hlt
        have h1 : w.cell? ⟨b, off + k, none⟩ = some (.int .i64 (bs.getD k 0)) := hcc k _ g1
        have h2 : w.cell? ⟨b', off' + k, none⟩ = some (.float .f32 (ms.getD k 0)) := hcc' k _ g2
        have HS := Lib.hid (fun h => tbTo_succ (k := k) HTo.out h)
        have HN := Lib.hid (HNo.out k hlt)
        have HA := Lib.hid (show TbAt bs ms k = (decide (prevB bs k < bs.getD k 0) && lsB (ms.getD k 0)) from rfl)
        have hpg := prevB_ge HTo.out k (Nat.le_refl _)
        rcases Nat.eq_zero_or_pos k with rfl | hpos
        · rw [show prevB bs 0 = -1 from rfl] at HA
          clear hcc hcc' HC HD HG HNo HAll g1 g2 hpg
          rw [Nat.add_zero] at h1 h2
          generalize bs.getD 0 0 = y at *
          generalize ms.getD 0 0 = x at *
          by_cases hb : y < 0
          · have hd1 : decide (y < 0) = true := decide_eq_true hb
            have HF := Lib.hid (HN.out (by rw [HA.out, decide_eq_false (by omega)]; rfl))
            have HL := Lib.hid (show lsB x = lsB x from rfl)
            have HQ := Lib.hid (fun a => (lsS_any x (w.drewN (m + a)) hxk).mono (R' := fun e w'' => e = .returned (.bool (lsB x)) ∧ ∃ q, w'' = w.drewN (m + q)) fun e w' ⟨he, q, hw⟩ => ⟨by rw [he, HL.out], a + q, by rw [hw, World.drewN_drewN, Nat.add_assoc]⟩)
            go_wp2_with fail
            go_quiet ((exact HQ.out _))
            go_wp2
            go_ret
            rw [HT.out, HF.out]
            exact ⟨rfl, _, by first | rfl | exact World.drewN_drewN _ _ _⟩
          · have hd1 : decide (y < 0) = false := decide_eq_false hb
            have hb' : 0 ≤ y := by omega
            clear hb
            cases hl : lsB x with
            | false =>
              have HF := Lib.hid (HN.out (by rw [HA.out, hl]; simp))
              have HL := Lib.hid hl
              clear hl
              have HQ := Lib.hid (fun a => (lsS_any x (w.drewN (m + a)) hxk).mono (R' := fun e w'' => e = .returned (.bool false) ∧ ∃ q, w'' = w.drewN (m + q)) fun e w' ⟨he, q, hw⟩ => ⟨by rw [he, HL.out], a + q, by rw [hw, World.drewN_drewN, Nat.add_assoc]⟩)
              go_wp2_with fail
              go_quiet ((exact HQ.out _))
              go_wp2
              go_ret
              rw [HT.out, HF.out]
              exact ⟨rfl, _, by first | rfl | exact World.drewN_drewN _ _ _⟩
            | true =>
              have HF := Lib.hid (HS.out (by rw [HA.out, hl, decide_eq_true (by first | exact HZ.out | omega)]; rfl))
              have HL := Lib.hid hl
              clear hl
              have HQ := Lib.hid (fun a => (lsS_any x (w.drewN (m + a)) hxk).mono (R' := fun e w'' => e = .returned (.bool true) ∧ ∃ q, w'' = w.drewN (m + q)) fun e w' ⟨he, q, hw⟩ => ⟨by rw [he, HL.out], a + q, by rw [hw, World.drewN_drewN, Nat.add_assoc]⟩)
              go_wp2_with fail
              go_quiet ((exact HQ.out _))
              go_wp2
              go_roundw
              case rel => exact ⟨_, _, by omega, by go_num, HF.out, by first | rfl | exact World.drewN_drewN _ _ _⟩
              case measure => simp [intOf]; omega
        · obtain ⟨k', rfl⟩ : ∃ k', k = k' + 1 := ⟨k - 1, by omega⟩
          have g3 := (HG.out k' (by omega)).1
          have h3 : w.cell? ⟨b, off + k', none⟩ = some (.int .i64 (bs.getD k' 0)) := hcc k' _ g3
          rw [prevB_succ] at HA hpg
          clear hcc hcc' HC HD HG HNo HAll g1 g2 g3
          generalize bs.getD (k' + 1) 0 = y at *
          generalize ms.getD (k' + 1) 0 = x at *
          generalize bs.getD k' 0 = z at *
          have hdp : decide ((0 : Int) < (k' : Int) + 1) = true := decide_eq_true (by omega)
          by_cases hb : y < 0
          · have hd1 : decide (y < 0) = true := decide_eq_true hb
            have HF := Lib.hid (HN.out (by rw [HA.out, decide_eq_false (by omega)]; rfl))
            have HL := Lib.hid (show lsB x = lsB x from rfl)
            have HQ := Lib.hid (fun a => (lsS_any x (w.drewN (m + a)) hxk).mono (R' := fun e w'' => e = .returned (.bool (lsB x)) ∧ ∃ q, w'' = w.drewN (m + q)) fun e w' ⟨he, q, hw⟩ => ⟨by rw [he, HL.out], a + q, by rw [hw, World.drewN_drewN, Nat.add_assoc]⟩)
            go_wp2_with fail
            go_quiet ((exact HQ.out _))
            go_wp2
            go_ret
            rw [HT.out, HF.out]
            exact ⟨rfl, _, by first | rfl | exact World.drewN_drewN _ _ _⟩
          · have hd1 : decide (y < 0) = false := decide_eq_false hb
            have hb' : 0 ≤ y := by omega
            clear hb
            by_cases hz : y ≤ z
            · have hd2 : decide (y ≤ z) = true := decide_eq_true hz
              have HF := Lib.hid (HN.out (by rw [HA.out, decide_eq_false (by omega)]; rfl))
              have HL := Lib.hid (show lsB x = lsB x from rfl)
              have HQ := Lib.hid (fun a => (lsS_any x (w.drewN (m + a)) hxk).mono (R' := fun e w'' => e = .returned (.bool (lsB x)) ∧ ∃ q, w'' = w.drewN (m + q)) fun e w' ⟨he, q, hw⟩ => ⟨by rw [he, HL.out], a + q, by rw [hw, World.drewN_drewN, Nat.add_assoc]⟩)
              go_wp2_with fail
              go_quiet ((exact HQ.out _))
              go_wp2
              go_ret
              rw [HT.out, HF.out]
              exact ⟨rfl, _, by first | rfl | exact World.drewN_drewN _ _ _⟩
            · have hd2 : decide (y ≤ z) = false := decide_eq_false hz
              have HZ := Lib.hid (show z < y by omega)
              clear hz hb' hpg
              cases hl : lsB x with
              | false =>
                have HF := Lib.hid (HN.out (by rw [HA.out, hl]; simp))
                have HL := Lib.hid hl
                clear hl
                have HQ := Lib.hid (fun a => (lsS_any x (w.drewN (m + a)) hxk).mono (R' := fun e w'' => e = .returned (.bool false) ∧ ∃ q, w'' = w.drewN (m + q)) fun e w' ⟨he, q, hw⟩ => ⟨by rw [he, HL.out], a + q, by rw [hw, World.drewN_drewN, Nat.add_assoc]⟩)
                go_wp2_with fail
                go_quiet ((exact HQ.out _))
                go_wp2
                go_ret
                rw [HT.out, HF.out]
                exact ⟨rfl, _, by first | rfl | exact World.drewN_drewN _ _ _⟩
              | true =>
                have HF := Lib.hid (HS.out (by rw [HA.out, hl, decide_eq_true (by first | exact HZ.out | omega)]; rfl))
                have HL := Lib.hid hl
                clear hl
                have HQ := Lib.hid (fun a => (lsS_any x (w.drewN (m + a)) hxk).mono (R' := fun e w'' => e = .returned (.bool true) ∧ ∃ q, w'' = w.drewN (m + q)) fun e w' ⟨he, q, hw⟩ => ⟨by rw [he, HL.out], a + q, by rw [hw, World.drewN_drewN, Nat.add_assoc]⟩)
                go_wp2_with fail
                go_quiet ((exact HQ.out _))
                go_wp2
                go_roundw
                case rel => exact ⟨_, _, by omega, by go_num, HF.out, by first | rfl | exact World.drewN_drewN _ _ _⟩
                case measure => simp [intOf]; omega
      · obtain rfl : k = n := by omega
        have HF := Lib.hid (HAll.out HTo.out)
        go_wp2
        go_ret
        rw [HT.out, HF.out]
        exact ⟨rfl, _, rfl⟩
  · have HT := Lib.hid (show tbB bs ms = false by unfold tbB lnB; rw [decide_eq_false hl]; rfl)
    clear HC HD HX
    generalize bs.length = n at *
    generalize ms.length = n' at *
    by_cases l1 : n < 1
    · clear hl
      go_enter Try.func56, Try.ntmps56
      go_wp2_with fail
      go_ret
      rw [HT.out]
      exact ⟨rfl, 0, rfl⟩
    · by_cases l2 : 64 < n
      · have l1' : 1 ≤ n := by omega
        clear hl l1
        go_enter Try.func56, Try.ntmps56
        go_wp2_with fail
        go_ret
        rw [HT.out]
        exact ⟨rfl, 0, rfl⟩
      · have l1' : 1 ≤ n := by omega
        have l2' : n ≤ 64 := by omega
        have l3 : ((n' : Int) != (n : Int)) = true := by simp; omega
        clear hl l1 l2
        go_enter Try.func56, Try.ntmps56
        go_wp2_with fail
        go_ret
        rw [HT.out]
        exact ⟨rfl, 0, rfl⟩
end Go.Proofs.Ytfcegkighjnmeaa
