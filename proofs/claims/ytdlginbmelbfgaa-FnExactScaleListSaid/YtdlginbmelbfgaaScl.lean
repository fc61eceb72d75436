/-
  Contracts: ScaleList of both sides.
-/
import Derived.Test.YtdlginbmelbfgaaLst
import Derived.Test.YtdlginbmelbfgaaFloSc
namespace Go.Proofs.Ytdlginbmelbfgaa
open Go.RowKit Fl
set_option linter.unusedVariables false

theorem absI_nn (x : Nat) (w : World) (hn : isN .f32 x = false) : Calls Try.prog 77 #[.float .f32 x] w fun e w' => e = .returned (.float .f32 (x % 2 ^ 31)) ∧ ∃ n, w' = w.drewN n := by
  refine (absI_any x w).mono ?_
  rintro e w' ⟨r, n, rfl, hr, rfl⟩
  have ha : absF x = x % 2 ^ 31 := by unfold absF; rw [if_neg (by rw [hn]; simp)]
  rw [ha] at hr
  exact ⟨by rw [is_eq hr (by rw [isN_mod32]; exact hn)], n, rfl⟩
theorem conv_q {q : Nat} (hn : isN .f32 q = false) (h : okQ q = true) (w : World) : (convert 53 2 (.float .f32 q)).run Try.prog w = .ok (.int .i64 (ti32 q)) w :=
  run_convert_float_int w 53 2 .f32 .i64 q (ti32 q) (by rw [Try.underlying53]; rfl) Try.underlying2 (ti_ok hn h).1
def qS (x s : Nat) : Nat := ar .quo .f32 x s
theorem qS_nn {x s : Nat} (hx : finB .f32 x = true) (hs : psB s = true) : isN .f32 (ar .quo .f32 x s) = false := quo_ps (nan_fin hx) hs
def scG (xs : List Nat) (s : Nat) : Bool := isL xs && psB s
def scA (xs : List Nat) (s : Nat) : Bool := decide (∀ i (h : i < xs.length), okQ (qS xs[i] s) = true)
def ScTo (xs : List Nat) (s k : Nat) : Prop := ∀ i (h : i < xs.length), i < k → okQ (qS xs[i] s) = true
theorem scA_yes {xs : List Nat} {s : Nat} (h : ScTo xs s xs.length) : scA xs s = true := decide_eq_true fun i hi => h i hi hi
theorem scA_no {xs : List Nat} {s k : Nat} (hk : k < xs.length) (h : okQ (qS xs[k] s) = false) : scA xs s = false := decide_eq_false fun hh => by rw [hh k hk] at h; cases h
theorem scTo_succ {xs : List Nat} {s k : Nat} (hk : k < xs.length) (h : ScTo xs s k) (h1 : okQ (qS xs[k] s) = true) : ScTo xs s (k + 1) := by
  intro i hi hlt
  by_cases he : i = k
  · subst he; exact h1
  · exact h i hi (by omega)
def siK (xs : List Nat) (s k : Nat) : List Int := (List.range k).map fun i => ti32 (qS (xs.getD i 0) s)
theorem siK_succ (xs : List Nat) (s k : Nat) (hk : k < xs.length) : siK xs s (k + 1) = siK xs s k ++ [ti32 (qS xs[k] s)] := by
  unfold siK
  rw [List.range_succ, List.map_append]
  simp [List.getD, List.getElem?_eq_getElem hk]
theorem siK_len (xs : List Nat) (s k : Nat) : (siK xs s k).length = k := by simp [siK]
theorem siK_are {xs : List Nat} {s : Nat} (hl : isL xs = true) (hs : psB s = true) (h : ScTo xs s xs.length) : areB (siK xs s xs.length) = true := by
  obtain ⟨h1, h2, h3⟩ := isL_len hl
  rw [areB_mid (by rw [siK_len]; exact h1) (by rw [siK_len]; exact h2)]
  refine decide_eq_true fun i hi => ?_
  have hi' : i < xs.length := by rw [siK_len] at hi; exact hi
  have e : (siK xs s xs.length)[i] = ti32 (qS xs[i] s) := by simp [siK, List.getD, List.getElem?_eq_getElem hi']
  rw [e]
  exact (ti_ok (qS_nn (fin_at h3 hi') hs) (h i hi' hi')).2
def scB (xs : List Nat) (s : Nat) : Bool := scG xs s && scA xs s
def scV (xs : List Nat) (s : Nat) : List Int := if scB xs s then siK xs s xs.length else []
theorem scV_no {xs : List Nat} {s : Nat} (hg : scB xs s = false) : scV xs s = [] := by unfold scV; rw [if_neg (by rw [hg]; simp)]
theorem scV_yes {xs : List Nat} {s : Nat} (hg : scB xs s = true) : scV xs s = siK xs s xs.length := by unfold scV; rw [if_pos hg]
theorem scV_len (xs : List Nat) (s : Nat) : (scV xs s).length ≤ 1048576 := by
  cases hg : scB xs s with
  | false => rw [scV_no hg]; simp
  | true =>
    rw [scV_yes hg, siK_len]
    have h1 : isL xs = true := by unfold scB scG at hg; simp at hg; exact hg.1.1
    have := (isL_len h1).2.1
    omega
def SiRel (w0 : World) (xs : List Nat) (s : Nat) (v i : Value) (wr : World) : Prop := ∃ j : Nat, j ≤ xs.length ∧ i = .int .i64 j ∧ ScTo xs s j ∧ RowI w0 v (siK xs s j) wr
set_option maxRecDepth 100000 in
set_option maxHeartbeats 4000000 in
theorem sclS_any (v : Value) (xs : List Nat) (s : Nat) (w : World) (hr : Rd w w.heap.size v (fl xs)) (hm : xs.length ≤ 1048576) (hx : ∀ x ∈ xs, x < 2 ^ 32) (hsl : s < 2 ^ 32) :
    Calls Try.prog 42 #[v, .float .f32 s] w (RetJ (scV xs s) (scB xs s) w) := by
  obtain ⟨i0, hi, hz0, hz1, hz2⟩ := info_parts infoI
  have HA := Lib.hid (isS_any v xs w _ hr hm hx)
  have HP := Lib.hid (fun w' => psS_any s w' hsl)
  obtain ⟨A0, c, hv, hc1, hc2, hcell⟩ := hr
  rw [fl_len] at hv hc1 hcell
  subst hv
  have HC := Lib.hid hcell
  have HX := Lib.hid hx
  clear hcell hx
  cases t1 : isL xs with
  | false =>
    have hb : scB xs s = false := by unfold scB scG; rw [t1]; rfl
    rw [scV_no hb, hb]
    have T1 := Lib.hid t1
    clear t1 hb
    go_enter Try.func42, Try.ntmps42
    go_wp2_with (first | (go_at_call 73; refine HA.out.mono ?_; rintro e w' ⟨rfl, n0, rfl⟩; rw [T1.out]))
    go_ret2
    exact retJ_nil (by first | exact Below.refl _ _ | exact below_drawn (Below.refl _ _) _ | exact below_drawn (below_drawn (Below.refl _ _) _) _)
  | true =>
    cases t2 : psB s with
    | false =>
      have hb : scB xs s = false := by unfold scB scG; rw [t1, t2]; rfl
      rw [scV_no hb, hb]
      have T1 := Lib.hid t1
      have T2 := Lib.hid t2
      clear t1 t2 hb
      go_enter Try.func42, Try.ntmps42
      go_wp2_with (first | (go_at_call 73; refine HA.out.mono ?_; rintro e w' ⟨rfl, n0, rfl⟩; rw [T1.out]) | (go_at_call 74; refine (HP.out _).mono ?_; rintro e w' ⟨rfl, n1, rfl⟩; rw [T2.out]))
      go_ret2
      exact retJ_nil (by first | exact Below.refl _ _ | exact below_drawn (Below.refl _ _) _ | exact below_drawn (below_drawn (Below.refl _ _) _) _)
    | true =>
      obtain ⟨hl1, hl2, hf⟩ := isL_len t1
      have HB := Lib.hid (show scB xs s = scA xs s by unfold scB scG; rw [t1, t2]; rfl)
      have HF := Lib.hid hf
      have T1 := Lib.hid t1
      have T2 := Lib.hid t2
      clear t1 t2 hf
      go_enter Try.func42, Try.ntmps42
      go_wp2_with (first | (go_at_call 73; refine HA.out.mono ?_; rintro e w' ⟨rfl, n0, rfl⟩; rw [T1.out]) | (go_at_call 74; refine (HP.out _).mono ?_; rintro e w' ⟨rfl, n1, rfl⟩; rw [T2.out]))
      go_loopw [6, 7] (SiRel w xs s) (fun _ i _ => xs.length - (intOf i).toNat)
      case atStart => exact ⟨0, Nat.zero_le _, rfl, fun i _ h => absurd h (Nat.not_lt_zero _), RowI.litD w _⟩
      case round =>
        skip
        obtain ⟨j, hj, rfl, ht, hrr⟩ := hrel
        have HR := Lib.hid hrr
        have HT := Lib.hid ht
        clear hrr ht
        by_cases hlt : j < xs.length
        · obtain ⟨b, off, rfl, hbl, hcc⟩ := HC.out (by omega)
          have hsrc : wr.cell? ⟨b, off + j, none⟩ = some (.float .f32 xs[j]) := (HR.out.2.cell (p := ⟨b, off + j, none⟩) hbl).trans (hcc j _ (fl_get xs j hlt))
          clear hcc HC
          have hqn := qS_nn (fin_at HF.out hlt) T2.out
          have HS := Lib.hid (siK_succ xs s j hlt)
          have HN := Lib.hid (show (siK xs s j).length ≤ 128 by rw [siK_len]; omega)
          have HNo := Lib.hid (fun h => scA_no (s := s) hlt h)
          have HYe := Lib.hid (fun h => scTo_succ (s := s) hlt HT.out h)
          unfold qS at HNo HYe HS
          generalize xs[j] = x at *
          obtain ⟨q, hq⟩ : ∃ q, ar .quo .f32 x s = q := ⟨_, rfl⟩
          have HQ := Lib.hid hq
          have HQN := Lib.hid hqn
          rw [hq] at HNo HYe HS hqn
          clear hq
          cases hok : okQ q with
          | false =>
            have h2 := ok_two hqn
            rw [hok] at h2
            cases g1 : (FloatKind.f32.format.order q 3379831824 == some .gt) with
            | false =>
              clear h2
              have HBB := Lib.hid (show scB xs s = false by rw [HB.out]; exact HNo.out hok)
              clear hok hqn
              go_wp2_with (first | (refine up_ar rfl ?_; intro r n hr; have e := (is_eq hr HQN.out).trans HQ.out; clear hr; subst e))
              go_ret2
              rw [scV_no HBB.out, HBB.out]
              exact retJ_nil (by first | exact HR.out.2 | exact below_drawn HR.out.2 _)
            | true =>
              rw [g1, Bool.true_and] at h2
              have HBB := Lib.hid (show scB xs s = false by rw [HB.out]; exact HNo.out hok)
              clear hok hqn
              go_wp2_with (first | (refine up_ar rfl ?_; intro r n hr; have e := (is_eq hr HQN.out).trans HQ.out; clear hr; subst e))
              go_ret2
              rw [scV_no HBB.out, HBB.out]
              exact retJ_nil (by first | exact HR.out.2 | exact below_drawn HR.out.2 _)
          | true =>
            have h2 := ok_two hqn
            rw [hok, Bool.and_eq_true] at h2
            obtain ⟨g1, g2⟩ := h2
            have hcv := fun w' => conv_q hqn hok w'
            have HY2 := Lib.hid (HYe.out hok)
            clear hok hqn HYe HNo
            generalize ti32 q = y at *
            generalize siK xs s j = L at *
            go_wp2_with (first | (refine up_ar rfl ?_; intro r n hr; have e := (is_eq hr HQN.out).trans HQ.out; clear hr; subst e) | (first | (at_builtin; refine wpList_append_own _ rfl _ _ 25 rfl w.heap.size 2 i0 (.int .i64 0) 1 8 Try.underlying25 hi hz0 hz1 hz2 rfl (by decide) _ _ _ rfl (HR.out.1.alloc _) ⟨wr.heap.size, 0, none⟩ 1 1 [.int .i64 y] rfl rfl (one_newF _ _ _) (cellsI [y]) (by unfold maxLen; have := HN.out; omega) (by have := HN.out; omega) (by simp; have := HR.out.2.size; omega) ?_; intro v' w1 hown' hgrow _) | (at_builtin; refine wpList_append_own _ rfl _ _ 25 rfl w.heap.size 2 i0 (.int .i64 0) 1 8 Try.underlying25 hi hz0 hz1 hz2 rfl (by decide) _ _ _ rfl ((rowDrewF HR.out.1 _).alloc _) ⟨wr.heap.size, 0, none⟩ 1 1 [.int .i64 y] rfl rfl (one_newF _ _ _) (cellsI [y]) (by unfold maxLen; have := HN.out; omega) (by have := HN.out; omega) (by simp; have := HR.out.2.size; omega) ?_; intro v' w1 hown' hgrow _)))
            have HR2 := Lib.hid (show RowI w v' (L ++ [y]) w1 from RowI.push hown' (by first | exact HR.out.2.alloc HR.out.2.size _ | exact (below_drawn HR.out.2 _).alloc HR.out.2.size _) hgrow (fun j hj => (HR.out.1.lt j hj).1))
            clear hown' hgrow
            go_wp2
            go_roundw
            case rel => exact ⟨j + 1, by omega, by go_num, HY2.out, by rw [HS.out]; exact HR2.out⟩
            case measure => simp [intOf]; omega
        · obtain rfl : j = xs.length := by omega
          have HN := Lib.hid (show (siK xs s xs.length).length ≤ 1048576 by rw [siK_len]; omega)
          have HO := Lib.hid HR.out.own
          have HD := Lib.hid HR.out.2
          have HAr := Lib.hid (siK_are T1.out T2.out HT.out)
          have HBB := Lib.hid (show scB xs s = true by rw [HB.out]; exact scA_yes HT.out)
          clear HR
          obtain ⟨L, hL⟩ : ∃ L, siK xs s xs.length = L := ⟨_, rfl⟩
          rw [hL] at HN HO HAr
          have HL := Lib.hid hL
          clear hL
          go_wp2_with (go_at_call 63; refine (areS_any _ L _ _ HO.out.rd HN.out).mono ?_; rintro e w9 ⟨rfl, rfl⟩; rw [HAr.out])
          go_ret2
          rw [scV_yes HBB.out, HBB.out, HL.out]
          exact ⟨_, rfl, HO.out, HD.out⟩
set_option maxRecDepth 100000 in
set_option maxHeartbeats 4000000 in
theorem sclI_any (v : Value) (xs : List Nat) (s : Nat) (w : World) (hr : Rd w w.heap.size v (fl xs)) (hm : xs.length ≤ 1048576) (hx : ∀ x ∈ xs, x < 2 ^ 32) (hsl : s < 2 ^ 32) :
    Calls Try.prog 44 #[v, .float .f32 s] w (RetJ (scV xs s) (scB xs s) w) := by
  obtain ⟨i0, hi, hz0, hz1, hz2⟩ := info_parts infoI
  have HA := Lib.hid (isI_any v xs w _ hr hm hx)
  have HP := Lib.hid (fun w' => psI_any s w' hsl)
  obtain ⟨A0, c, hv, hc1, hc2, hcell⟩ := hr
  rw [fl_len] at hv hc1 hcell
  subst hv
  have HC := Lib.hid hcell
  have HX := Lib.hid hx
  clear hcell hx
  cases t1 : isL xs with
  | false =>
    have hb : scB xs s = false := by unfold scB scG; rw [t1]; rfl
    rw [scV_no hb, hb]
    have T1 := Lib.hid t1
    clear t1 hb
    go_enter Try.func44, Try.ntmps44
    go_wp2_with (first | (go_at_call 75; refine HA.out.mono ?_; rintro e w' ⟨rfl, n0, rfl⟩; rw [T1.out]))
    go_ret2
    exact retJ_nil (by first | exact Below.refl _ _ | exact below_drawn (Below.refl _ _) _ | exact below_drawn (below_drawn (Below.refl _ _) _) _)
  | true =>
    cases t2 : psB s with
    | false =>
      have hb : scB xs s = false := by unfold scB scG; rw [t1, t2]; rfl
      rw [scV_no hb, hb]
      have T1 := Lib.hid t1
      have T2 := Lib.hid t2
      clear t1 t2 hb
      go_enter Try.func44, Try.ntmps44
      go_wp2_with (first | (go_at_call 75; refine HA.out.mono ?_; rintro e w' ⟨rfl, n0, rfl⟩; rw [T1.out]) | (go_at_call 76; refine (HP.out _).mono ?_; rintro e w' ⟨rfl, n1, rfl⟩; rw [T2.out]))
      go_ret2
      exact retJ_nil (by first | exact Below.refl _ _ | exact below_drawn (Below.refl _ _) _ | exact below_drawn (below_drawn (Below.refl _ _) _) _)
    | true =>
      obtain ⟨hl1, hl2, hf⟩ := isL_len t1
      have HB := Lib.hid (show scB xs s = scA xs s by unfold scB scG; rw [t1, t2]; rfl)
      have HF := Lib.hid hf
      have T1 := Lib.hid t1
      have T2 := Lib.hid t2
      clear t1 t2 hf
      go_enter Try.func44, Try.ntmps44
      go_wp2_with (first | (go_at_call 75; refine HA.out.mono ?_; rintro e w' ⟨rfl, n0, rfl⟩; rw [T1.out]) | (go_at_call 76; refine (HP.out _).mono ?_; rintro e w' ⟨rfl, n1, rfl⟩; rw [T2.out]) | (at_make; refine wpList_make_own _ rfl _ _ 25 rfl w.heap.size 2 i0 (.int .i64 0) 1 Try.underlying25 hi hz0 hz1 .i64 .i64 _ xs.length rfl rfl (by omega) (by rw [hz2]; omega) (by unfold maxLen; omega) (Nat.le_refl _) ?_; intro w1 hown hgrow))
      go_loopw [6, 23] (SiRel w xs s) (fun _ i _ => xs.length - (intOf i).toNat)
      case atStart => exact ⟨0, Nat.zero_le _, rfl, fun i _ h => absurd h (Nat.not_lt_zero _), RowI.madeD hown hgrow⟩
      case round =>
        clear hown hgrow
        obtain ⟨j, hj, rfl, ht, hrr⟩ := hrel
        have HR := Lib.hid hrr
        have HT := Lib.hid ht
        clear hrr ht
        by_cases hlt : j < xs.length
        · obtain ⟨b, off, rfl, hbl, hcc⟩ := HC.out (by omega)
          have hsrc : wr.cell? ⟨b, off + j, none⟩ = some (.float .f32 xs[j]) := (HR.out.2.cell (p := ⟨b, off + j, none⟩) hbl).trans (hcc j _ (fl_get xs j hlt))
          clear hcc HC
          have hqn := qS_nn (fin_at HF.out hlt) T2.out
          have HS := Lib.hid (siK_succ xs s j hlt)
          have HN := Lib.hid (show (siK xs s j).length ≤ 128 by rw [siK_len]; omega)
          have HNo := Lib.hid (fun h => scA_no (s := s) hlt h)
          have HYe := Lib.hid (fun h => scTo_succ (s := s) hlt HT.out h)
          unfold qS at HNo HYe HS
          generalize xs[j] = x at *
          obtain ⟨q, hq⟩ : ∃ q, ar .quo .f32 x s = q := ⟨_, rfl⟩
          have HQ := Lib.hid hq
          have HQN := Lib.hid hqn
          rw [hq] at HNo HYe HS hqn
          clear hq
          have HAb := Lib.hid (fun w' => absI_nn q w' hqn)
          cases hok : okQ q with
          | false =>
            have h2 := ok_abs hqn
            rw [hok] at h2
            generalize q % 2 ^ 31 = a at *
            have HBB := Lib.hid (show scB xs s = false by rw [HB.out]; exact HNo.out hok)
            clear hok hqn
            go_wp2_with (first | (refine up_ar rfl ?_; intro r n hr; have e := (is_eq hr HQN.out).trans HQ.out; clear hr; subst e) | (go_at_call 77; refine (HAb.out _).mono ?_; rintro e w' ⟨rfl, n2, rfl⟩))
            go_ret2
            rw [scV_no HBB.out, HBB.out]
            exact retJ_nil (by first | exact HR.out.2 | exact below_drawn HR.out.2 _ | exact below_drawn (below_drawn HR.out.2 _) _)
          | true =>
            have h2 := ok_abs hqn
            rw [hok] at h2
            have hcv := fun w' => conv_q hqn hok w'
            have HY2 := Lib.hid (HYe.out hok)
            clear hok hqn HYe HNo
            generalize q % 2 ^ 31 = a at *
            generalize ti32 q = y at *
            generalize siK xs s j = L at *
            go_wp2_with (first | (refine up_ar rfl ?_; intro r n hr; have e := (is_eq hr HQN.out).trans HQ.out; clear hr; subst e) | (go_at_call 77; refine (HAb.out _).mono ?_; rintro e w' ⟨rfl, n2, rfl⟩) | (first | (at_builtin; refine wpList_append_own _ rfl _ _ 25 rfl w.heap.size 2 i0 (.int .i64 0) 1 8 Try.underlying25 hi hz0 hz1 hz2 rfl (by decide) _ _ _ rfl (HR.out.1.alloc _) ⟨wr.heap.size, 0, none⟩ 1 1 [.int .i64 y] rfl rfl (one_newF _ _ _) (cellsI [y]) (by unfold maxLen; have := HN.out; omega) (by have := HN.out; omega) (by simp; have := HR.out.2.size; omega) ?_; intro v' w1 hown' hgrow _) | (at_builtin; refine wpList_append_own _ rfl _ _ 25 rfl w.heap.size 2 i0 (.int .i64 0) 1 8 Try.underlying25 hi hz0 hz1 hz2 rfl (by decide) _ _ _ rfl ((rowDrewF HR.out.1 _).alloc _) ⟨wr.heap.size, 0, none⟩ 1 1 [.int .i64 y] rfl rfl (one_newF _ _ _) (cellsI [y]) (by unfold maxLen; have := HN.out; omega) (by have := HN.out; omega) (by simp; have := HR.out.2.size; omega) ?_; intro v' w1 hown' hgrow _)))
            have HR2 := Lib.hid (show RowI w v' (L ++ [y]) w1 from RowI.push hown' (by first | exact HR.out.2.alloc HR.out.2.size _ | exact (below_drawn HR.out.2 _).alloc HR.out.2.size _) hgrow (fun j hj => (HR.out.1.lt j hj).1))
            clear hown' hgrow
            go_wp2
            go_roundw
            case rel => exact ⟨j + 1, by omega, by go_num, HY2.out, by rw [HS.out]; exact HR2.out⟩
            case measure => simp [intOf]; omega
        · obtain rfl : j = xs.length := by omega
          have HBB := Lib.hid (show scB xs s = true by rw [HB.out]; exact scA_yes HT.out)
          go_wp2
          go_ret2
          rw [scV_yes HBB.out, HBB.out]
          exact ⟨_, rfl, HR.out.own, HR.out.2⟩
end Go.Proofs.Ytdlginbmelbfgaa
