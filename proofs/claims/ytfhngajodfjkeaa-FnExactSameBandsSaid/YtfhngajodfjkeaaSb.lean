/-
  Contracts: SameBands of both sides.
-/
import Derived.Test.YtfhngajodfjkeaaSam
import Derived.Test.YtfhngajodfjkeaaBn
import Derived.Deep.QuietTactic
import Derived.BigQuiet
namespace Go.Proofs.Ytfhngajodfjkeaa
open Go.RowKit Fl
set_option linter.unusedVariables false

theorem sb1_any (va vb : Value) (xs ys : List Nat) (w : World) (B B' : Nat) (ha : Rd w B va (fl xs)) (hb : Rd w B' vb (fl ys)) (hm : xs.length ≤ 1048576) (hm' : ys.length ≤ 1048576) (hx : ∀ x ∈ xs, x < 2 ^ 32) (hy : ∀ x ∈ ys, x < 2 ^ 32) :
    Calls Try.prog 79 #[va, vb] w (RetBo (wsB xs ys) w) := by
  have HW := Lib.hid (wsI_any va vb xs ys w B B' ha hb hm hm' hx hy)
  obtain ⟨A, c, hv, _, _, _⟩ := id ha
  obtain ⟨A', c', hv', _, _, _⟩ := id hb
  rw [fl_len] at hv hv'
  subst hv hv'
  clear hx hy
  generalize wsB xs ys = r at *
  go_enter Try.func79, Try.ntmps79
  go_wp2_with fail
  refine HW.out.mono ?_
  rintro e w1 ⟨rfl, n, rfl⟩
  go_wp2_with fail
  go_ret
  exact ⟨rfl, _, rfl⟩
def wrB (xss yss : List (List Nat)) : Bool := decide (xss.length = yss.length ∧ ∀ i (h : i < xss.length) (h2 : i < yss.length), wsB xss[i] yss[i] = true)
def WrTo (xss yss : List (List Nat)) (k : Nat) : Prop := ∀ i (h : i < xss.length) (h2 : i < yss.length), i < k → wsB xss[i] yss[i] = true
theorem wrB_len {xss yss : List (List Nat)} (h : xss.length ≠ yss.length) : wrB xss yss = false := decide_eq_false fun hh => h hh.1
theorem wrB_yes {xss yss : List (List Nat)} (hl : xss.length = yss.length) (h : WrTo xss yss xss.length) : wrB xss yss = true := decide_eq_true ⟨hl, fun i h1 h2 => h i h1 h2 h1⟩
theorem wrB_no {xss yss : List (List Nat)} {k : Nat} (h1 : k < xss.length) (h2 : k < yss.length) (h : wsB xss[k] yss[k] = false) : wrB xss yss = false := decide_eq_false fun hh => by rw [hh.2 k h1 h2] at h; cases h
theorem wrTo_succ {xss yss : List (List Nat)} {k : Nat} (h1 : k < xss.length) (h2 : k < yss.length) (ht : WrTo xss yss k) (h : wsB xss[k] yss[k] = true) : WrTo xss yss (k + 1) := by
  intro i a b hi
  by_cases he : i = k
  · subst he; exact h
  · exact ht i a b (by omega)
def WrRel (w : World) (xss yss : List (List Nat)) (i : Value) (wr : World) : Prop := ∃ k m : Nat, k ≤ xss.length ∧ i = .int .i64 k ∧ WrTo xss yss k ∧ wr = w.drewN m
set_option maxRecDepth 100000 in
set_option maxHeartbeats 2000000 in
theorem wrP_any (va vb : Value) (xss yss : List (List Nat)) (w : World) (B B' : Nat) (ha : RdL w B va (fll xss)) (hb : RdL w B' vb (fll yss)) (hm : xss.length ≤ 1048576) (hm' : yss.length ≤ 1048576) (hn : ∀ xs ∈ xss, xs.length ≤ 1048576) (hn' : ∀ xs ∈ yss, xs.length ≤ 1048576) (hx : ∀ xs ∈ xss, ∀ x ∈ xs, x < 2 ^ 32) (hy : ∀ xs ∈ yss, ∀ x ∈ xs, x < 2 ^ 32) :
    Calls Try.prog 78 #[va, vb] w (RetBo (wrB xss yss) w) := by
  obtain ⟨vs, ho, hls⟩ := ha
  obtain ⟨us, hp, hus⟩ := hb
  have hlen : vs.length = xss.length := by rw [hls.1, fll_len]
  have hlen' : us.length = yss.length := by rw [hus.1, fll_len]
  obtain ⟨A, c, hv, hc1, hc2, hca⟩ := ho
  obtain ⟨A', c', hv', hc1', hc2', hcb⟩ := hp
  rw [hlen] at hv hca
  rw [hlen'] at hv' hcb
  subst hv hv'
  have HCa := Lib.hid hca
  have HCb := Lib.hid hcb
  have HL := Lib.hid hls
  have HU := Lib.hid hus
  have HN := Lib.hid hn
  have HN' := Lib.hid hn'
  have HX := Lib.hid hx
  have HY := Lib.hid hy
  have HLEN := Lib.hid hlen
  have HLEN' := Lib.hid hlen'
  clear hca hcb hls hus hn hn' hx hy hc1 hc2 hc1' hc2' hlen hlen'
  by_cases hl : xss.length = yss.length
  · have HLL := Lib.hid hl
    have hne : (((xss.length : Nat) : Int) != ((yss.length : Nat) : Int)) = false := by rw [bne_eq_false_iff_eq]; omega
    clear hl
    go_enter Try.func78, Try.ntmps78
    go_wp2
    go_loopw [13] (WrRel w xss yss) (fun i _ => xss.length - (intOf i).toNat)
    case atStart => exact ⟨0, 0, Nat.zero_le _, rfl, fun i _ _ h => by omega, rfl⟩
    case round =>
      obtain ⟨k, m, hk, rfl, ht, rfl⟩ := hrel
      have HT := Lib.hid ht
      clear ht
      by_cases hlt : k < xss.length
      · have hk2 : k < yss.length := by have := HLL.out; omega
        have z1 : (k : Int) < (xss.length : Int) := by omega
        have z2 : (k : Int) < (yss.length : Int) := by omega
        obtain ⟨b, off, rfl, hbl, hcc⟩ := HCa.out (by omega)
        obtain ⟨b', off', rfl, hbl', hcc'⟩ := HCb.out (by omega)
        have hx1 : vs[k]? = some (vs[k]'(by have := HLEN.out; omega)) := List.getElem?_eq_getElem _
        have hx2 : us[k]? = some (us[k]'(by have := HLEN'.out; omega)) := List.getElem?_eq_getElem _
        have h1 : w.cell? ⟨b, off + k, none⟩ = some (vs[k]'(by have := HLEN.out; omega)) := hcc k _ hx1
        have h2 : w.cell? ⟨b', off' + k, none⟩ = some (us[k]'(by have := HLEN'.out; omega)) := hcc' k _ hx2
        have r1 := HL.out.2 k _ _ hx1 (fll_get _ _ hlt)
        have r2 := HU.out.2 k _ _ hx2 (fll_get _ _ hk2)
        have HC := Lib.hid (fun n => wsP_any _ _ xss[k] yss[k] (w.drewN n) B B' (r1.drewN n) (r2.drewN n) (HN.out _ (List.getElem_mem hlt)) (HN'.out _ (List.getElem_mem hk2)) (HX.out _ (List.getElem_mem hlt)) (HY.out _ (List.getElem_mem hk2)))
        obtain ⟨Ax, cx, hxv, _, _, _⟩ := id r1
        obtain ⟨Ay, cy, hyv, _, _, _⟩ := id r2
        rw [fl_len] at hxv hyv
        rw [hxv] at h1 HC
        rw [hyv] at h2 HC
        clear hxv hyv hx1 hx2 r1 r2 hcc hcc' HCa HCb HL HU HN HN' HX HY
        cases hs : wsB xss[k] yss[k] with
        | true =>
          have HNX := Lib.hid (wrTo_succ hlt hk2 HT.out hs)
          rw [hs] at HC
          clear hs
          generalize xss[k].length = n1 at *
          generalize yss[k].length = n2 at *
          have HQ := Lib.hid (fun a => (HC.out (m + a)).mono (R' := fun e w'' => e = .returned (.bool true) ∧ ∃ q, w'' = w.drewN (m + q)) fun e w' ⟨he, q, hw⟩ => ⟨he, a + q, by rw [hw, World.drewN_drewN, Nat.add_assoc]⟩)
          clear HC
          go_wp2_with fail
          go_quiet ((exact HQ.out _))
          go_wp2
          go_roundw
          case rel => exact ⟨k + 1, m + nq, by omega, by go_num, HNX.out, by first | rfl | (rw [World.drewN_drewN])⟩
          case measure => simp [intOf]; omega
        | false =>
          have HNX := Lib.hid (wrB_no hlt hk2 hs)
          rw [hs] at HC
          clear hs
          generalize xss[k].length = n1 at *
          generalize yss[k].length = n2 at *
          have HQ := Lib.hid (fun a => (HC.out (m + a)).mono (R' := fun e w'' => e = .returned (.bool false) ∧ ∃ q, w'' = w.drewN (m + q)) fun e w' ⟨he, q, hw⟩ => ⟨he, a + q, by rw [hw, World.drewN_drewN, Nat.add_assoc]⟩)
          clear HC
          go_wp2_with fail
          go_quiet ((exact HQ.out _))
          go_wp2
          go_ret
          rw [HNX.out]
          exact ⟨rfl, m + nq, by first | rfl | (rw [World.drewN_drewN])⟩
      · obtain rfl : k = xss.length := by omega
        have HNX := Lib.hid (wrB_yes HLL.out HT.out)
        go_wp2
        go_ret
        rw [HNX.out]
        exact ⟨rfl, _, rfl⟩
  · have HNX := Lib.hid (wrB_len hl)
    have hne : (((xss.length : Nat) : Int) != ((yss.length : Nat) : Int)) = true := by rw [bne_iff_ne]; omega
    clear hl
    go_enter Try.func78, Try.ntmps78
    go_wp2
    go_ret
    rw [HNX.out]
    exact ⟨rfl, 0, rfl⟩
set_option maxRecDepth 100000 in
set_option maxHeartbeats 2000000 in
theorem wrI_any (va vb : Value) (xss yss : List (List Nat)) (w : World) (B B' : Nat) (ha : RdL w B va (fll xss)) (hb : RdL w B' vb (fll yss)) (hm : xss.length ≤ 1048576) (hm' : yss.length ≤ 1048576) (hn : ∀ xs ∈ xss, xs.length ≤ 1048576) (hn' : ∀ xs ∈ yss, xs.length ≤ 1048576) (hx : ∀ xs ∈ xss, ∀ x ∈ xs, x < 2 ^ 32) (hy : ∀ xs ∈ yss, ∀ x ∈ xs, x < 2 ^ 32) :
    Calls Try.prog 80 #[va, vb, .func (.func 79) #[] #[]] w (RetBo (wrB xss yss) w) := by
  obtain ⟨vs, ho, hls⟩ := ha
  obtain ⟨us, hp, hus⟩ := hb
  have hlen : vs.length = xss.length := by rw [hls.1, fll_len]
  have hlen' : us.length = yss.length := by rw [hus.1, fll_len]
  obtain ⟨A, c, hv, hc1, hc2, hca⟩ := ho
  obtain ⟨A', c', hv', hc1', hc2', hcb⟩ := hp
  rw [hlen] at hv hca
  rw [hlen'] at hv' hcb
  subst hv hv'
  have HCa := Lib.hid hca
  have HCb := Lib.hid hcb
  have HL := Lib.hid hls
  have HU := Lib.hid hus
  have HN := Lib.hid hn
  have HN' := Lib.hid hn'
  have HX := Lib.hid hx
  have HY := Lib.hid hy
  have HLEN := Lib.hid hlen
  have HLEN' := Lib.hid hlen'
  clear hca hcb hls hus hn hn' hx hy hc1 hc2 hc1' hc2' hlen hlen'
  by_cases hl : xss.length = yss.length
  · have HLL := Lib.hid hl
    have hne : (((xss.length : Nat) : Int) != ((yss.length : Nat) : Int)) = false := by rw [bne_eq_false_iff_eq]; omega
    clear hl
    go_enter Try.func80, Try.ntmps80
    go_wp2
    go_loopw [17] (WrRel w xss yss) (fun i _ => xss.length - (intOf i).toNat)
    case atStart => exact ⟨0, 0, Nat.zero_le _, rfl, fun i _ _ h => by omega, rfl⟩
    case round =>
      obtain ⟨k, m, hk, rfl, ht, rfl⟩ := hrel
      have HT := Lib.hid ht
      clear ht
      by_cases hlt : k < xss.length
      · have hk2 : k < yss.length := by have := HLL.out; omega
        have z1 : (k : Int) < (xss.length : Int) := by omega
        have z2 : (k : Int) < (yss.length : Int) := by omega
        obtain ⟨b, off, rfl, hbl, hcc⟩ := HCa.out (by omega)
        obtain ⟨b', off', rfl, hbl', hcc'⟩ := HCb.out (by omega)
        have hx1 : vs[k]? = some (vs[k]'(by have := HLEN.out; omega)) := List.getElem?_eq_getElem _
        have hx2 : us[k]? = some (us[k]'(by have := HLEN'.out; omega)) := List.getElem?_eq_getElem _
        have h1 : w.cell? ⟨b, off + k, none⟩ = some (vs[k]'(by have := HLEN.out; omega)) := hcc k _ hx1
        have h2 : w.cell? ⟨b', off' + k, none⟩ = some (us[k]'(by have := HLEN'.out; omega)) := hcc' k _ hx2
        have r1 := HL.out.2 k _ _ hx1 (fll_get _ _ hlt)
        have r2 := HU.out.2 k _ _ hx2 (fll_get _ _ hk2)
        have HC := Lib.hid (fun n => sb1_any _ _ xss[k] yss[k] (w.drewN n) B B' (r1.drewN n) (r2.drewN n) (HN.out _ (List.getElem_mem hlt)) (HN'.out _ (List.getElem_mem hk2)) (HX.out _ (List.getElem_mem hlt)) (HY.out _ (List.getElem_mem hk2)))
        obtain ⟨Ax, cx, hxv, _, _, _⟩ := id r1
        obtain ⟨Ay, cy, hyv, _, _, _⟩ := id r2
        rw [fl_len] at hxv hyv
        rw [hxv] at h1 HC
        rw [hyv] at h2 HC
        clear hxv hyv hx1 hx2 r1 r2 hcc hcc' HCa HCb HL HU HN HN' HX HY
        cases hs : wsB xss[k] yss[k] with
        | true =>
          have HNX := Lib.hid (wrTo_succ hlt hk2 HT.out hs)
          rw [hs] at HC
          clear hs
          generalize xss[k].length = n1 at *
          generalize yss[k].length = n2 at *
          go_wp2_with fail
          refine (HC.out _).mono ?_
          rintro e w' ⟨rfl, n, rfl⟩
          go_wp2_with fail
          go_roundw
          case rel => exact ⟨k + 1, _, by omega, by go_num, HNX.out, rfl⟩
          case measure => simp [intOf]; omega
        | false =>
          have HNX := Lib.hid (wrB_no hlt hk2 hs)
          rw [hs] at HC
          clear hs
          generalize xss[k].length = n1 at *
          generalize yss[k].length = n2 at *
          go_wp2_with fail
          refine (HC.out _).mono ?_
          rintro e w' ⟨rfl, n, rfl⟩
          go_wp2_with fail
          go_ret
          rw [HNX.out]
          exact ⟨rfl, _, rfl⟩
      · obtain rfl : k = xss.length := by omega
        have HNX := Lib.hid (wrB_yes HLL.out HT.out)
        go_wp2
        go_ret
        rw [HNX.out]
        exact ⟨rfl, _, rfl⟩
  · have HNX := Lib.hid (wrB_len hl)
    have hne : (((xss.length : Nat) : Int) != ((yss.length : Nat) : Int)) = true := by rw [bne_iff_ne]; omega
    clear hl
    go_enter Try.func80, Try.ntmps80
    go_wp2
    go_ret
    rw [HNX.out]
    exact ⟨rfl, 0, rfl⟩
def sbB (xs : List Nat) (xss : List (List Nat)) (ys : List Nat) (yss : List (List Nat)) : Bool := wsB xs ys && wrB xss yss
def RetBB (b : Bool) (w : World) (e : Ending) (w' : World) : Prop := e = .returned (.bool b) ∧ Below w.heap.size w w'
set_option maxRecDepth 100000 in
set_option maxHeartbeats 1000000 in
theorem sbS_any (va ua vb ub : Value) (xs ys : List Nat) (xss yss : List (List Nat)) (w : World) (ha : Rd w w.heap.size va (fl xs)) (ka : RdL w w.heap.size ua (fll xss)) (hb : Rd w w.heap.size vb (fl ys)) (kb : RdL w w.heap.size ub (fll yss)) (hm : xs.length ≤ 1048576) (hm' : ys.length ≤ 1048576) (hk : xss.length ≤ 1048576) (hk' : yss.length ≤ 1048576) (hn : ∀ xs ∈ xss, xs.length ≤ 1048576) (hn' : ∀ xs ∈ yss, xs.length ≤ 1048576)
    (hx : ∀ x ∈ xs, x < 2 ^ 32) (hy : ∀ x ∈ ys, x < 2 ^ 32) (hxx : ∀ xs ∈ xss, ∀ x ∈ xs, x < 2 ^ 32) (hyy : ∀ xs ∈ yss, ∀ x ∈ xs, x < 2 ^ 32) :
    Calls Try.prog 43 #[.agg #[va, ua], .agg #[vb, ub]] w (RetBB (sbB xs xss ys yss) w) := by
  have hb2 : Below w.heap.size w ((w.alloc (.cells #[va, ua] 50)).alloc (.cells #[vb, ub] 50)) := ((Below.refl _ _).alloc (Nat.le_refl _) _).alloc (by simp) _
  have HW := Lib.hid (wsP_any va vb xs ys _ _ _ (ha.step hb2) (hb.step hb2) hm hm' hx hy)
  have HR := Lib.hid (fun n => wrP_any ua ub xss yss (((w.alloc (.cells #[va, ua] 50)).alloc (.cells #[vb, ub] 50)).drewN n) _ _ ((ka.step hb2).drewN n) ((kb.step hb2).drewN n) hk hk' hn hn' hxx hyy)
  obtain ⟨A, c, hva, _, _, _⟩ := id ha
  obtain ⟨A', c', hvb, _, _, _⟩ := id hb
  rw [fl_len] at hva hvb
  subst hva hvb
  obtain ⟨vs, ⟨D, d, hua, _, _, _⟩, _⟩ := id ka
  obtain ⟨us, ⟨D', d', hub, _, _, _⟩, _⟩ := id kb
  subst hua hub
  clear hx hy hxx hyy hn hn' ha hb ka kb
  cases h1 : wsB xs ys with
  | false =>
    have HV := Lib.hid (show sbB xs xss ys yss = false by unfold sbB; rw [h1]; rfl)
    rw [h1] at HW
    clear h1 HR
    go_enter Try.func43, Try.ntmps43
    go_wp2_with fail
    refine HW.out.mono ?_
    rintro e w1 ⟨rfl, n, rfl⟩
    go_wp2_with fail
    go_ret
    rw [HV.out]
    exact ⟨rfl, below_drawn hb2 _⟩
  | true =>
    have HV := Lib.hid (show sbB xs xss ys yss = wrB xss yss by unfold sbB; rw [h1]; rfl)
    rw [h1] at HW
    clear h1
    generalize wrB xss yss = r at *
    go_enter Try.func43, Try.ntmps43
    go_wp2_with fail
    refine HW.out.mono ?_
    rintro e w1 ⟨rfl, n, rfl⟩
    go_wp2_with fail
    refine (HR.out n).mono ?_
    rintro e w1 ⟨rfl, n2, rfl⟩
    go_wp2_with fail
    go_ret
    rw [HV.out]
    exact ⟨rfl, below_drawn hb2 _⟩
set_option maxRecDepth 100000 in
set_option maxHeartbeats 1000000 in
theorem sbI_any (va ua vb ub : Value) (xs ys : List Nat) (xss yss : List (List Nat)) (w : World) (ha : Rd w w.heap.size va (fl xs)) (ka : RdL w w.heap.size ua (fll xss)) (hb : Rd w w.heap.size vb (fl ys)) (kb : RdL w w.heap.size ub (fll yss)) (hm : xs.length ≤ 1048576) (hm' : ys.length ≤ 1048576) (hk : xss.length ≤ 1048576) (hk' : yss.length ≤ 1048576) (hn : ∀ xs ∈ xss, xs.length ≤ 1048576) (hn' : ∀ xs ∈ yss, xs.length ≤ 1048576)
    (hx : ∀ x ∈ xs, x < 2 ^ 32) (hy : ∀ x ∈ ys, x < 2 ^ 32) (hxx : ∀ xs ∈ xss, ∀ x ∈ xs, x < 2 ^ 32) (hyy : ∀ xs ∈ yss, ∀ x ∈ xs, x < 2 ^ 32) :
    Calls Try.prog 44 #[.agg #[va, ua], .agg #[vb, ub]] w (RetBB (sbB xs xss ys yss) w) := by
  have hb2 : Below w.heap.size w ((w.alloc (.cells #[va, ua] 50)).alloc (.cells #[vb, ub] 50)) := ((Below.refl _ _).alloc (Nat.le_refl _) _).alloc (by simp) _
  have HW := Lib.hid (sb1_any va vb xs ys _ _ _ (ha.step hb2) (hb.step hb2) hm hm' hx hy)
  have HR := Lib.hid (fun n => wrI_any ua ub xss yss (((w.alloc (.cells #[va, ua] 50)).alloc (.cells #[vb, ub] 50)).drewN n) _ _ ((ka.step hb2).drewN n) ((kb.step hb2).drewN n) hk hk' hn hn' hxx hyy)
  obtain ⟨A, c, hva, _, _, _⟩ := id ha
  obtain ⟨A', c', hvb, _, _, _⟩ := id hb
  rw [fl_len] at hva hvb
  subst hva hvb
  obtain ⟨vs, ⟨D, d, hua, _, _, _⟩, _⟩ := id ka
  obtain ⟨us, ⟨D', d', hub, _, _, _⟩, _⟩ := id kb
  subst hua hub
  clear hx hy hxx hyy hn hn' ha hb ka kb
  cases h1 : wsB xs ys with
  | false =>
    have HV := Lib.hid (show sbB xs xss ys yss = false by unfold sbB; rw [h1]; rfl)
    rw [h1] at HW
    clear h1 HR
    go_enter Try.func44, Try.ntmps44
    go_wp2_with fail
    refine HW.out.mono ?_
    rintro e w1 ⟨rfl, n, rfl⟩
    go_wp2_with fail
    go_ret
    rw [HV.out]
    exact ⟨rfl, below_drawn hb2 _⟩
  | true =>
    have HV := Lib.hid (show sbB xs xss ys yss = wrB xss yss by unfold sbB; rw [h1]; rfl)
    rw [h1] at HW
    clear h1
    generalize wrB xss yss = r at *
    go_enter Try.func44, Try.ntmps44
    go_wp2_with fail
    refine HW.out.mono ?_
    rintro e w1 ⟨rfl, n, rfl⟩
    go_wp2_with fail
    refine (HR.out n).mono ?_
    rintro e w1 ⟨rfl, n2, rfl⟩
    go_wp2_with fail
    go_ret
    rw [HV.out]
    exact ⟨rfl, below_drawn hb2 _⟩
end Go.Proofs.Ytfhngajodfjkeaa
