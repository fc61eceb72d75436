/-
  Contract: BandOf of the program.
-/
import Derived.Test.YtfbdmhkmkmbipaaBnK
import Derived.Test.YtfbdmhkmkmbipaaCroI
import Derived.Test.YtfbdmhkmkmbipaaRgr
namespace Go.Proofs.Ytfbdmhkmkmbipaa
open Go.RowKit Fl
set_option linter.unusedVariables false
set_option maxRecDepth 100000
set_option maxHeartbeats 8000000 in
theorem bandI_any (v : Value) (p q : Int) (xs : List Nat) (l b : Int) (w : World) (h : Rd w w.heap.size v (fl xs)) (hm : xs.length ≤ 1048576) (hx : ∀ x ∈ xs, x < 2 ^ 32) :
    Calls Try.prog 46 #[.agg #[.int .i64 p, .int .i64 q, v], .int .i64 l, .int .i64 b] w (RetBn p q xs l b w) := by
  obtain ⟨A, c, hv, hnc, hcm, hcell⟩ := id h
  rw [fl_len] at hv hnc hcell
  subst hv
  obtain ⟨w0, hw0⟩ : ∃ w0, ((w.alloc (.cells #[.int .i64 p, .int .i64 q, .slice A xs.length c] 50)).alloc (.cells #[.int .i64 0, .int .i64 0, .slice none 0 0] 50)) = w0 := ⟨_, rfl⟩
  have hb0 : Below w.heap.size w w0 := by rw [← hw0]; exact ((Below.refl _ _).alloc (Nat.le_refl _) _).alloc (by simp) _
  have hz : w0.heap.size = w.heap.size + 2 := by rw [← hw0]; simp
  have hlt : w.heap.size + 1 < w0.heap.size := by omega
  have x0 : w0.cell? ⟨w.heap.size, 0, none⟩ = some (.int .i64 p) := by rw [← hw0]; simp [go_sem]
  have x1 : w0.cell? ⟨w.heap.size, 1, none⟩ = some (.int .i64 q) := by rw [← hw0]; simp [go_sem]
  have x2 : w0.cell? ⟨w.heap.size, 2, none⟩ = some (.slice A xs.length c) := by rw [← hw0]; simp [go_sem]
  have r0 : w0.cell? ⟨w.heap.size + 1, 0, none⟩ = some (.int .i64 0) := by rw [← hw0]; simp [go_sem]
  have r1 : w0.cell? ⟨w.heap.size + 1, 1, none⟩ = some (.int .i64 0) := by rw [← hw0]; simp [go_sem]
  have r2 : w0.cell? ⟨w.heap.size + 1, 2, none⟩ = some (.slice none 0 0) := by rw [← hw0]; simp [go_sem]
  have e0 : w0.frozen? ⟨w.heap.size + 1, 0, none⟩ = false := by rw [← hw0]; simp [go_sem]
  have e1 : w0.frozen? ⟨w.heap.size + 1, 1, none⟩ = false := by rw [← hw0]; simp [go_sem]
  have e2 : w0.frozen? ⟨w.heap.size + 1, 2, none⟩ = false := by rw [← hw0]; simp [go_sem]
  have HV := Lib.hid (rrI_any p q l b w0)
  have hb0w := hb0
  have HB0 := Lib.hid hb0
  have hxl : w.heap.size < w0.heap.size := by omega
  cases hs : rgB p q l b with
  | false =>
    rw [retBn_no (bnB_rg hs)]
    have HRV := Lib.hid (show rgV rgX p q l b = 0 ∧ rgV rgY p q l b = 0 ∧ rgV rgW p q l b = 0 ∧ rgV rgH p q l b = 0 from by unfold rgV; rw [hs]; exact ⟨rfl, rfl, rfl, rfl⟩)
    unfold RetRg at HV
    rw [hs] at HV
    clear hs h hx hb0
    go_enter Try.func46, Try.ntmps46
    go_wp2_with fail
    with_reducible refine HV.out.mono ?_
    rintro e w1 ⟨rfl, hb1⟩
    replace r0 := (hb1.cell (p := ⟨w.heap.size + 1, 0, none⟩) hlt).trans r0
    replace r1 := (hb1.cell (p := ⟨w.heap.size + 1, 1, none⟩) hlt).trans r1
    replace r2 := (hb1.cell (p := ⟨w.heap.size + 1, 2, none⟩) hlt).trans r2
    replace e0 := (hb1.frozen (p := ⟨w.heap.size + 1, 0, none⟩) hlt).trans e0
    replace e1 := (hb1.frozen (p := ⟨w.heap.size + 1, 1, none⟩) hlt).trans e1
    replace e2 := (hb1.frozen (p := ⟨w.heap.size + 1, 2, none⟩) hlt).trans e2
    have HB1 := Lib.hid (HB0.out.trans (hb1.mono HB0.out.size))
    clear hb1
    have HB := Lib.hid (((HB1.out.setCell (p := ⟨w.heap.size + 1, 0, none⟩) (by show w.heap.size ≤ w.heap.size + 1; omega) (.int .i64 0)).setCell (p := ⟨w.heap.size + 1, 1, none⟩) (by show w.heap.size ≤ w.heap.size + 1; omega) (.int .i64 0)).setCell (p := ⟨w.heap.size + 1, 2, none⟩) (by show w.heap.size ≤ w.heap.size + 1; omega) (.slice none 0 0))
    go_wp2_with fail
    exact bodyPost_ret (v := .tuple #[.agg #[.int .i64 0, .int .i64 0, .slice none 0 0], .bool false]) (by simp [results, Try.results46, go_sem, r0, r1, r2]) rfl (retPc_no _ _ HB.out)
  | true =>
    obtain ⟨m, hm1⟩ : ∃ m : Nat, l = (m : Int) + 1 := by
      unfold rgB at hs; rw [Bool.and_eq_true, Bool.and_eq_true] at hs
      have := of_decide_eq_true hs.1.2
      exact ⟨(l - 1).toNat, by omega⟩
    subst hm1
    have HCR := Lib.hid (fun (w1 : World) (hb1 : Below w0.heap.size w0 w1) => (show Calls Try.prog 99 #[.agg #[.int .i64 p, .int .i64 q, .slice A xs.length c], .int .i64 (rgX m b p q), .int .i64 (rgY m b p q), .int .i64 (rgW m b p q), .int .i64 (rgH m b p q)] w1 (RetBn p q xs ((m : Int) + 1) b w1) by rw [← retCr_bn hs]; exact cropI_any (.slice A xs.length c) p q xs _ _ _ _ w1 ((h.step hb0).step hb1) hm hx))
    unfold RetRg rgV at HV
    rw [hs] at HV
    simp only [if_true, show ((m : Int) + 1 - 1).toNat = m by omega] at HV
    clear hs h hx hb0
    generalize rgX m b p q = X at *
    generalize rgY m b p q = Y at *
    unfold RetBn at HCR ⊢
    rw [show ((m : Int) + 1 - 1).toNat = m by omega] at HCR ⊢
    generalize crP (bnB p q xs ((m : Int) + 1) b) (rgW m b p q) = P at *
    generalize crP (bnB p q xs ((m : Int) + 1) b) (rgH m b p q) = Q at *
    generalize bnV p q xs ((m : Int) + 1) b = L at *
    generalize bnB p q xs ((m : Int) + 1) b = B at *
    generalize rgW m b p q = W at *
    generalize rgH m b p q = H at *
    go_enter Try.func46, Try.ntmps46
    go_wp2_with fail
    with_reducible refine HV.out.mono ?_
    rintro e w1 ⟨rfl, hb1⟩
    replace r0 := (hb1.cell (p := ⟨w.heap.size + 1, 0, none⟩) hlt).trans r0
    replace r1 := (hb1.cell (p := ⟨w.heap.size + 1, 1, none⟩) hlt).trans r1
    replace r2 := (hb1.cell (p := ⟨w.heap.size + 1, 2, none⟩) hlt).trans r2
    replace e0 := (hb1.frozen (p := ⟨w.heap.size + 1, 0, none⟩) hlt).trans e0
    replace e1 := (hb1.frozen (p := ⟨w.heap.size + 1, 1, none⟩) hlt).trans e1
    replace e2 := (hb1.frozen (p := ⟨w.heap.size + 1, 2, none⟩) hlt).trans e2
    replace x0 := (hb1.cell (p := ⟨w.heap.size, 0, none⟩) (by show w.heap.size < _; omega)).trans x0
    replace x1 := (hb1.cell (p := ⟨w.heap.size, 1, none⟩) (by show w.heap.size < _; omega)).trans x1
    replace x2 := (hb1.cell (p := ⟨w.heap.size, 2, none⟩) (by show w.heap.size < _; omega)).trans x2
    replace hlt : w.heap.size + 1 < w1.heap.size := Nat.lt_of_lt_of_le hlt hb1.size
    replace hxl : w.heap.size < w1.heap.size := Nat.lt_of_lt_of_le hxl hb1.size
    have HB1 := Lib.hid (HB0.out.trans (hb1.mono HB0.out.size))
    have HT := Lib.hid (HCR.out w1 hb1)
    clear hb1 HCR hw0
    go_wp2_with fail
    with_reducible refine HT.out.mono ?_
    rintro e w5 ⟨v, rfl, ho5, hb5⟩
    obtain ⟨A5, c5, hv5, _, _, _⟩ := id ho5
    subst hv5
    have HB5 := Lib.hid (HB1.out.trans (hb5.mono HB1.out.size))
    replace r0 := (hb5.cell (p := ⟨w.heap.size + 1, 0, none⟩) hlt).trans r0
    replace r1 := (hb5.cell (p := ⟨w.heap.size + 1, 1, none⟩) hlt).trans r1
    replace r2 := (hb5.cell (p := ⟨w.heap.size + 1, 2, none⟩) hlt).trans r2
    replace e0 := (hb5.frozen (p := ⟨w.heap.size + 1, 0, none⟩) hlt).trans e0
    replace e1 := (hb5.frozen (p := ⟨w.heap.size + 1, 1, none⟩) hlt).trans e1
    replace e2 := (hb5.frozen (p := ⟨w.heap.size + 1, 2, none⟩) hlt).trans e2
    have HOF := Lib.hid ((((ho5.setLess (a := ⟨w.heap.size + 1, 0, none⟩) hlt (.int .i64 P)).setLess (a := ⟨w.heap.size + 1, 1, none⟩) hlt (.int .i64 Q)).setLess (a := ⟨w.heap.size + 1, 2, none⟩) hlt (.slice A5 (fl L).length c5)).less (lo' := w.heap.size) HB1.out.size)
    have HB := Lib.hid (((HB5.out.setCell (p := ⟨w.heap.size + 1, 0, none⟩) (by show w.heap.size ≤ w.heap.size + 1; omega) (.int .i64 P)).setCell (p := ⟨w.heap.size + 1, 1, none⟩) (by show w.heap.size ≤ w.heap.size + 1; omega) (.int .i64 Q)).setCell (p := ⟨w.heap.size + 1, 2, none⟩) (by show w.heap.size ≤ w.heap.size + 1; omega) (.slice A5 (fl L).length c5))
    clear ho5 hb5
    go_wp2_with fail
    exact bodyPost_ret (v := .tuple #[.agg #[.int .i64 P, .int .i64 Q, .slice A5 (fl L).length c5], .bool B]) (by simp [results, Try.results46, go_sem, r0, r1, r2]) rfl ⟨_, rfl, HOF.out, HB.out⟩
end Go.Proofs.Ytfbdmhkmkmbipaa
