/-
  Contract: BandOf of the model.
-/
import Derived.Test.YtfbdmhkmkmbipaaBnK
import Derived.Test.YtfbdmhkmkmbipaaBnd
import Derived.Test.YtfbdmhkmkmbipaaPlK
namespace Go.Proofs.Ytfbdmhkmkmbipaa
open Go.RowKit Fl
set_option linter.unusedVariables false
set_option maxRecDepth 100000
set_option maxHeartbeats 8000000 in
theorem bandS_any (v : Value) (p q : Int) (xs : List Nat) (l b : Int) (w : World) (h : Rd w w.heap.size v (fl xs)) (hm : xs.length ≤ 1048576) (hx : ∀ x ∈ xs, x < 2 ^ 32) :
    Calls Try.prog 45 #[.agg #[.int .i64 p, .int .i64 q, v], .int .i64 l, .int .i64 b] w (RetBn p q xs l b w) := by
  obtain ⟨A, c, hv, hnc, hcm, hcell⟩ := id h
  rw [fl_len] at hv hnc hcell
  subst hv
  obtain ⟨w0, hw0⟩ : ∃ w0, ((w.alloc (.cells #[.int .i64 p, .int .i64 q, .slice A xs.length c] 50)).alloc (.cells #[.int .i64 0, .int .i64 0, .slice none 0 0] 50)) = w0 := ⟨_, rfl⟩
  have hb0 : Below w.heap.size w w0 := by rw [← hw0]; exact ((Below.refl _ _).alloc (Nat.le_refl _) _).alloc (by simp) _
  have hz : w0.heap.size = w.heap.size + 2 := by rw [← hw0]; simp
  have hlt : w.heap.size + 1 < w0.heap.size := by omega
  have x0 : w0.cell? ⟨w.heap.size, 0, none⟩ = some (.int .i64 p) := by rw [← hw0]; simp [go_sem]
  have x1 : w0.cell? ⟨w.heap.size, 1, none⟩ = some (.int .i64 q) := by rw [← hw0]; simp [go_sem]
  have x2 : w0.cell? ⟨w.heap.size, 2, none⟩ = some (.slice A xs.length c) := by rw [← hw0]; simp [go_sem]
  have r0 : w0.cell? ⟨w.heap.size + 1, 0, none⟩ = some (.int .i64 0) := by rw [← hw0]; simp [go_sem]
  have r1 : w0.cell? ⟨w.heap.size + 1, 1, none⟩ = some (.int .i64 0) := by rw [← hw0]; simp [go_sem]
  have r2 : w0.cell? ⟨w.heap.size + 1, 2, none⟩ = some (.slice none 0 0) := by rw [← hw0]; simp [go_sem]
  have e0 : w0.frozen? ⟨w.heap.size + 1, 0, none⟩ = false := by rw [← hw0]; simp [go_sem]
  have e1 : w0.frozen? ⟨w.heap.size + 1, 1, none⟩ = false := by rw [← hw0]; simp [go_sem]
  have e2 : w0.frozen? ⟨w.heap.size + 1, 2, none⟩ = false := by rw [← hw0]; simp [go_sem]
  have HV := Lib.hid (vpP_any w.heap.size (.slice A xs.length c) p q xs w0 w.heap.size (h.below hb0) x0 x1 x2 hm hx)
  have HB0 := Lib.hid hb0
  have HC := Lib.hid hcell
  have HXX := Lib.hid hx
  have H2 := Lib.hid (fun w => lvS_any l w)
  have H3 := Lib.hid (fun w => inB_any b 0 3 w)
  have hxl : w.heap.size < w0.heap.size := by omega
  clear hb0 h hx hcell
  cases hs : vpcB p q xs with
  | false =>
    rw [retBn_no (by unfold bnB; rw [hs]; rfl)]
    rw [hs] at HV
    clear hs
    go_enter Try.func45, Try.ntmps45
    go_wp2_with fail
    with_reducible refine HV.out.mono ?_
    rintro e w1 ⟨rfl, n1, hw1⟩
    have hb1 : Below w0.heap.size w0 w1 := by rw [hw1]; exact below_drawn (Below.refl _ _) _
    have HB1 := Lib.hid (HB0.out.trans (hb1.mono HB0.out.size))
    have hz1 : w0.heap.size ≤ w1.heap.size := hb1.size
    replace r0 := (hb1.cell (p := ⟨w.heap.size + 1, 0, none⟩) hlt).trans r0
    replace r1 := (hb1.cell (p := ⟨w.heap.size + 1, 1, none⟩) hlt).trans r1
    replace r2 := (hb1.cell (p := ⟨w.heap.size + 1, 2, none⟩) hlt).trans r2
    replace e0 := (hb1.frozen (p := ⟨w.heap.size + 1, 0, none⟩) hlt).trans e0
    replace e1 := (hb1.frozen (p := ⟨w.heap.size + 1, 1, none⟩) hlt).trans e1
    replace e2 := (hb1.frozen (p := ⟨w.heap.size + 1, 2, none⟩) hlt).trans e2
    replace hlt : w.heap.size + 1 < w1.heap.size := by omega
    replace hxl : w.heap.size < w1.heap.size := by omega
    clear hb1 hw1
    clear hw0
    have HB := Lib.hid (((HB1.out.setCell (p := ⟨w.heap.size + 1, 0, none⟩) (by show w.heap.size ≤ w.heap.size + 1; omega) (.int .i64 0)).setCell (p := ⟨w.heap.size + 1, 1, none⟩) (by show w.heap.size ≤ w.heap.size + 1; omega) (.int .i64 0)).setCell (p := ⟨w.heap.size + 1, 2, none⟩) (by show w.heap.size ≤ w.heap.size + 1; omega) (.slice none 0 0))
    go_wp2_with fail
    exact bodyPost_ret (v := .tuple #[.agg #[.int .i64 0, .int .i64 0, .slice none 0 0], .bool false]) (by simp [results, Try.results45, go_sem, r0, r1, r2]) rfl (retPc_no _ _ HB.out)
  | true =>
    rw [hs] at HV
    cases hll : lvB l with
    | false =>
      rw [retBn_no (by unfold bnB; rw [hll]; simp)]
      rw [hll] at H2
      clear hs hll
      go_enter Try.func45, Try.ntmps45
      go_wp2_with fail
      with_reducible refine HV.out.mono ?_
      rintro e w1 ⟨rfl, n1, hw1⟩
      have hb1 : Below w0.heap.size w0 w1 := by rw [hw1]; exact below_drawn (Below.refl _ _) _
      have HB1 := Lib.hid (HB0.out.trans (hb1.mono HB0.out.size))
      have hz1 : w0.heap.size ≤ w1.heap.size := hb1.size
      replace r0 := (hb1.cell (p := ⟨w.heap.size + 1, 0, none⟩) hlt).trans r0
      replace r1 := (hb1.cell (p := ⟨w.heap.size + 1, 1, none⟩) hlt).trans r1
      replace r2 := (hb1.cell (p := ⟨w.heap.size + 1, 2, none⟩) hlt).trans r2
      replace e0 := (hb1.frozen (p := ⟨w.heap.size + 1, 0, none⟩) hlt).trans e0
      replace e1 := (hb1.frozen (p := ⟨w.heap.size + 1, 1, none⟩) hlt).trans e1
      replace e2 := (hb1.frozen (p := ⟨w.heap.size + 1, 2, none⟩) hlt).trans e2
      replace hlt : w.heap.size + 1 < w1.heap.size := by omega
      replace hxl : w.heap.size < w1.heap.size := by omega
      clear hb1 hw1
      go_wp2_with fail
      with_reducible refine (H2.out _).mono ?_
      rintro e w2 ⟨rfl, hw2⟩
      subst hw2
      clear hw0
      have HB := Lib.hid (((HB1.out.setCell (p := ⟨w.heap.size + 1, 0, none⟩) (by show w.heap.size ≤ w.heap.size + 1; omega) (.int .i64 0)).setCell (p := ⟨w.heap.size + 1, 1, none⟩) (by show w.heap.size ≤ w.heap.size + 1; omega) (.int .i64 0)).setCell (p := ⟨w.heap.size + 1, 2, none⟩) (by show w.heap.size ≤ w.heap.size + 1; omega) (.slice none 0 0))
      go_wp2_with fail
      exact bodyPost_ret (v := .tuple #[.agg #[.int .i64 0, .int .i64 0, .slice none 0 0], .bool false]) (by simp [results, Try.results45, go_sem, r0, r1, r2]) rfl (retPc_no _ _ HB.out)
    | true =>
      rw [hll] at H2
      cases hbb : decide (0 ≤ b ∧ b ≤ 3) with
      | false =>
        rw [retBn_no (by unfold bnB; rw [hbb]; simp)]
        rw [hbb] at H3
        clear hs hll hbb
        go_enter Try.func45, Try.ntmps45
        go_wp2_with fail
        with_reducible refine HV.out.mono ?_
        rintro e w1 ⟨rfl, n1, hw1⟩
        have hb1 : Below w0.heap.size w0 w1 := by rw [hw1]; exact below_drawn (Below.refl _ _) _
        have HB1 := Lib.hid (HB0.out.trans (hb1.mono HB0.out.size))
        have hz1 : w0.heap.size ≤ w1.heap.size := hb1.size
        replace r0 := (hb1.cell (p := ⟨w.heap.size + 1, 0, none⟩) hlt).trans r0
        replace r1 := (hb1.cell (p := ⟨w.heap.size + 1, 1, none⟩) hlt).trans r1
        replace r2 := (hb1.cell (p := ⟨w.heap.size + 1, 2, none⟩) hlt).trans r2
        replace e0 := (hb1.frozen (p := ⟨w.heap.size + 1, 0, none⟩) hlt).trans e0
        replace e1 := (hb1.frozen (p := ⟨w.heap.size + 1, 1, none⟩) hlt).trans e1
        replace e2 := (hb1.frozen (p := ⟨w.heap.size + 1, 2, none⟩) hlt).trans e2
        replace hlt : w.heap.size + 1 < w1.heap.size := by omega
        replace hxl : w.heap.size < w1.heap.size := by omega
        clear hb1 hw1
        go_wp2_with fail
        with_reducible refine (H2.out _).mono ?_
        rintro e w2 ⟨rfl, hw2⟩
        subst hw2
        go_wp2_with fail
        with_reducible refine (H3.out _).mono ?_
        rintro e w3 ⟨rfl, hw3⟩
        subst hw3
        clear hw0
        have HB := Lib.hid (((HB1.out.setCell (p := ⟨w.heap.size + 1, 0, none⟩) (by show w.heap.size ≤ w.heap.size + 1; omega) (.int .i64 0)).setCell (p := ⟨w.heap.size + 1, 1, none⟩) (by show w.heap.size ≤ w.heap.size + 1; omega) (.int .i64 0)).setCell (p := ⟨w.heap.size + 1, 2, none⟩) (by show w.heap.size ≤ w.heap.size + 1; omega) (.slice none 0 0))
        go_wp2_with fail
        exact bodyPost_ret (v := .tuple #[.agg #[.int .i64 0, .int .i64 0, .slice none 0 0], .bool false]) (by simp [results, Try.results45, go_sem, r0, r1, r2]) rfl (retPc_no _ _ HB.out)
      | true =>
        rw [hbb] at H3
        obtain ⟨b1, b2, hl, hfin⟩ := vpcB_out hs
        have hbd := mul_bd b1 b2
        have hb3 := of_decide_eq_true hbb
        have hl4 := of_decide_eq_true hll
        obtain ⟨m, hm1⟩ : ∃ m : Nat, l = (m : Int) + 1 := ⟨(l - 1).toNat, by omega⟩
        subst hm1
        obtain ⟨bk, off, rfl, hbw, hcells⟩ := HC.out (by omega)
        have HSRC := Lib.hid (show ∀ (i : Nat) (h : i < xs.length), w.cell? ⟨bk, off + i, none⟩ = some (.float .f32 (xs.getD i 0)) from fun i hi => by have := hcells i _ (fl_get xs i hi); simpa [List.getD, hi] using this)
        have HBL := Lib.hid (bc_len_le b1 b2 xs m b)
        have HBX := Lib.hid (show ∀ x ∈ bcL p q xs m b, x < 2 ^ 32 from crL_lt HXX.out)
        clear hcells HC hfin
        cases he : bdE p q m b with
        | false =>
          rw [retBn_no (by unfold bnB; rw [show ((m : Int) + 1 - 1).toNat = m by omega, he]; simp)]
          have HE := Lib.hid he
          clear hs hll hbb he
          go_enter Try.func45, Try.ntmps45
          go_wp2_with fail
          with_reducible refine HV.out.mono ?_
          rintro e w1 ⟨rfl, n1, hw1⟩
          have hb1 : Below w0.heap.size w0 w1 := by rw [hw1]; exact below_drawn (Below.refl _ _) _
          have HB1 := Lib.hid (HB0.out.trans (hb1.mono HB0.out.size))
          have hz1 : w0.heap.size ≤ w1.heap.size := hb1.size
          replace r0 := (hb1.cell (p := ⟨w.heap.size + 1, 0, none⟩) hlt).trans r0
          replace r1 := (hb1.cell (p := ⟨w.heap.size + 1, 1, none⟩) hlt).trans r1
          replace r2 := (hb1.cell (p := ⟨w.heap.size + 1, 2, none⟩) hlt).trans r2
          replace e0 := (hb1.frozen (p := ⟨w.heap.size + 1, 0, none⟩) hlt).trans e0
          replace e1 := (hb1.frozen (p := ⟨w.heap.size + 1, 1, none⟩) hlt).trans e1
          replace e2 := (hb1.frozen (p := ⟨w.heap.size + 1, 2, none⟩) hlt).trans e2
          replace hlt : w.heap.size + 1 < w1.heap.size := by omega
          replace hxl : w.heap.size < w1.heap.size := by omega
          replace x0 := (hb1.cell (p := ⟨w.heap.size, 0, none⟩) (by show w.heap.size < _; omega)).trans x0
          replace x1 := (hb1.cell (p := ⟨w.heap.size, 1, none⟩) (by show w.heap.size < _; omega)).trans x1
          replace x2 := (hb1.cell (p := ⟨w.heap.size, 2, none⟩) (by show w.heap.size < _; omega)).trans x2
          clear hb1 hw1
          go_wp2_with fail
          with_reducible refine (H2.out _).mono ?_
          rintro e w2 ⟨rfl, hw2⟩
          subst hw2
          go_wp2_with fail
          with_reducible refine (H3.out _).mono ?_
          rintro e w3 ⟨rfl, hw3⟩
          subst hw3
          have HT := bndS_any w.heap.size p q b m bk off c xs.length xs w1 b1 b2 hl rfl (by omega) hb3 hxl (Nat.lt_of_lt_of_le hbw HB1.out.size) x0 x1 x2 (fun i hi => (HB1.out.cell (p := ⟨bk, off + i, none⟩) hbw).trans (HSRC.out i hi))
          rw [retBd_no b1 b2 HE.out] at HT
          replace HT := Lib.hid HT
          clear hw0 hl b1 b2 hbd
          go_wp2_with fail
          with_reducible refine HT.out.mono ?_
          rintro e w5 ⟨v, rfl, ho5, hb5⟩
          obtain ⟨A5, c5, hv5, _, _, _⟩ := id ho5
          rw [fl_len] at hv5
          subst hv5
          have HB5 := Lib.hid (HB1.out.trans (hb5.mono HB1.out.size))
          replace r0 := (hb5.cell (p := ⟨w.heap.size + 1, 0, none⟩) hlt).trans r0
          replace r1 := (hb5.cell (p := ⟨w.heap.size + 1, 1, none⟩) hlt).trans r1
          replace r2 := (hb5.cell (p := ⟨w.heap.size + 1, 2, none⟩) hlt).trans r2
          replace e0 := (hb5.frozen (p := ⟨w.heap.size + 1, 0, none⟩) hlt).trans e0
          replace e1 := (hb5.frozen (p := ⟨w.heap.size + 1, 1, none⟩) hlt).trans e1
          replace e2 := (hb5.frozen (p := ⟨w.heap.size + 1, 2, none⟩) hlt).trans e2
          replace hlt : w.heap.size + 1 < w5.heap.size := Nat.lt_of_lt_of_le hlt hb5.size
          have HG := Lib.hid (gvS_any 0 0 A5 c5 [] w5 (ho5.rd) (by simp) (fun x hx => by simp at hx))
          rw [vpc_nil, List.length_nil] at HG
          have HO5 := Lib.hid ho5
          clear hb5
          go_wp2_with fail
          with_reducible refine HG.out.mono ?_
          rintro e w6 ⟨rfl, hb6⟩
          have HB6 := Lib.hid (HB5.out.trans (hb6.mono HB5.out.size))
          replace r0 := (hb6.cell (p := ⟨w.heap.size + 1, 0, none⟩) hlt).trans r0
          replace r1 := (hb6.cell (p := ⟨w.heap.size + 1, 1, none⟩) hlt).trans r1
          replace r2 := (hb6.cell (p := ⟨w.heap.size + 1, 2, none⟩) hlt).trans r2
          replace e0 := (hb6.frozen (p := ⟨w.heap.size + 1, 0, none⟩) hlt).trans e0
          replace e1 := (hb6.frozen (p := ⟨w.heap.size + 1, 1, none⟩) hlt).trans e1
          replace e2 := (hb6.frozen (p := ⟨w.heap.size + 1, 2, none⟩) hlt).trans e2
          clear ho5 hb6 HO5
          unfold ivV
          have HB := Lib.hid (((HB6.out.setCell (p := ⟨w.heap.size + 1, 0, none⟩) (by show w.heap.size ≤ w.heap.size + 1; omega) (.int .i64 0)).setCell (p := ⟨w.heap.size + 1, 1, none⟩) (by show w.heap.size ≤ w.heap.size + 1; omega) (.int .i64 0)).setCell (p := ⟨w.heap.size + 1, 2, none⟩) (by show w.heap.size ≤ w.heap.size + 1; omega) (.slice none 0 0))
          go_wp2_with fail
          exact bodyPost_ret (v := .tuple #[.agg #[.int .i64 0, .int .i64 0, .slice none 0 0], .bool false]) (by simp [results, Try.results45, go_sem, r0, r1, r2]) rfl (retPc_no _ _ HB.out)
        | true =>
          rw [retBn_yes (by unfold bnB; rw [show ((m : Int) + 1 - 1).toNat = m by omega, hs, hll, hbb, he]; rfl)]
          have HVP := Lib.hid (bn_val hs m b he)
          have HE := Lib.hid he
          obtain ⟨L, hL⟩ : ∃ L, bcL p q xs m b = L := ⟨_, rfl⟩
          obtain ⟨W, hW⟩ : ∃ x, rgW m b p q = x := ⟨_, rfl⟩
          obtain ⟨H, hH⟩ : ∃ x, rgH m b p q = x := ⟨_, rfl⟩
          rw [hL] at HVP HBL HBX ⊢
          rw [hW, hH] at HVP ⊢
          have HLe := Lib.hid hL
          have HWe := Lib.hid (And.intro hW hH)
          clear hs hll hbb he hL hW hH
          go_enter Try.func45, Try.ntmps45
          go_wp2_with fail
          with_reducible refine HV.out.mono ?_
          rintro e w1 ⟨rfl, n1, hw1⟩
          have hb1 : Below w0.heap.size w0 w1 := by rw [hw1]; exact below_drawn (Below.refl _ _) _
          have HB1 := Lib.hid (HB0.out.trans (hb1.mono HB0.out.size))
          have hz1 : w0.heap.size ≤ w1.heap.size := hb1.size
          replace r0 := (hb1.cell (p := ⟨w.heap.size + 1, 0, none⟩) hlt).trans r0
          replace r1 := (hb1.cell (p := ⟨w.heap.size + 1, 1, none⟩) hlt).trans r1
          replace r2 := (hb1.cell (p := ⟨w.heap.size + 1, 2, none⟩) hlt).trans r2
          replace e0 := (hb1.frozen (p := ⟨w.heap.size + 1, 0, none⟩) hlt).trans e0
          replace e1 := (hb1.frozen (p := ⟨w.heap.size + 1, 1, none⟩) hlt).trans e1
          replace e2 := (hb1.frozen (p := ⟨w.heap.size + 1, 2, none⟩) hlt).trans e2
          replace hlt : w.heap.size + 1 < w1.heap.size := by omega
          replace hxl : w.heap.size < w1.heap.size := by omega
          replace x0 := (hb1.cell (p := ⟨w.heap.size, 0, none⟩) (by show w.heap.size < _; omega)).trans x0
          replace x1 := (hb1.cell (p := ⟨w.heap.size, 1, none⟩) (by show w.heap.size < _; omega)).trans x1
          replace x2 := (hb1.cell (p := ⟨w.heap.size, 2, none⟩) (by show w.heap.size < _; omega)).trans x2
          clear hb1 hw1
          go_wp2_with fail
          with_reducible refine (H2.out _).mono ?_
          rintro e w2 ⟨rfl, hw2⟩
          subst hw2
          go_wp2_with fail
          with_reducible refine (H3.out _).mono ?_
          rintro e w3 ⟨rfl, hw3⟩
          subst hw3
          have HLT := Lib.hid hlt
          have HT := bndS_any w.heap.size p q b m bk off c xs.length xs w1 b1 b2 hl rfl (by omega) hb3 hxl (Nat.lt_of_lt_of_le hbw HB1.out.size) x0 x1 x2 (fun i hi => (HB1.out.cell (p := ⟨bk, off + i, none⟩) hbw).trans (HSRC.out i hi))
          rw [retBd_yes HE.out] at HT
          rw [HLe.out] at HT
          rw [HWe.out.1, HWe.out.2] at HT
          replace HT := Lib.hid HT
          clear hw0 hl b1 b2 hbd
          go_wp2_with fail
          with_reducible refine HT.out.mono ?_
          rintro e w5 ⟨v, rfl, ho5, hb5⟩
          obtain ⟨A5, c5, hv5, _, _, _⟩ := id ho5
          rw [fl_len] at hv5
          subst hv5
          have HB5 := Lib.hid (HB1.out.trans (hb5.mono HB1.out.size))
          replace r0 := (hb5.cell (p := ⟨w.heap.size + 1, 0, none⟩) hlt).trans r0
          replace r1 := (hb5.cell (p := ⟨w.heap.size + 1, 1, none⟩) hlt).trans r1
          replace r2 := (hb5.cell (p := ⟨w.heap.size + 1, 2, none⟩) hlt).trans r2
          replace e0 := (hb5.frozen (p := ⟨w.heap.size + 1, 0, none⟩) hlt).trans e0
          replace e1 := (hb5.frozen (p := ⟨w.heap.size + 1, 1, none⟩) hlt).trans e1
          replace e2 := (hb5.frozen (p := ⟨w.heap.size + 1, 2, none⟩) hlt).trans e2
          replace hlt : w.heap.size + 1 < w5.heap.size := Nat.lt_of_lt_of_le hlt hb5.size
          have HG := Lib.hid (gvS_any W H A5 c5 L w5 (ho5.rd) (by have := HBL.out; omega) (HBX.out))
          rw [HVP.out] at HG
          have HO5 := Lib.hid ho5
          clear hb5
          go_wp2_with fail
          with_reducible refine HG.out.mono ?_
          rintro e w6 ⟨rfl, hb6⟩
          have HB6 := Lib.hid (HB5.out.trans (hb6.mono HB5.out.size))
          replace r0 := (hb6.cell (p := ⟨w.heap.size + 1, 0, none⟩) hlt).trans r0
          replace r1 := (hb6.cell (p := ⟨w.heap.size + 1, 1, none⟩) hlt).trans r1
          replace r2 := (hb6.cell (p := ⟨w.heap.size + 1, 2, none⟩) hlt).trans r2
          replace e0 := (hb6.frozen (p := ⟨w.heap.size + 1, 0, none⟩) hlt).trans e0
          replace e1 := (hb6.frozen (p := ⟨w.heap.size + 1, 1, none⟩) hlt).trans e1
          replace e2 := (hb6.frozen (p := ⟨w.heap.size + 1, 2, none⟩) hlt).trans e2
          have ho6 := HO5.out.below hb6
          have HOF := Lib.hid ((((ho6.setLess (a := ⟨w.heap.size + 1, 0, none⟩) HLT.out (.int .i64 W)).setLess (a := ⟨w.heap.size + 1, 1, none⟩) HLT.out (.int .i64 H)).setLess (a := ⟨w.heap.size + 1, 2, none⟩) HLT.out (.slice A5 L.length c5)).less (lo' := w.heap.size) HB1.out.size)
          have HB := Lib.hid (((HB6.out.setCell (p := ⟨w.heap.size + 1, 0, none⟩) (by show w.heap.size ≤ w.heap.size + 1; omega) (.int .i64 W)).setCell (p := ⟨w.heap.size + 1, 1, none⟩) (by show w.heap.size ≤ w.heap.size + 1; omega) (.int .i64 H)).setCell (p := ⟨w.heap.size + 1, 2, none⟩) (by show w.heap.size ≤ w.heap.size + 1; omega) (.slice A5 L.length c5))
          clear ho5 ho6 hb6
          unfold ivV
          go_wp2_with fail
          exact bodyPost_ret (v := .tuple #[.agg #[.int .i64 W, .int .i64 H, .slice A5 L.length c5], .bool true]) (by simp [results, Try.results45, go_sem, r0, r1, r2]) rfl ⟨_, rfl, HOF.out, HB.out⟩
end Go.Proofs.Ytfbdmhkmkmbipaa
