/-
  Contract: PutPicture of the model.
-/
import Derived.Test.YtfbdmhkmkmbipaaPut4
import Derived.Test.YtfbdmhkmkmbipaaLie
namespace Go.Proofs.Ytfbdmhkmkmbipaa
open Go.RowKit Fl
set_option linter.unusedVariables false
set_option maxRecDepth 100000
theorem bx_threeP {W : World} {g : Nat} {a b c : Value} (h : Bx W g [a, b, c]) : W.cell? ⟨g, 0, none⟩ = some a ∧ W.cell? ⟨g, 1, none⟩ = some b ∧ W.cell? ⟨g, 2, none⟩ = some c ∧ W.frozen? ⟨g, 0, none⟩ = false ∧ W.frozen? ⟨g, 1, none⟩ = false ∧ W.frozen? ⟨g, 2, none⟩ = false :=
  ⟨(h.2 0 _ rfl).1, (h.2 1 _ rfl).1, (h.2 2 _ rfl).1, (h.2 0 _ rfl).2, (h.2 1 _ rfl).2, (h.2 2 _ rfl).2⟩
set_option maxHeartbeats 8000000 in
theorem putS_any (v0 : Value) (p0 q0 : Int) (xs : List Nat) (v1 : Value) (p1 q1 : Int) (ys : List Nat) (x y : Int) (w : World) (h0 : Rd w w.heap.size v0 (fl xs)) (h1 : Rd w w.heap.size v1 (fl ys)) (hm0 : xs.length ≤ 1048576) (hx0 : ∀ x ∈ xs, x < 2 ^ 32) (hm1 : ys.length ≤ 1048576) (hx1 : ∀ x ∈ ys, x < 2 ^ 32) :
    Calls Try.prog 35 #[.agg #[.int .i64 p0, .int .i64 q0, v0], .agg #[.int .i64 p1, .int .i64 q1, v1], .int .i64 x, .int .i64 y] w (RetPt p0 q0 xs p1 q1 ys x y w) := by
  obtain ⟨A0, c0, hv0, hnc0, hcm0, hcell0⟩ := id h0
  rw [fl_len] at hv0 hnc0 hcell0
  subst hv0
  obtain ⟨A1, c1, hv1, hnc1, hcm1, hcell1⟩ := id h1
  rw [fl_len] at hv1 hnc1 hcell1
  subst hv1
  obtain ⟨w0, hw0⟩ : ∃ w0, (((w.alloc (.cells #[.int .i64 p0, .int .i64 q0, .slice A0 xs.length c0] 50)).alloc (.cells #[.int .i64 p1, .int .i64 q1, .slice A1 ys.length c1] 50)).alloc (.cells #[.int .i64 0, .int .i64 0, .slice none 0 0] 50)) = w0 := ⟨_, rfl⟩
  have hb0 : Below w.heap.size w w0 := by rw [← hw0]; exact ((((Below.refl _ _).alloc (Nat.le_refl _) _).alloc (by simp; try omega) _).alloc (by simp; try omega) _)
  have hz : w0.heap.size = w.heap.size + 3 := by rw [← hw0]; simp
  have hlt : w.heap.size < w0.heap.size := by omega
  have hlt1 : w.heap.size + 1 < w0.heap.size := by omega
  have hltr : w.heap.size + 2 < w0.heap.size := by omega
  have x0 : w0.cell? ⟨w.heap.size, 0, none⟩ = some (.int .i64 p0) := by rw [← hw0]; simp [go_sem]
  have x1 : w0.cell? ⟨w.heap.size, 1, none⟩ = some (.int .i64 q0) := by rw [← hw0]; simp [go_sem]
  have x2 : w0.cell? ⟨w.heap.size, 2, none⟩ = some (.slice A0 xs.length c0) := by rw [← hw0]; simp [go_sem]
  have y0 : w0.cell? ⟨w.heap.size + 1, 0, none⟩ = some (.int .i64 p1) := by rw [← hw0]; simp [go_sem]
  have y1 : w0.cell? ⟨w.heap.size + 1, 1, none⟩ = some (.int .i64 q1) := by rw [← hw0]; simp [go_sem]
  have y2 : w0.cell? ⟨w.heap.size + 1, 2, none⟩ = some (.slice A1 ys.length c1) := by rw [← hw0]; simp [go_sem]
  have xf0 : w0.frozen? ⟨w.heap.size, 0, none⟩ = false := by rw [← hw0]; simp [go_sem]
  have xf1 : w0.frozen? ⟨w.heap.size, 1, none⟩ = false := by rw [← hw0]; simp [go_sem]
  have xf2 : w0.frozen? ⟨w.heap.size, 2, none⟩ = false := by rw [← hw0]; simp [go_sem]
  have yf0 : w0.frozen? ⟨w.heap.size + 1, 0, none⟩ = false := by rw [← hw0]; simp [go_sem]
  have yf1 : w0.frozen? ⟨w.heap.size + 1, 1, none⟩ = false := by rw [← hw0]; simp [go_sem]
  have yf2 : w0.frozen? ⟨w.heap.size + 1, 2, none⟩ = false := by rw [← hw0]; simp [go_sem]
  have hBX : Bx w0 (w.heap.size) [.int .i64 p0, .int .i64 q0, .slice A0 xs.length c0] := by
    refine ⟨hlt, fun i v hi => ?_⟩
    match i, hi with
    | 0, hi => cases hi; exact ⟨x0, xf0⟩
    | 1, hi => cases hi; exact ⟨x1, xf1⟩
    | 2, hi => cases hi; exact ⟨x2, xf2⟩
    | (n + 3), hi => simp at hi
  have hBY : Bx w0 (w.heap.size + 1) [.int .i64 p1, .int .i64 q1, .slice A1 ys.length c1] := by
    refine ⟨hlt1, fun i v hi => ?_⟩
    match i, hi with
    | 0, hi => cases hi; exact ⟨y0, yf0⟩
    | 1, hi => cases hi; exact ⟨y1, yf1⟩
    | 2, hi => cases hi; exact ⟨y2, yf2⟩
    | (n + 3), hi => simp at hi
  clear xf0 xf1 xf2 yf0 yf1 yf2
  clear hz
  have r0 : w0.cell? ⟨w.heap.size + 2, 0, none⟩ = some (.int .i64 0) := by rw [← hw0]; simp [go_sem]
  have r1 : w0.cell? ⟨w.heap.size + 2, 1, none⟩ = some (.int .i64 0) := by rw [← hw0]; simp [go_sem]
  have r2 : w0.cell? ⟨w.heap.size + 2, 2, none⟩ = some (.slice none 0 0) := by rw [← hw0]; simp [go_sem]
  have e0 : w0.frozen? ⟨w.heap.size + 2, 0, none⟩ = false := by rw [← hw0]; simp [go_sem]
  have e1 : w0.frozen? ⟨w.heap.size + 2, 1, none⟩ = false := by rw [← hw0]; simp [go_sem]
  have e2 : w0.frozen? ⟨w.heap.size + 2, 2, none⟩ = false := by rw [← hw0]; simp [go_sem]
  clear hBX hBY
  have HV0 := Lib.hid (vpP_any w.heap.size (.slice A0 xs.length c0) p0 q0 xs w0 w.heap.size (h0.below hb0) x0 x1 x2 hm0 hx0)
  have HH1 := Lib.hid h1
  have HB0 := Lib.hid hb0
  have HC0 := Lib.hid hcell0
  have HC1 := Lib.hid hcell1
  have HX0 := Lib.hid hx0
  have HX1 := Lib.hid hx1
  clear hb0 h0 h1 hx0 hx1 hcell0 hcell1
  cases hs0 : vpcB p0 q0 xs with
  | false =>
    rw [retPt_no (by unfold ptB; rw [hs0]; rfl)]
    rw [hs0] at HV0
    clear hs0
    go_enter Try.func35, Try.ntmps35
    go_wp2_with fail
    with_reducible refine HV0.out.mono ?_
    rintro e w1 ⟨rfl, n1, hw1⟩
    have hb1 : Below w0.heap.size w0 w1 := by rw [hw1]; exact below_drawn (Below.refl _ _) _
    have HB1 := Lib.hid (HB0.out.trans (hb1.mono HB0.out.size))
    replace x0 := (hb1.cell (p := ⟨w.heap.size, 0, none⟩) hlt).trans x0
    replace x1 := (hb1.cell (p := ⟨w.heap.size, 1, none⟩) hlt).trans x1
    replace x2 := (hb1.cell (p := ⟨w.heap.size, 2, none⟩) hlt).trans x2
    replace y0 := (hb1.cell (p := ⟨w.heap.size + 1, 0, none⟩) hlt1).trans y0
    replace y1 := (hb1.cell (p := ⟨w.heap.size + 1, 1, none⟩) hlt1).trans y1
    replace y2 := (hb1.cell (p := ⟨w.heap.size + 1, 2, none⟩) hlt1).trans y2
    replace r0 := (hb1.cell (p := ⟨w.heap.size + 2, 0, none⟩) hltr).trans r0
    replace r1 := (hb1.cell (p := ⟨w.heap.size + 2, 1, none⟩) hltr).trans r1
    replace r2 := (hb1.cell (p := ⟨w.heap.size + 2, 2, none⟩) hltr).trans r2
    replace e0 := (hb1.frozen (p := ⟨w.heap.size + 2, 0, none⟩) hltr).trans e0
    replace e1 := (hb1.frozen (p := ⟨w.heap.size + 2, 1, none⟩) hltr).trans e1
    replace e2 := (hb1.frozen (p := ⟨w.heap.size + 2, 2, none⟩) hltr).trans e2
    replace hlt := Nat.lt_of_lt_of_le hlt hb1.size
    replace hlt1 := Nat.lt_of_lt_of_le hlt1 hb1.size
    replace hltr := Nat.lt_of_lt_of_le hltr hb1.size
    clear hb1 hw0 hw1
    have HB := Lib.hid (((HB1.out.setCell (p := ⟨w.heap.size + 2, 0, none⟩) (by show w.heap.size ≤ w.heap.size + 2; omega) (.int .i64 0)).setCell (p := ⟨w.heap.size + 2, 1, none⟩) (by show w.heap.size ≤ w.heap.size + 2; omega) (.int .i64 0)).setCell (p := ⟨w.heap.size + 2, 2, none⟩) (by show w.heap.size ≤ w.heap.size + 2; omega) (.slice none 0 0))
    go_wp2_with fail
    exact bodyPost_ret (v := .tuple #[.agg #[.int .i64 0, .int .i64 0, .slice none 0 0], .bool false]) (by simp [results, Try.results35, go_sem, r0, r1, r2]) rfl (retPc_no _ _ HB.out)
  | true =>
    rw [hs0] at HV0
    cases hs1 : vpcB p1 q1 ys with
    | false =>
      rw [retPt_no (by unfold ptB; rw [hs1]; simp)]
      have HS1 := Lib.hid hs1
      clear hs0 hs1
      go_enter Try.func35, Try.ntmps35
      go_wp2_with fail
      with_reducible refine HV0.out.mono ?_
      rintro e w1 ⟨rfl, n1, hw1⟩
      have hb1 : Below w0.heap.size w0 w1 := by rw [hw1]; exact below_drawn (Below.refl _ _) _
      have HB1 := Lib.hid (HB0.out.trans (hb1.mono HB0.out.size))
      replace x0 := (hb1.cell (p := ⟨w.heap.size, 0, none⟩) hlt).trans x0
      replace x1 := (hb1.cell (p := ⟨w.heap.size, 1, none⟩) hlt).trans x1
      replace x2 := (hb1.cell (p := ⟨w.heap.size, 2, none⟩) hlt).trans x2
      replace y0 := (hb1.cell (p := ⟨w.heap.size + 1, 0, none⟩) hlt1).trans y0
      replace y1 := (hb1.cell (p := ⟨w.heap.size + 1, 1, none⟩) hlt1).trans y1
      replace y2 := (hb1.cell (p := ⟨w.heap.size + 1, 2, none⟩) hlt1).trans y2
      replace r0 := (hb1.cell (p := ⟨w.heap.size + 2, 0, none⟩) hltr).trans r0
      replace r1 := (hb1.cell (p := ⟨w.heap.size + 2, 1, none⟩) hltr).trans r1
      replace r2 := (hb1.cell (p := ⟨w.heap.size + 2, 2, none⟩) hltr).trans r2
      replace e0 := (hb1.frozen (p := ⟨w.heap.size + 2, 0, none⟩) hltr).trans e0
      replace e1 := (hb1.frozen (p := ⟨w.heap.size + 2, 1, none⟩) hltr).trans e1
      replace e2 := (hb1.frozen (p := ⟨w.heap.size + 2, 2, none⟩) hltr).trans e2
      replace hlt := Nat.lt_of_lt_of_le hlt hb1.size
      replace hlt1 := Nat.lt_of_lt_of_le hlt1 hb1.size
      replace hltr := Nat.lt_of_lt_of_le hltr hb1.size
      clear hb1 hw0 hw1
      have HV1 := Lib.hid (vpP_any (w.heap.size + 1) (.slice A1 ys.length c1) p1 q1 ys w1 w.heap.size (HH1.out.below HB1.out) y0 y1 y2 hm1 HX1.out)
      rw [HS1.out] at HV1
      go_wp2_with fail
      with_reducible refine HV1.out.mono ?_
      rintro e w2 ⟨rfl, n2, hw2⟩
      have hb2 : Below w1.heap.size w1 w2 := by rw [hw2]; exact below_drawn (Below.refl _ _) _
      have HB2 := Lib.hid (HB1.out.trans (hb2.mono HB1.out.size))
      replace x0 := (hb2.cell (p := ⟨w.heap.size, 0, none⟩) hlt).trans x0
      replace x1 := (hb2.cell (p := ⟨w.heap.size, 1, none⟩) hlt).trans x1
      replace x2 := (hb2.cell (p := ⟨w.heap.size, 2, none⟩) hlt).trans x2
      replace y0 := (hb2.cell (p := ⟨w.heap.size + 1, 0, none⟩) hlt1).trans y0
      replace y1 := (hb2.cell (p := ⟨w.heap.size + 1, 1, none⟩) hlt1).trans y1
      replace y2 := (hb2.cell (p := ⟨w.heap.size + 1, 2, none⟩) hlt1).trans y2
      replace r0 := (hb2.cell (p := ⟨w.heap.size + 2, 0, none⟩) hltr).trans r0
      replace r1 := (hb2.cell (p := ⟨w.heap.size + 2, 1, none⟩) hltr).trans r1
      replace r2 := (hb2.cell (p := ⟨w.heap.size + 2, 2, none⟩) hltr).trans r2
      replace e0 := (hb2.frozen (p := ⟨w.heap.size + 2, 0, none⟩) hltr).trans e0
      replace e1 := (hb2.frozen (p := ⟨w.heap.size + 2, 1, none⟩) hltr).trans e1
      replace e2 := (hb2.frozen (p := ⟨w.heap.size + 2, 2, none⟩) hltr).trans e2
      replace hlt := Nat.lt_of_lt_of_le hlt hb2.size
      replace hlt1 := Nat.lt_of_lt_of_le hlt1 hb2.size
      replace hltr := Nat.lt_of_lt_of_le hltr hb2.size
      clear hb2 hw2 HV1
      have HB := Lib.hid (((HB2.out.setCell (p := ⟨w.heap.size + 2, 0, none⟩) (by show w.heap.size ≤ w.heap.size + 2; omega) (.int .i64 0)).setCell (p := ⟨w.heap.size + 2, 1, none⟩) (by show w.heap.size ≤ w.heap.size + 2; omega) (.int .i64 0)).setCell (p := ⟨w.heap.size + 2, 2, none⟩) (by show w.heap.size ≤ w.heap.size + 2; omega) (.slice none 0 0))
      go_wp2_with fail
      exact bodyPost_ret (v := .tuple #[.agg #[.int .i64 0, .int .i64 0, .slice none 0 0], .bool false]) (by simp [results, Try.results35, go_sem, r0, r1, r2]) rfl (retPc_no _ _ HB.out)
    | true =>
      have HS1 := Lib.hid hs1
      obtain ⟨b1, b2, hl0, hfin0⟩ := vpcB_out hs0
      obtain ⟨d1, d2, hl1, hfin1⟩ := vpcB_out hs1
      cases hli : liB p0 q0 x y p1 q1 with
      | false =>
        rw [retPt_no (by unfold ptB; rw [hli]; simp)]
        have HLI := Lib.hid hli
        clear hs0 hs1 hli hl0 hl1 hfin0 hfin1
        go_enter Try.func35, Try.ntmps35
        go_wp2_with fail
        with_reducible refine HV0.out.mono ?_
        rintro e w1 ⟨rfl, n1, hw1⟩
        have hb1 : Below w0.heap.size w0 w1 := by rw [hw1]; exact below_drawn (Below.refl _ _) _
        have HB1 := Lib.hid (HB0.out.trans (hb1.mono HB0.out.size))
        replace x0 := (hb1.cell (p := ⟨w.heap.size, 0, none⟩) hlt).trans x0
        replace x1 := (hb1.cell (p := ⟨w.heap.size, 1, none⟩) hlt).trans x1
        replace x2 := (hb1.cell (p := ⟨w.heap.size, 2, none⟩) hlt).trans x2
        replace y0 := (hb1.cell (p := ⟨w.heap.size + 1, 0, none⟩) hlt1).trans y0
        replace y1 := (hb1.cell (p := ⟨w.heap.size + 1, 1, none⟩) hlt1).trans y1
        replace y2 := (hb1.cell (p := ⟨w.heap.size + 1, 2, none⟩) hlt1).trans y2
        replace r0 := (hb1.cell (p := ⟨w.heap.size + 2, 0, none⟩) hltr).trans r0
        replace r1 := (hb1.cell (p := ⟨w.heap.size + 2, 1, none⟩) hltr).trans r1
        replace r2 := (hb1.cell (p := ⟨w.heap.size + 2, 2, none⟩) hltr).trans r2
        replace e0 := (hb1.frozen (p := ⟨w.heap.size + 2, 0, none⟩) hltr).trans e0
        replace e1 := (hb1.frozen (p := ⟨w.heap.size + 2, 1, none⟩) hltr).trans e1
        replace e2 := (hb1.frozen (p := ⟨w.heap.size + 2, 2, none⟩) hltr).trans e2
        replace hlt := Nat.lt_of_lt_of_le hlt hb1.size
        replace hlt1 := Nat.lt_of_lt_of_le hlt1 hb1.size
        replace hltr := Nat.lt_of_lt_of_le hltr hb1.size
        clear hb1 hw0 hw1
        have HV1 := Lib.hid (vpP_any (w.heap.size + 1) (.slice A1 ys.length c1) p1 q1 ys w1 w.heap.size (HH1.out.below HB1.out) y0 y1 y2 hm1 HX1.out)
        rw [HS1.out] at HV1
        go_wp2_with fail
        with_reducible refine HV1.out.mono ?_
        rintro e w2 ⟨rfl, n2, hw2⟩
        have hb2 : Below w1.heap.size w1 w2 := by rw [hw2]; exact below_drawn (Below.refl _ _) _
        have HB2 := Lib.hid (HB1.out.trans (hb2.mono HB1.out.size))
        replace x0 := (hb2.cell (p := ⟨w.heap.size, 0, none⟩) hlt).trans x0
        replace x1 := (hb2.cell (p := ⟨w.heap.size, 1, none⟩) hlt).trans x1
        replace x2 := (hb2.cell (p := ⟨w.heap.size, 2, none⟩) hlt).trans x2
        replace y0 := (hb2.cell (p := ⟨w.heap.size + 1, 0, none⟩) hlt1).trans y0
        replace y1 := (hb2.cell (p := ⟨w.heap.size + 1, 1, none⟩) hlt1).trans y1
        replace y2 := (hb2.cell (p := ⟨w.heap.size + 1, 2, none⟩) hlt1).trans y2
        replace r0 := (hb2.cell (p := ⟨w.heap.size + 2, 0, none⟩) hltr).trans r0
        replace r1 := (hb2.cell (p := ⟨w.heap.size + 2, 1, none⟩) hltr).trans r1
        replace r2 := (hb2.cell (p := ⟨w.heap.size + 2, 2, none⟩) hltr).trans r2
        replace e0 := (hb2.frozen (p := ⟨w.heap.size + 2, 0, none⟩) hltr).trans e0
        replace e1 := (hb2.frozen (p := ⟨w.heap.size + 2, 1, none⟩) hltr).trans e1
        replace e2 := (hb2.frozen (p := ⟨w.heap.size + 2, 2, none⟩) hltr).trans e2
        replace hlt := Nat.lt_of_lt_of_le hlt hb2.size
        replace hlt1 := Nat.lt_of_lt_of_le hlt1 hb2.size
        replace hltr := Nat.lt_of_lt_of_le hltr hb2.size
        clear hb2 hw2 HV1
        have HL := Lib.hid (lieS_any w.heap.size x y p1 q1 p0 q0 w2 b1 b2 x0 x1)
        rw [HLI.out] at HL
        go_wp2_with fail
        with_reducible refine HL.out.mono ?_
        rintro e w3 ⟨rfl, hw3⟩
        subst hw3
        have HB := Lib.hid (((HB2.out.setCell (p := ⟨w.heap.size + 2, 0, none⟩) (by show w.heap.size ≤ w.heap.size + 2; omega) (.int .i64 0)).setCell (p := ⟨w.heap.size + 2, 1, none⟩) (by show w.heap.size ≤ w.heap.size + 2; omega) (.int .i64 0)).setCell (p := ⟨w.heap.size + 2, 2, none⟩) (by show w.heap.size ≤ w.heap.size + 2; omega) (.slice none 0 0))
        go_wp2_with fail
        exact bodyPost_ret (v := .tuple #[.agg #[.int .i64 0, .int .i64 0, .slice none 0 0], .bool false]) (by simp [results, Try.results35, go_sem, r0, r1, r2]) rfl (retPc_no _ _ HB.out)
      | true =>
        rw [retPt_yes (by unfold ptB; rw [hs0, hs1, hli]; rfl)]
        have HLI := Lib.hid hli
        obtain ⟨⟨k1, k2⟩, k3, k4⟩ := liB_out hli
        have hbd0 := mul_bd b1 b2
        have hbd1 := mul_bd d1 d2
        clear hs0 hs1 hli hfin0 hfin1
        obtain ⟨P, rfl⟩ : ∃ P : Nat, p0 = (P : Int) := ⟨p0.toNat, by omega⟩
        obtain ⟨Q, rfl⟩ : ∃ P : Nat, q0 = (P : Int) := ⟨q0.toNat, by omega⟩
        obtain ⟨W, rfl⟩ : ∃ P : Nat, p1 = (P : Int) := ⟨p1.toNat, by omega⟩
        obtain ⟨H, rfl⟩ : ∃ P : Nat, q1 = (P : Int) := ⟨q1.toNat, by omega⟩
        obtain ⟨X, rfl⟩ : ∃ P : Nat, x = (P : Int) := ⟨x.toNat, by omega⟩
        obtain ⟨Y, rfl⟩ : ∃ P : Nat, y = (P : Int) := ⟨y.toNat, by omega⟩
        have hl0N : xs.length = P * Q := by
          have : (xs.length : Int) = ((P * Q : Nat) : Int) := by rw [hl0]; simp
          omega
        have hl1N : ys.length = W * H := by
          have : (ys.length : Int) = ((W * H : Nat) : Int) := by rw [hl1]; simp
          omega
        rw [show ((W : Int) * (H : Int)).toNat = ys.length by rw [← hl1]; simp]
        simp only [Int.toNat_natCast]
        have hx256 : xs.length ≤ 256 := by omega
        have hx1 : 1 ≤ xs.length := by omega
        obtain ⟨bk0, o0, rfl, hbw0, hcells0⟩ := HC0.out (by omega)
        obtain ⟨bk1, o1, rfl, hbw1, hcells1⟩ := HC1.out (by omega)
        have HS0 := Lib.hid (show ∀ (i : Nat) (h : i < xs.length), w.cell? ⟨bk0, o0 + i, none⟩ = some (.float .f32 (xs.getD i 0)) from fun i hi => by have := hcells0 i _ (fl_get xs i hi); simpa [List.getD, hi] using this)
        have HSY := Lib.hid (show ∀ (i : Nat) (h : i < ys.length), w.cell? ⟨bk1, o1 + i, none⟩ = some (.float .f32 (ys.getD i 0)) from fun i hi => by have := hcells1 i _ (fl_get ys i hi); simpa [List.getD, hi] using this)
        clear hcells0 hcells1 HC0 HC1
        obtain ⟨R, hR⟩ : ∃ R, R = pvK P xs X Y W ys ys.length := ⟨_, rfl⟩
        have HRL := Lib.hid (show R.length = xs.length by rw [hR]; exact pvK_len _ _ _ _ _ _ _)
        rw [← hR]
        have HR := Lib.hid hR
        have HL0 := Lib.hid hl0N
        have HL1 := Lib.hid hl1N
        clear hR hl0 hl1 hl0N hl1N hbd0 hbd1
        go_enter Try.func35, Try.ntmps35
        go_wp2_with fail
        with_reducible refine HV0.out.mono ?_
        rintro e w1 ⟨rfl, n1, hw1⟩
        have hb1 : Below w0.heap.size w0 w1 := by rw [hw1]; exact below_drawn (Below.refl _ _) _
        have HB1 := Lib.hid (HB0.out.trans (hb1.mono HB0.out.size))
        replace x0 := (hb1.cell (p := ⟨w.heap.size, 0, none⟩) hlt).trans x0
        replace x1 := (hb1.cell (p := ⟨w.heap.size, 1, none⟩) hlt).trans x1
        replace x2 := (hb1.cell (p := ⟨w.heap.size, 2, none⟩) hlt).trans x2
        replace y0 := (hb1.cell (p := ⟨w.heap.size + 1, 0, none⟩) hlt1).trans y0
        replace y1 := (hb1.cell (p := ⟨w.heap.size + 1, 1, none⟩) hlt1).trans y1
        replace y2 := (hb1.cell (p := ⟨w.heap.size + 1, 2, none⟩) hlt1).trans y2
        replace r0 := (hb1.cell (p := ⟨w.heap.size + 2, 0, none⟩) hltr).trans r0
        replace r1 := (hb1.cell (p := ⟨w.heap.size + 2, 1, none⟩) hltr).trans r1
        replace r2 := (hb1.cell (p := ⟨w.heap.size + 2, 2, none⟩) hltr).trans r2
        replace e0 := (hb1.frozen (p := ⟨w.heap.size + 2, 0, none⟩) hltr).trans e0
        replace e1 := (hb1.frozen (p := ⟨w.heap.size + 2, 1, none⟩) hltr).trans e1
        replace e2 := (hb1.frozen (p := ⟨w.heap.size + 2, 2, none⟩) hltr).trans e2
        replace hlt := Nat.lt_of_lt_of_le hlt hb1.size
        replace hlt1 := Nat.lt_of_lt_of_le hlt1 hb1.size
        replace hltr := Nat.lt_of_lt_of_le hltr hb1.size
        clear hb1 hw0 hw1
        have HV1 := Lib.hid (vpP_any (w.heap.size + 1) (.slice (some ⟨bk1, o1, none⟩) ys.length c1) (W : Int) (H : Int) ys w1 w.heap.size (HH1.out.below HB1.out) y0 y1 y2 hm1 HX1.out)
        rw [HS1.out] at HV1
        go_wp2_with fail
        with_reducible refine HV1.out.mono ?_
        rintro e w2 ⟨rfl, n2, hw2⟩
        have hb2 : Below w1.heap.size w1 w2 := by rw [hw2]; exact below_drawn (Below.refl _ _) _
        have HB2 := Lib.hid (HB1.out.trans (hb2.mono HB1.out.size))
        replace x0 := (hb2.cell (p := ⟨w.heap.size, 0, none⟩) hlt).trans x0
        replace x1 := (hb2.cell (p := ⟨w.heap.size, 1, none⟩) hlt).trans x1
        replace x2 := (hb2.cell (p := ⟨w.heap.size, 2, none⟩) hlt).trans x2
        replace y0 := (hb2.cell (p := ⟨w.heap.size + 1, 0, none⟩) hlt1).trans y0
        replace y1 := (hb2.cell (p := ⟨w.heap.size + 1, 1, none⟩) hlt1).trans y1
        replace y2 := (hb2.cell (p := ⟨w.heap.size + 1, 2, none⟩) hlt1).trans y2
        replace r0 := (hb2.cell (p := ⟨w.heap.size + 2, 0, none⟩) hltr).trans r0
        replace r1 := (hb2.cell (p := ⟨w.heap.size + 2, 1, none⟩) hltr).trans r1
        replace r2 := (hb2.cell (p := ⟨w.heap.size + 2, 2, none⟩) hltr).trans r2
        replace e0 := (hb2.frozen (p := ⟨w.heap.size + 2, 0, none⟩) hltr).trans e0
        replace e1 := (hb2.frozen (p := ⟨w.heap.size + 2, 1, none⟩) hltr).trans e1
        replace e2 := (hb2.frozen (p := ⟨w.heap.size + 2, 2, none⟩) hltr).trans e2
        replace hlt := Nat.lt_of_lt_of_le hlt hb2.size
        replace hlt1 := Nat.lt_of_lt_of_le hlt1 hb2.size
        replace hltr := Nat.lt_of_lt_of_le hltr hb2.size
        clear hb2 hw2 HV1
        have HL := Lib.hid (lieS_any w.heap.size (X : Int) (Y : Int) (W : Int) (H : Int) (P : Int) (Q : Int) w2 b1 b2 x0 x1)
        rw [HLI.out] at HL
        go_wp2_with fail
        with_reducible refine HL.out.mono ?_
        rintro e w3 ⟨rfl, hw3⟩
        subst hw3
        have HLT1 := Lib.hid hltr
        have HOWN := Lib.hid (own4_any w.heap.size (P : Int) (Q : Int) bk0 o0 c0 xs.length xs w2 rfl ⟨hx1, hx256⟩ hlt (Nat.lt_of_lt_of_le hbw0 HB2.out.size) x0 x1 x2 (fun i hi => (HB2.out.cell (p := ⟨bk0, o0 + i, none⟩) hbw0).trans (HS0.out i hi)))
        go_wp2_with fail
        with_reducible refine HOWN.out.mono ?_
        rintro e w4 ⟨v, rfl, ho4, hb4⟩
        obtain ⟨A4, c3, hv4, _, _, hc4⟩ := id ho4
        rw [fl_len] at hv4 hc4
        obtain ⟨eb, o2, rfl, _⟩ := hc4 (by omega)
        subst hv4
        clear hc4
        have HCW := Lib.hid (chb_two (w0 := w2) (p := (P : Int)) (q := (Q : Int)) (L := xs) ho4 (by omega) hb4)
        clear ho4
        replace x0 := (hb4.cell (p := ⟨w.heap.size, 0, none⟩) hlt).trans x0
        replace x1 := (hb4.cell (p := ⟨w.heap.size, 1, none⟩) hlt).trans x1
        replace x2 := (hb4.cell (p := ⟨w.heap.size, 2, none⟩) hlt).trans x2
        replace y0 := (hb4.cell (p := ⟨w.heap.size + 1, 0, none⟩) hlt1).trans y0
        replace y1 := (hb4.cell (p := ⟨w.heap.size + 1, 1, none⟩) hlt1).trans y1
        replace y2 := (hb4.cell (p := ⟨w.heap.size + 1, 2, none⟩) hlt1).trans y2
        replace r0 := (hb4.cell (p := ⟨w.heap.size + 2, 0, none⟩) hltr).trans r0
        replace r1 := (hb4.cell (p := ⟨w.heap.size + 2, 1, none⟩) hltr).trans r1
        replace r2 := (hb4.cell (p := ⟨w.heap.size + 2, 2, none⟩) hltr).trans r2
        replace e0 := (hb4.frozen (p := ⟨w.heap.size + 2, 0, none⟩) hltr).trans e0
        replace e1 := (hb4.frozen (p := ⟨w.heap.size + 2, 1, none⟩) hltr).trans e1
        replace e2 := (hb4.frozen (p := ⟨w.heap.size + 2, 2, none⟩) hltr).trans e2
        replace hlt := Nat.lt_of_lt_of_le hlt hb4.size
        replace hlt1 := Nat.lt_of_lt_of_le hlt1 hb4.size
        replace hltr := Nat.lt_of_lt_of_le hltr hb4.size
        have HB4 := Lib.hid (HB2.out.trans (hb4.mono HB2.out.size))
        have hz4 := hb4.size
        clear hb4
        obtain ⟨WW, hW⟩ : ∃ WW, w4.alloc (.cells #[.int .i64 (P : Int), .int .i64 (Q : Int), .slice (some ⟨eb, o2, none⟩) xs.length c3] 50) = WW := ⟨_, rfl⟩
        have hbW : Below w4.heap.size w4 WW := by rw [← hW]; exact (Below.refl _ _).alloc (Nat.le_refl _) _
        rw [hW] at HCW
        replace x0 := (hbW.cell (p := ⟨w.heap.size, 0, none⟩) hlt).trans x0
        replace x1 := (hbW.cell (p := ⟨w.heap.size, 1, none⟩) hlt).trans x1
        replace x2 := (hbW.cell (p := ⟨w.heap.size, 2, none⟩) hlt).trans x2
        replace y0 := (hbW.cell (p := ⟨w.heap.size + 1, 0, none⟩) hlt1).trans y0
        replace y1 := (hbW.cell (p := ⟨w.heap.size + 1, 1, none⟩) hlt1).trans y1
        replace y2 := (hbW.cell (p := ⟨w.heap.size + 1, 2, none⟩) hlt1).trans y2
        replace r0 := (hbW.cell (p := ⟨w.heap.size + 2, 0, none⟩) hltr).trans r0
        replace r1 := (hbW.cell (p := ⟨w.heap.size + 2, 1, none⟩) hltr).trans r1
        replace r2 := (hbW.cell (p := ⟨w.heap.size + 2, 2, none⟩) hltr).trans r2
        replace e0 := (hbW.frozen (p := ⟨w.heap.size + 2, 0, none⟩) hltr).trans e0
        replace e1 := (hbW.frozen (p := ⟨w.heap.size + 2, 1, none⟩) hltr).trans e1
        replace e2 := (hbW.frozen (p := ⟨w.heap.size + 2, 2, none⟩) hltr).trans e2
        replace hlt := Nat.lt_of_lt_of_le hlt hbW.size
        replace hlt1 := Nat.lt_of_lt_of_le hlt1 hbW.size
        replace hltr := Nat.lt_of_lt_of_le hltr hbW.size
        have HBW := Lib.hid (HB4.out.trans (hbW.mono HB4.out.size))
        clear hbW
        obtain ⟨hBXg, hOW, hg0, hb20, hne, hb2W, -⟩ := id HCW.out
        have hgb : ¬ w4.heap.size = eb := fun e => hne e.symm
        have hbb1 : ¬ bk1 = eb := by have := HB2.out.size; omega
        have hwb1 : ¬ w.heap.size + 1 = eb := by have := HLT1.out; omega
        have hrb : ¬ w.heap.size + 2 = eb := by have := HLT1.out; omega
        have HPT := Lib.hid (put4_any w4.heap.size (w.heap.size + 1) P Q W H X Y eb o2 c3 xs.length bk1 o1 c1 ys.length w2.heap.size xs ys WW (by omega) (by omega) (by omega) (by omega) (by omega) (by omega) HL0.out HL1.out rfl (hBXg.2 0 _ rfl).1 (hBXg.2 2 _ rfl).1 y0 y1 y2 (fun i hi => (HBW.out.cell (p := ⟨bk1, o1 + i, none⟩) hbw1).trans (HSY.out i hi)) hOW hBXg.1 hlt1 (Nat.lt_of_lt_of_le hbw1 HBW.out.size) hgb hwb1 hbb1)
        rw [← HR.out] at HPT
        have HBG := Lib.hid hBXg
        clear hBXg hOW
        go_wp2_with fail
        with_reducible refine HPT.out.mono ?_
        rintro e w6 ⟨rfl, htx, ho6⟩
        replace r0 := (htx.cell hltr (by simp; exact hrb)).trans r0
        replace r1 := (htx.cell hltr (by simp; exact hrb)).trans r1
        replace r2 := (htx.cell hltr (by simp; exact hrb)).trans r2
        replace e0 := (htx.frozen hltr (by simp; exact hrb)).trans e0
        replace e1 := (htx.frozen hltr (by simp; exact hrb)).trans e1
        replace e2 := (htx.frozen hltr (by simp; exact hrb)).trans e2
        obtain ⟨g0, g1, g2, -, -, -⟩ := bx_threeP (htx.bx HBG.out (by simp; exact hgb))
        have HBE := Lib.hid (HBW.out.trans (htx.below HBW.out.size (fun k hk => by simp at hk; subst hk; exact Nat.le_trans HB2.out.size hb20)))
        have HOF := Lib.hid ((((ho6.setLess (a := ⟨w.heap.size + 2, 0, none⟩) HLT1.out (.int .i64 (P : Int))).setLess (a := ⟨w.heap.size + 2, 1, none⟩) HLT1.out (.int .i64 (Q : Int))).setLess (a := ⟨w.heap.size + 2, 2, none⟩) HLT1.out (.slice (some ⟨eb, o2, none⟩) xs.length c3)).less (lo' := w.heap.size) HB2.out.size)
        have HB := Lib.hid (((HBE.out.setCell (p := ⟨w.heap.size + 2, 0, none⟩) (by show w.heap.size ≤ w.heap.size + 2; omega) (.int .i64 (P : Int))).setCell (p := ⟨w.heap.size + 2, 1, none⟩) (by show w.heap.size ≤ w.heap.size + 2; omega) (.int .i64 (Q : Int))).setCell (p := ⟨w.heap.size + 2, 2, none⟩) (by show w.heap.size ≤ w.heap.size + 2; omega) (.slice (some ⟨eb, o2, none⟩) xs.length c3))
        clear htx ho6
        go_wp2_with fail
        exact bodyPost_ret (v := .tuple #[.agg #[.int .i64 (P : Int), .int .i64 (Q : Int), .slice (some ⟨eb, o2, none⟩) xs.length c3], .bool true]) (by simp [results, Try.results35, go_sem, r0, r1, r2]) rfl ⟨_, rfl, HOF.out, HB.out⟩
end Go.Proofs.Ytfbdmhkmkmbipaa
