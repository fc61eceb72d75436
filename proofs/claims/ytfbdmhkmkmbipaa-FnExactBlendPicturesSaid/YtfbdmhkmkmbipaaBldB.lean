/-
  Contract: BlendPictures of the program.
  Contract: BlendPictures of the model.
-/
import Derived.Test.YtfbdmhkmkmbipaaBldA
import Derived.Test.YtfbdmhkmkmbipaaPoB
import Derived.Test.YtfbdmhkmkmbipaaBots
import Derived.BigQuiet
import Derived.Test.YtfbdmhkmkmbipaaOwn4
import Derived.Test.YtfbdmhkmkmbipaaSft
namespace Go.Proofs.Ytfbdmhkmkmbipaa
open Go.RowKit Fl
set_option linter.unusedVariables false
set_option maxRecDepth 100000
set_option maxHeartbeats 8000000 in
theorem blendI_any (v0 : Value) (p0 q0 : Int) (xs : List Nat) (v1 : Value) (p1 q1 : Int) (ys : List Nat) (s : Nat) (w : World) (h0 : Rd w w.heap.size v0 (fl xs)) (h1 : Rd w w.heap.size v1 (fl ys)) (hm0 : xs.length ≤ 1048576) (hx0 : ∀ x ∈ xs, x < 2 ^ 32) (hm1 : ys.length ≤ 1048576) (hx1 : ∀ x ∈ ys, x < 2 ^ 32) (hs2 : s < 2 ^ 32) :
    Calls Try.prog 42 #[.agg #[.int .i64 p0, .int .i64 q0, v0], .agg #[.int .i64 p1, .int .i64 q1, v1], .float .f32 s] w (RetBld p0 q0 xs p1 q1 ys s w) := by
  obtain ⟨A0, c0, hv0, hnc0, hcm0, hcell0⟩ := id h0
  rw [fl_len] at hv0 hnc0 hcell0
  subst hv0
  obtain ⟨A1, c1, hv1, hnc1, hcm1, hcell1⟩ := id h1
  rw [fl_len] at hv1 hnc1 hcell1
  subst hv1
  obtain ⟨w0, hw0⟩ : ∃ w0, ((((w.alloc (.cells #[.int .i64 p0, .int .i64 q0, .slice A0 xs.length c0] 50)).alloc (.cells #[.int .i64 p1, .int .i64 q1, .slice A1 ys.length c1] 50)).alloc (.cells #[.float .f32 s] 23)).alloc (.cells #[.int .i64 0, .int .i64 0, .slice none 0 0] 50)) = w0 := ⟨_, rfl⟩
  have hb0 : Below w.heap.size w w0 := by rw [← hw0]; exact (((((Below.refl _ _).alloc (Nat.le_refl _) _).alloc (by simp; try omega) _).alloc (by simp; try omega) _).alloc (by simp; try omega) _)
  have hz : w0.heap.size = w.heap.size + 4 := by rw [← hw0]; simp
  have hlt : w.heap.size < w0.heap.size := by omega
  have hlt1 : w.heap.size + 1 < w0.heap.size := by omega
  have hltr : w.heap.size + 3 < w0.heap.size := by omega
  have x0 : w0.cell? ⟨w.heap.size, 0, none⟩ = some (.int .i64 p0) := by rw [← hw0]; simp [go_sem]
  have x1 : w0.cell? ⟨w.heap.size, 1, none⟩ = some (.int .i64 q0) := by rw [← hw0]; simp [go_sem]
  have x2 : w0.cell? ⟨w.heap.size, 2, none⟩ = some (.slice A0 xs.length c0) := by rw [← hw0]; simp [go_sem]
  have y0 : w0.cell? ⟨w.heap.size + 1, 0, none⟩ = some (.int .i64 p1) := by rw [← hw0]; simp [go_sem]
  have y1 : w0.cell? ⟨w.heap.size + 1, 1, none⟩ = some (.int .i64 q1) := by rw [← hw0]; simp [go_sem]
  have y2 : w0.cell? ⟨w.heap.size + 1, 2, none⟩ = some (.slice A1 ys.length c1) := by rw [← hw0]; simp [go_sem]
  have hlt5 : w.heap.size + 2 < w0.heap.size := by omega
  have k5 : w0.cell? ⟨w.heap.size + 2, 0, none⟩ = some (.float .f32 s) := by rw [← hw0]; simp [go_sem]
  clear hz
  have r0 : w0.cell? ⟨w.heap.size + 3, 0, none⟩ = some (.int .i64 0) := by rw [← hw0]; simp [go_sem]
  have r1 : w0.cell? ⟨w.heap.size + 3, 1, none⟩ = some (.int .i64 0) := by rw [← hw0]; simp [go_sem]
  have r2 : w0.cell? ⟨w.heap.size + 3, 2, none⟩ = some (.slice none 0 0) := by rw [← hw0]; simp [go_sem]
  have e0 : w0.frozen? ⟨w.heap.size + 3, 0, none⟩ = false := by rw [← hw0]; simp [go_sem]
  have e1 : w0.frozen? ⟨w.heap.size + 3, 1, none⟩ = false := by rw [← hw0]; simp [go_sem]
  have e2 : w0.frozen? ⟨w.heap.size + 3, 2, none⟩ = false := by rw [← hw0]; simp [go_sem]
  have HV := Lib.hid (botI_any (.slice A0 xs.length c0) p0 q0 xs (.slice A1 ys.length c1) p1 q1 ys w0 (h0.step hb0) (h1.step hb0) hm0 hx0 hm1 hx1)
  have HB0 := Lib.hid hb0
  have HC0 := Lib.hid hcell0
  have HC1 := Lib.hid hcell1
  have HX0 := Lib.hid hx0
  have HX1 := Lib.hid hx1
  clear hb0 h0 h1 hx0 hx1 hcell0 hcell1
  cases hs : botB p0 q0 xs p1 q1 ys with
  | false =>
    rw [retBld_no (by unfold bldB; rw [hs]; rfl)]
    rw [hs] at HV
    clear hs
    go_enter Try.func42, Try.ntmps42
    go_wp2_with fail
    with_reducible refine HV.out.mono ?_
    rintro e w1 ⟨rfl, hb1⟩
    have HB1 := Lib.hid (HB0.out.trans (hb1.mono HB0.out.size))
    replace x0 := (hb1.cell (p := ⟨w.heap.size, 0, none⟩) hlt).trans x0
    replace x1 := (hb1.cell (p := ⟨w.heap.size, 1, none⟩) hlt).trans x1
    replace x2 := (hb1.cell (p := ⟨w.heap.size, 2, none⟩) hlt).trans x2
    replace y0 := (hb1.cell (p := ⟨w.heap.size + 1, 0, none⟩) hlt1).trans y0
    replace y1 := (hb1.cell (p := ⟨w.heap.size + 1, 1, none⟩) hlt1).trans y1
    replace y2 := (hb1.cell (p := ⟨w.heap.size + 1, 2, none⟩) hlt1).trans y2
    replace k5 := (hb1.cell (p := ⟨w.heap.size + 2, 0, none⟩) hlt5).trans k5
    replace r0 := (hb1.cell (p := ⟨w.heap.size + 3, 0, none⟩) hltr).trans r0
    replace r1 := (hb1.cell (p := ⟨w.heap.size + 3, 1, none⟩) hltr).trans r1
    replace r2 := (hb1.cell (p := ⟨w.heap.size + 3, 2, none⟩) hltr).trans r2
    replace e0 := (hb1.frozen (p := ⟨w.heap.size + 3, 0, none⟩) hltr).trans e0
    replace e1 := (hb1.frozen (p := ⟨w.heap.size + 3, 1, none⟩) hltr).trans e1
    replace e2 := (hb1.frozen (p := ⟨w.heap.size + 3, 2, none⟩) hltr).trans e2
    replace hlt := Nat.lt_of_lt_of_le hlt hb1.size
    replace hlt1 := Nat.lt_of_lt_of_le hlt1 hb1.size
    replace hltr := Nat.lt_of_lt_of_le hltr hb1.size
    replace hlt5 := Nat.lt_of_lt_of_le hlt5 hb1.size
    clear hb1 hw0
    have HB := Lib.hid (((HB1.out.setCell (p := ⟨w.heap.size + 3, 0, none⟩) (by show w.heap.size ≤ w.heap.size + 3; omega) (.int .i64 0)).setCell (p := ⟨w.heap.size + 3, 1, none⟩) (by show w.heap.size ≤ w.heap.size + 3; omega) (.int .i64 0)).setCell (p := ⟨w.heap.size + 3, 2, none⟩) (by show w.heap.size ≤ w.heap.size + 3; omega) (.slice none 0 0))
    go_wp2_with fail
    exact bodyPost_ret (v := .tuple #[.agg #[.int .i64 0, .int .i64 0, .slice none 0 0], .bool false]) (by simp [results, Try.results42, go_sem, r0, r1, r2]) rfl (retPc_no _ _ HB.out)
  | true =>
    rw [hs] at HV
    cases hg1 : geB' s 0 with
    | false =>
      rw [retBld_no (by unfold bldB shB; rw [hg1]; simp)]
      have g1 : (FloatKind.f32.format.order s 0 == some .gt || FloatKind.f32.format.order s 0 == some .eq) = false := hg1
      clear hs hg1
      go_enter Try.func42, Try.ntmps42
      go_wp2_with fail
      with_reducible refine HV.out.mono ?_
      rintro e w1 ⟨rfl, hb1⟩
      have HB1 := Lib.hid (HB0.out.trans (hb1.mono HB0.out.size))
      replace x0 := (hb1.cell (p := ⟨w.heap.size, 0, none⟩) hlt).trans x0
      replace x1 := (hb1.cell (p := ⟨w.heap.size, 1, none⟩) hlt).trans x1
      replace x2 := (hb1.cell (p := ⟨w.heap.size, 2, none⟩) hlt).trans x2
      replace y0 := (hb1.cell (p := ⟨w.heap.size + 1, 0, none⟩) hlt1).trans y0
      replace y1 := (hb1.cell (p := ⟨w.heap.size + 1, 1, none⟩) hlt1).trans y1
      replace y2 := (hb1.cell (p := ⟨w.heap.size + 1, 2, none⟩) hlt1).trans y2
      replace k5 := (hb1.cell (p := ⟨w.heap.size + 2, 0, none⟩) hlt5).trans k5
      replace r0 := (hb1.cell (p := ⟨w.heap.size + 3, 0, none⟩) hltr).trans r0
      replace r1 := (hb1.cell (p := ⟨w.heap.size + 3, 1, none⟩) hltr).trans r1
      replace r2 := (hb1.cell (p := ⟨w.heap.size + 3, 2, none⟩) hltr).trans r2
      replace e0 := (hb1.frozen (p := ⟨w.heap.size + 3, 0, none⟩) hltr).trans e0
      replace e1 := (hb1.frozen (p := ⟨w.heap.size + 3, 1, none⟩) hltr).trans e1
      replace e2 := (hb1.frozen (p := ⟨w.heap.size + 3, 2, none⟩) hltr).trans e2
      replace hlt := Nat.lt_of_lt_of_le hlt hb1.size
      replace hlt1 := Nat.lt_of_lt_of_le hlt1 hb1.size
      replace hltr := Nat.lt_of_lt_of_le hltr hb1.size
      replace hlt5 := Nat.lt_of_lt_of_le hlt5 hb1.size
      clear hb1 hw0
      have HB := Lib.hid (((HB1.out.setCell (p := ⟨w.heap.size + 3, 0, none⟩) (by show w.heap.size ≤ w.heap.size + 3; omega) (.int .i64 0)).setCell (p := ⟨w.heap.size + 3, 1, none⟩) (by show w.heap.size ≤ w.heap.size + 3; omega) (.int .i64 0)).setCell (p := ⟨w.heap.size + 3, 2, none⟩) (by show w.heap.size ≤ w.heap.size + 3; omega) (.slice none 0 0))
      go_wp2_with fail
      exact bodyPost_ret (v := .tuple #[.agg #[.int .i64 0, .int .i64 0, .slice none 0 0], .bool false]) (by simp [results, Try.results42, go_sem, r0, r1, r2]) rfl (retPc_no _ _ HB.out)
    | true =>
      have g1 : (FloatKind.f32.format.order s 0 == some .gt || FloatKind.f32.format.order s 0 == some .eq) = true := hg1
      cases hg2 : leB s 1065353216 with
      | false =>
        rw [retBld_no (by unfold bldB shB; rw [hg2]; simp)]
        have g2 : (FloatKind.f32.format.order s 1065353216 == some .lt || FloatKind.f32.format.order s 1065353216 == some .eq) = false := hg2
        clear hs hg1 hg2
        go_enter Try.func42, Try.ntmps42
        go_wp2_with fail
        with_reducible refine HV.out.mono ?_
        rintro e w1 ⟨rfl, hb1⟩
        have HB1 := Lib.hid (HB0.out.trans (hb1.mono HB0.out.size))
        replace x0 := (hb1.cell (p := ⟨w.heap.size, 0, none⟩) hlt).trans x0
        replace x1 := (hb1.cell (p := ⟨w.heap.size, 1, none⟩) hlt).trans x1
        replace x2 := (hb1.cell (p := ⟨w.heap.size, 2, none⟩) hlt).trans x2
        replace y0 := (hb1.cell (p := ⟨w.heap.size + 1, 0, none⟩) hlt1).trans y0
        replace y1 := (hb1.cell (p := ⟨w.heap.size + 1, 1, none⟩) hlt1).trans y1
        replace y2 := (hb1.cell (p := ⟨w.heap.size + 1, 2, none⟩) hlt1).trans y2
        replace k5 := (hb1.cell (p := ⟨w.heap.size + 2, 0, none⟩) hlt5).trans k5
        replace r0 := (hb1.cell (p := ⟨w.heap.size + 3, 0, none⟩) hltr).trans r0
        replace r1 := (hb1.cell (p := ⟨w.heap.size + 3, 1, none⟩) hltr).trans r1
        replace r2 := (hb1.cell (p := ⟨w.heap.size + 3, 2, none⟩) hltr).trans r2
        replace e0 := (hb1.frozen (p := ⟨w.heap.size + 3, 0, none⟩) hltr).trans e0
        replace e1 := (hb1.frozen (p := ⟨w.heap.size + 3, 1, none⟩) hltr).trans e1
        replace e2 := (hb1.frozen (p := ⟨w.heap.size + 3, 2, none⟩) hltr).trans e2
        replace hlt := Nat.lt_of_lt_of_le hlt hb1.size
        replace hlt1 := Nat.lt_of_lt_of_le hlt1 hb1.size
        replace hltr := Nat.lt_of_lt_of_le hltr hb1.size
        replace hlt5 := Nat.lt_of_lt_of_le hlt5 hb1.size
        clear hb1 hw0
        have HB := Lib.hid (((HB1.out.setCell (p := ⟨w.heap.size + 3, 0, none⟩) (by show w.heap.size ≤ w.heap.size + 3; omega) (.int .i64 0)).setCell (p := ⟨w.heap.size + 3, 1, none⟩) (by show w.heap.size ≤ w.heap.size + 3; omega) (.int .i64 0)).setCell (p := ⟨w.heap.size + 3, 2, none⟩) (by show w.heap.size ≤ w.heap.size + 3; omega) (.slice none 0 0))
        go_wp2_with fail
        exact bodyPost_ret (v := .tuple #[.agg #[.int .i64 0, .int .i64 0, .slice none 0 0], .bool false]) (by simp [results, Try.results42, go_sem, r0, r1, r2]) rfl (retPc_no _ _ HB.out)
      | true =>
        have g2 : (FloatKind.f32.format.order s 1065353216 == some .lt || FloatKind.f32.format.order s 1065353216 == some .eq) = true := hg2
        have hsh : shB s = true := by unfold shB; rw [hg1, hg2]; rfl
        clear hg1 hg2
        rw [retBld_yes (by unfold bldB; rw [hs, hsh]; rfl)]
        have hfs := sh_fin hsh
        obtain ⟨hV0, hV1, rfl, rfl⟩ := botB_out hs
        obtain ⟨b1, b2, hl0, hfin0⟩ := vpcB_out hV0
        obtain ⟨-, -, hl1, hfin1⟩ := vpcB_out hV1
        have hbd := mul_bd b1 b2
        obtain ⟨P, rfl⟩ : ∃ P : Nat, p0 = (P : Int) := ⟨p0.toNat, by omega⟩
        obtain ⟨Q, rfl⟩ : ∃ P : Nat, q0 = (P : Int) := ⟨q0.toNat, by omega⟩
        rw [Int.toNat_natCast]
        have hlN : xs.length = P * Q := by
          have : (xs.length : Int) = ((P * Q : Nat) : Int) := by rw [hl0]; simp
          omega
        have hxy : ys.length = xs.length := by omega
        have hx256 : xs.length ≤ 256 := by omega
        have hx1 : 1 ≤ xs.length := by omega
        obtain ⟨bk0, o0, rfl, hbw0, hcells0⟩ := HC0.out (by omega)
        obtain ⟨bk1, o1, rfl, hbw1, hcells1⟩ := HC1.out (by omega)
        have HS0 := Lib.hid (show ∀ (i : Nat) (h : i < xs.length), w.cell? ⟨bk0, o0 + i, none⟩ = some (.float .f32 (xs.getD i 0)) from fun i hi => by have := hcells0 i _ (fl_get xs i hi); simpa [List.getD, hi] using this)
        have HS1 := Lib.hid (show ∀ (i : Nat) (h : i < xs.length), w.cell? ⟨bk1, o1 + i, none⟩ = some (.float .f32 (ys.getD i 0)) from fun i hi => by
          have hi2 : i < ys.length := by omega
          have := hcells1 i _ (fl_get ys i hi2); simpa [List.getD, hi2] using this)
        clear hcells0 hcells1 HC0 HC1
        have HF0 := Lib.hid (fun i => getD_finR hfin0 i)
        have HG0 := Lib.hid (fun i => getD_ltR HX0.out i)
        have HF1 := Lib.hid (fun i => getD_finR hfin1 i)
        have HG1 := Lib.hid (fun i => getD_ltR HX1.out i)
        clear hfin0 hfin1 hV0 hV1 hs
        have HCL := Lib.hid (fun (W : World) (hb : Below w.heap.size w W) (x0 : W.cell? ⟨w.heap.size, 0, none⟩ = some (.int .i64 (P : Int))) (x1 : W.cell? ⟨w.heap.size, 1, none⟩ = some (.int .i64 (Q : Int))) (x2 : W.cell? ⟨w.heap.size, 2, none⟩ = some (.slice (some ⟨bk0, o0, none⟩) xs.length c0)) (y0 : W.cell? ⟨w.heap.size + 1, 0, none⟩ = some (.int .i64 (P : Int))) (y1 : W.cell? ⟨w.heap.size + 1, 1, none⟩ = some (.int .i64 (Q : Int))) (y2 : W.cell? ⟨w.heap.size + 1, 2, none⟩ = some (.slice (some ⟨bk1, o1, none⟩) xs.length c1)) (k5 : W.cell? ⟨w.heap.size + 2, 0, none⟩ = some (.float .f32 s)) (x y : Nat) (hx : x < P) (hy : y < Q) => bldC_any P Q w.heap.size (w.heap.size + 1) (w.heap.size + 2) bk0 o0 c0 bk1 o1 c1 xs.length s x y xs ys W (by omega) (by omega) hlN hx hy hnc0 hcm0 (by omega) hcm1 x0 x1 x2 y0 y1 y2 k5 (fun i hi => (hb.cell (p := ⟨bk0, o0 + i, none⟩) hbw0).trans (HS0.out i hi)) (fun i hi => (hb.cell (p := ⟨bk1, o1 + i, none⟩) hbw1).trans (HS1.out i hi)) HF0.out HG0.out hfs hs2)
        rw [hxy] at y2 HV hw0 ⊢
        obtain ⟨G, hG⟩ : ∃ G, G = bldG P xs ys s := ⟨_, rfl⟩
        rw [← hG] at HCL ⊢
        rw [retGr_pc]
        have HGR := Lib.hid (fun (W : World) => retGr_pc (P : Int) (Q : Int) G W)
        clear hG hl0 hl1 hlN hbd hsh
        go_enter Try.func42, Try.ntmps42
        go_wp2_with fail
        with_reducible refine HV.out.mono ?_
        rintro e w1 ⟨rfl, hb1⟩
        have HB1 := Lib.hid (HB0.out.trans (hb1.mono HB0.out.size))
        replace x0 := (hb1.cell (p := ⟨w.heap.size, 0, none⟩) hlt).trans x0
        replace x1 := (hb1.cell (p := ⟨w.heap.size, 1, none⟩) hlt).trans x1
        replace x2 := (hb1.cell (p := ⟨w.heap.size, 2, none⟩) hlt).trans x2
        replace y0 := (hb1.cell (p := ⟨w.heap.size + 1, 0, none⟩) hlt1).trans y0
        replace y1 := (hb1.cell (p := ⟨w.heap.size + 1, 1, none⟩) hlt1).trans y1
        replace y2 := (hb1.cell (p := ⟨w.heap.size + 1, 2, none⟩) hlt1).trans y2
        replace k5 := (hb1.cell (p := ⟨w.heap.size + 2, 0, none⟩) hlt5).trans k5
        replace r0 := (hb1.cell (p := ⟨w.heap.size + 3, 0, none⟩) hltr).trans r0
        replace r1 := (hb1.cell (p := ⟨w.heap.size + 3, 1, none⟩) hltr).trans r1
        replace r2 := (hb1.cell (p := ⟨w.heap.size + 3, 2, none⟩) hltr).trans r2
        replace e0 := (hb1.frozen (p := ⟨w.heap.size + 3, 0, none⟩) hltr).trans e0
        replace e1 := (hb1.frozen (p := ⟨w.heap.size + 3, 1, none⟩) hltr).trans e1
        replace e2 := (hb1.frozen (p := ⟨w.heap.size + 3, 2, none⟩) hltr).trans e2
        replace hlt := Nat.lt_of_lt_of_le hlt hb1.size
        replace hlt1 := Nat.lt_of_lt_of_le hlt1 hb1.size
        replace hltr := Nat.lt_of_lt_of_le hltr hb1.size
        replace hlt5 := Nat.lt_of_lt_of_le hlt5 hb1.size
        clear hb1 hw0
        skip
        go_wp2_with fail
        with_reducible refine (sid_any (P : Int) (Q : Int) (some ⟨bk0, o0, none⟩) xs.length c0 _).mono ?_
        rintro e w4 ⟨rfl, hb4⟩
        replace x0 := (hb4.cell (p := ⟨w.heap.size, 0, none⟩) hlt).trans x0
        replace x1 := (hb4.cell (p := ⟨w.heap.size, 1, none⟩) hlt).trans x1
        replace x2 := (hb4.cell (p := ⟨w.heap.size, 2, none⟩) hlt).trans x2
        replace y0 := (hb4.cell (p := ⟨w.heap.size + 1, 0, none⟩) hlt1).trans y0
        replace y1 := (hb4.cell (p := ⟨w.heap.size + 1, 1, none⟩) hlt1).trans y1
        replace y2 := (hb4.cell (p := ⟨w.heap.size + 1, 2, none⟩) hlt1).trans y2
        replace k5 := (hb4.cell (p := ⟨w.heap.size + 2, 0, none⟩) hlt5).trans k5
        replace r0 := (hb4.cell (p := ⟨w.heap.size + 3, 0, none⟩) hltr).trans r0
        replace r1 := (hb4.cell (p := ⟨w.heap.size + 3, 1, none⟩) hltr).trans r1
        replace r2 := (hb4.cell (p := ⟨w.heap.size + 3, 2, none⟩) hltr).trans r2
        replace e0 := (hb4.frozen (p := ⟨w.heap.size + 3, 0, none⟩) hltr).trans e0
        replace e1 := (hb4.frozen (p := ⟨w.heap.size + 3, 1, none⟩) hltr).trans e1
        replace e2 := (hb4.frozen (p := ⟨w.heap.size + 3, 2, none⟩) hltr).trans e2
        replace hlt := Nat.lt_of_lt_of_le hlt hb4.size
        replace hlt1 := Nat.lt_of_lt_of_le hlt1 hb4.size
        replace hltr := Nat.lt_of_lt_of_le hltr hb4.size
        replace hlt5 := Nat.lt_of_lt_of_le hlt5 hb4.size
        have HB4 := Lib.hid (HB1.out.trans (hb4.mono HB1.out.size))
        clear hb4
        have HPO := Lib.hid (poB_any (P : Int) (Q : Int) w.heap.size (w.heap.size + 1) (w.heap.size + 2) G w4 (fun x y W hb hx hy => HCL.out W (HB4.out.trans (hb.mono HB4.out.size)) ((hb.cell (p := ⟨w.heap.size, 0, none⟩) hlt).trans x0) ((hb.cell (p := ⟨w.heap.size, 1, none⟩) hlt).trans x1) ((hb.cell (p := ⟨w.heap.size, 2, none⟩) hlt).trans x2) ((hb.cell (p := ⟨w.heap.size + 1, 0, none⟩) hlt1).trans y0) ((hb.cell (p := ⟨w.heap.size + 1, 1, none⟩) hlt1).trans y1) ((hb.cell (p := ⟨w.heap.size + 1, 2, none⟩) hlt1).trans y2) ((hb.cell (p := ⟨w.heap.size + 2, 0, none⟩) hlt5).trans k5) x y (by omega) (by omega)))
        rw [HGR.out w4] at HPO
        generalize gP (P : Int) (Q : Int) G (P : Int) = P2 at *
        generalize gP (P : Int) (Q : Int) G (Q : Int) = Q2 at *
        generalize gL (P : Int) (Q : Int) G = R at *
        generalize pcB (P : Int) (Q : Int) G = B at *
        clear HCL HGR
        go_wp2_with fail
        with_reducible refine HPO.out.mono ?_
        rintro e w5 ⟨v, rfl, ho5, hb5⟩
        obtain ⟨A5, c5, hv5, _, _, _⟩ := id ho5
        subst hv5
        replace r0 := (hb5.cell (p := ⟨w.heap.size + 3, 0, none⟩) hltr).trans r0
        replace r1 := (hb5.cell (p := ⟨w.heap.size + 3, 1, none⟩) hltr).trans r1
        replace r2 := (hb5.cell (p := ⟨w.heap.size + 3, 2, none⟩) hltr).trans r2
        replace e0 := (hb5.frozen (p := ⟨w.heap.size + 3, 0, none⟩) hltr).trans e0
        replace e1 := (hb5.frozen (p := ⟨w.heap.size + 3, 1, none⟩) hltr).trans e1
        replace e2 := (hb5.frozen (p := ⟨w.heap.size + 3, 2, none⟩) hltr).trans e2
        have HB5 := Lib.hid (HB4.out.trans (hb5.mono HB4.out.size))
        have HOF := Lib.hid ((((ho5.setLess (a := ⟨w.heap.size + 3, 0, none⟩) hltr (.int .i64 P2)).setLess (a := ⟨w.heap.size + 3, 1, none⟩) hltr (.int .i64 Q2)).setLess (a := ⟨w.heap.size + 3, 2, none⟩) hltr (.slice A5 (fl R).length c5)).less (lo' := w.heap.size) HB4.out.size)
        have HB := Lib.hid (((HB5.out.setCell (p := ⟨w.heap.size + 3, 0, none⟩) (by show w.heap.size ≤ w.heap.size + 3; omega) (.int .i64 P2)).setCell (p := ⟨w.heap.size + 3, 1, none⟩) (by show w.heap.size ≤ w.heap.size + 3; omega) (.int .i64 Q2)).setCell (p := ⟨w.heap.size + 3, 2, none⟩) (by show w.heap.size ≤ w.heap.size + 3; omega) (.slice A5 (fl R).length c5))
        clear ho5 hb5
        go_wp2_with fail
        exact bodyPost_ret (v := .tuple #[.agg #[.int .i64 P2, .int .i64 Q2, .slice A5 (fl R).length c5], .bool B]) (by simp [results, Try.results42, go_sem, r0, r1, r2]) rfl ⟨_, rfl, HOF.out, HB.out⟩
end Go.Proofs.Ytfbdmhkmkmbipaa
namespace Go.Proofs.Ytfbdmhkmkmbipaa
open Go.RowKit Fl
set_option linter.unusedVariables false
set_option maxRecDepth 100000
def BlR (w5 : World) (lo b2 o2 c3 s : Nat) (xs ys : List Nat) (i : Value) (wr : World) : Prop := ∃ (k : Nat) (cur : List Nat), k ≤ xs.length ∧ i = .int .i64 k ∧ Tx [b2] w5 wr ∧ Own wr lo (.slice (some ⟨b2, o2, none⟩) xs.length c3) (fl cur) ∧ cur.length = xs.length ∧ ∀ i, i < k → Is .f32 (cur.getD i 0) (bldF xs ys s i)
set_option maxHeartbeats 8000000 in
theorem blendS_any (v0 : Value) (p0 q0 : Int) (xs : List Nat) (v1 : Value) (p1 q1 : Int) (ys : List Nat) (s : Nat) (w : World) (h0 : Rd w w.heap.size v0 (fl xs)) (h1 : Rd w w.heap.size v1 (fl ys)) (hm0 : xs.length ≤ 1048576) (hx0 : ∀ x ∈ xs, x < 2 ^ 32) (hm1 : ys.length ≤ 1048576) (hx1 : ∀ x ∈ ys, x < 2 ^ 32) (hs2 : s < 2 ^ 32) :
    Calls Try.prog 41 #[.agg #[.int .i64 p0, .int .i64 q0, v0], .agg #[.int .i64 p1, .int .i64 q1, v1], .float .f32 s] w (RetBld p0 q0 xs p1 q1 ys s w) := by
  obtain ⟨A0, c0, hv0, hnc0, hcm0, hcell0⟩ := id h0
  rw [fl_len] at hv0 hnc0 hcell0
  subst hv0
  obtain ⟨A1, c1, hv1, hnc1, hcm1, hcell1⟩ := id h1
  rw [fl_len] at hv1 hnc1 hcell1
  subst hv1
  obtain ⟨w0, hw0⟩ : ∃ w0, (((w.alloc (.cells #[.int .i64 p0, .int .i64 q0, .slice A0 xs.length c0] 50)).alloc (.cells #[.int .i64 p1, .int .i64 q1, .slice A1 ys.length c1] 50)).alloc (.cells #[.int .i64 0, .int .i64 0, .slice none 0 0] 50)) = w0 := ⟨_, rfl⟩
  have hb0 : Below w.heap.size w w0 := by rw [← hw0]; exact ((((Below.refl _ _).alloc (Nat.le_refl _) _).alloc (by simp; try omega) _).alloc (by simp; try omega) _)
  have hz : w0.heap.size = w.heap.size + 3 := by rw [← hw0]; simp
  have hlt : w.heap.size < w0.heap.size := by omega
  have hlt1 : w.heap.size + 1 < w0.heap.size := by omega
  have hltr : w.heap.size + 2 < w0.heap.size := by omega
  have x0 : w0.cell? ⟨w.heap.size, 0, none⟩ = some (.int .i64 p0) := by rw [← hw0]; simp [go_sem]
  have x1 : w0.cell? ⟨w.heap.size, 1, none⟩ = some (.int .i64 q0) := by rw [← hw0]; simp [go_sem]
  have x2 : w0.cell? ⟨w.heap.size, 2, none⟩ = some (.slice A0 xs.length c0) := by rw [← hw0]; simp [go_sem]
  have y0 : w0.cell? ⟨w.heap.size + 1, 0, none⟩ = some (.int .i64 p1) := by rw [← hw0]; simp [go_sem]
  have y1 : w0.cell? ⟨w.heap.size + 1, 1, none⟩ = some (.int .i64 q1) := by rw [← hw0]; simp [go_sem]
  have y2 : w0.cell? ⟨w.heap.size + 1, 2, none⟩ = some (.slice A1 ys.length c1) := by rw [← hw0]; simp [go_sem]
  have xf0 : w0.frozen? ⟨w.heap.size, 0, none⟩ = false := by rw [← hw0]; simp [go_sem]
  have xf1 : w0.frozen? ⟨w.heap.size, 1, none⟩ = false := by rw [← hw0]; simp [go_sem]
  have xf2 : w0.frozen? ⟨w.heap.size, 2, none⟩ = false := by rw [← hw0]; simp [go_sem]
  have yf0 : w0.frozen? ⟨w.heap.size + 1, 0, none⟩ = false := by rw [← hw0]; simp [go_sem]
  have yf1 : w0.frozen? ⟨w.heap.size + 1, 1, none⟩ = false := by rw [← hw0]; simp [go_sem]
  have yf2 : w0.frozen? ⟨w.heap.size + 1, 2, none⟩ = false := by rw [← hw0]; simp [go_sem]
  have hBX : Bx w0 (w.heap.size) [.int .i64 p0, .int .i64 q0, .slice A0 xs.length c0] := by
    refine ⟨hlt, fun i v hi => ?_⟩
    match i, hi with
    | 0, hi => cases hi; exact ⟨x0, xf0⟩
    | 1, hi => cases hi; exact ⟨x1, xf1⟩
    | 2, hi => cases hi; exact ⟨x2, xf2⟩
    | (n + 3), hi => simp at hi
  have hBY : Bx w0 (w.heap.size + 1) [.int .i64 p1, .int .i64 q1, .slice A1 ys.length c1] := by
    refine ⟨hlt1, fun i v hi => ?_⟩
    match i, hi with
    | 0, hi => cases hi; exact ⟨y0, yf0⟩
    | 1, hi => cases hi; exact ⟨y1, yf1⟩
    | 2, hi => cases hi; exact ⟨y2, yf2⟩
    | (n + 3), hi => simp at hi
  clear xf0 xf1 xf2 yf0 yf1 yf2
  clear hz
  have r0 : w0.cell? ⟨w.heap.size + 2, 0, none⟩ = some (.int .i64 0) := by rw [← hw0]; simp [go_sem]
  have r1 : w0.cell? ⟨w.heap.size + 2, 1, none⟩ = some (.int .i64 0) := by rw [← hw0]; simp [go_sem]
  have r2 : w0.cell? ⟨w.heap.size + 2, 2, none⟩ = some (.slice none 0 0) := by rw [← hw0]; simp [go_sem]
  have e0 : w0.frozen? ⟨w.heap.size + 2, 0, none⟩ = false := by rw [← hw0]; simp [go_sem]
  have e1 : w0.frozen? ⟨w.heap.size + 2, 1, none⟩ = false := by rw [← hw0]; simp [go_sem]
  have e2 : w0.frozen? ⟨w.heap.size + 2, 2, none⟩ = false := by rw [← hw0]; simp [go_sem]
  have HV := Lib.hid (botS_any w.heap.size (w.heap.size + 1) (.slice A0 xs.length c0) p0 q0 xs (.slice A1 ys.length c1) p1 q1 ys w0 w.heap.size (h0.below hb0) (h1.below hb0) hBX hBY hm0 hx0 hm1 hx1)
  have HSH := Lib.hid (fun W => shrS2_any s W)
  clear hBX hBY
  have HB0 := Lib.hid hb0
  have HC0 := Lib.hid hcell0
  have HC1 := Lib.hid hcell1
  have HX0 := Lib.hid hx0
  have HX1 := Lib.hid hx1
  clear hb0 h0 h1 hx0 hx1 hcell0 hcell1
  cases hs : botB p0 q0 xs p1 q1 ys with
  | false =>
    rw [retBld_no (by unfold bldB; rw [hs]; rfl)]
    rw [hs] at HV
    clear hs
    go_enter Try.func41, Try.ntmps41
    go_wp2_with fail
    with_reducible refine HV.out.mono ?_
    rintro e w1 ⟨rfl, n1, hw1⟩
    have hb1 : Below w0.heap.size w0 w1 := by rw [hw1]; exact below_drawn (Below.refl _ _) _
    have HB1 := Lib.hid (HB0.out.trans (hb1.mono HB0.out.size))
    replace x0 := (hb1.cell (p := ⟨w.heap.size, 0, none⟩) hlt).trans x0
    replace x1 := (hb1.cell (p := ⟨w.heap.size, 1, none⟩) hlt).trans x1
    replace x2 := (hb1.cell (p := ⟨w.heap.size, 2, none⟩) hlt).trans x2
    replace y0 := (hb1.cell (p := ⟨w.heap.size + 1, 0, none⟩) hlt1).trans y0
    replace y1 := (hb1.cell (p := ⟨w.heap.size + 1, 1, none⟩) hlt1).trans y1
    replace y2 := (hb1.cell (p := ⟨w.heap.size + 1, 2, none⟩) hlt1).trans y2
    replace r0 := (hb1.cell (p := ⟨w.heap.size + 2, 0, none⟩) hltr).trans r0
    replace r1 := (hb1.cell (p := ⟨w.heap.size + 2, 1, none⟩) hltr).trans r1
    replace r2 := (hb1.cell (p := ⟨w.heap.size + 2, 2, none⟩) hltr).trans r2
    replace e0 := (hb1.frozen (p := ⟨w.heap.size + 2, 0, none⟩) hltr).trans e0
    replace e1 := (hb1.frozen (p := ⟨w.heap.size + 2, 1, none⟩) hltr).trans e1
    replace e2 := (hb1.frozen (p := ⟨w.heap.size + 2, 2, none⟩) hltr).trans e2
    replace hlt := Nat.lt_of_lt_of_le hlt hb1.size
    replace hlt1 := Nat.lt_of_lt_of_le hlt1 hb1.size
    replace hltr := Nat.lt_of_lt_of_le hltr hb1.size
    clear hb1 hw0 hw1
    have HB := Lib.hid (((HB1.out.setCell (p := ⟨w.heap.size + 2, 0, none⟩) (by show w.heap.size ≤ w.heap.size + 2; omega) (.int .i64 0)).setCell (p := ⟨w.heap.size + 2, 1, none⟩) (by show w.heap.size ≤ w.heap.size + 2; omega) (.int .i64 0)).setCell (p := ⟨w.heap.size + 2, 2, none⟩) (by show w.heap.size ≤ w.heap.size + 2; omega) (.slice none 0 0))
    go_wp2_with fail
    exact bodyPost_ret (v := .tuple #[.agg #[.int .i64 0, .int .i64 0, .slice none 0 0], .bool false]) (by simp [results, Try.results41, go_sem, r0, r1, r2]) rfl (retPc_no _ _ HB.out)
  | true =>
    rw [hs] at HV
    cases hsh : shB s with
    | false =>
      rw [retBld_no (by unfold bldB; rw [hsh]; simp)]
      rw [hsh] at HSH
      clear hs hsh
      go_enter Try.func41, Try.ntmps41
      go_wp2_with fail
      with_reducible refine HV.out.mono ?_
      rintro e w1 ⟨rfl, n1, hw1⟩
      have hb1 : Below w0.heap.size w0 w1 := by rw [hw1]; exact below_drawn (Below.refl _ _) _
      have HB1 := Lib.hid (HB0.out.trans (hb1.mono HB0.out.size))
      replace x0 := (hb1.cell (p := ⟨w.heap.size, 0, none⟩) hlt).trans x0
      replace x1 := (hb1.cell (p := ⟨w.heap.size, 1, none⟩) hlt).trans x1
      replace x2 := (hb1.cell (p := ⟨w.heap.size, 2, none⟩) hlt).trans x2
      replace y0 := (hb1.cell (p := ⟨w.heap.size + 1, 0, none⟩) hlt1).trans y0
      replace y1 := (hb1.cell (p := ⟨w.heap.size + 1, 1, none⟩) hlt1).trans y1
      replace y2 := (hb1.cell (p := ⟨w.heap.size + 1, 2, none⟩) hlt1).trans y2
      replace r0 := (hb1.cell (p := ⟨w.heap.size + 2, 0, none⟩) hltr).trans r0
      replace r1 := (hb1.cell (p := ⟨w.heap.size + 2, 1, none⟩) hltr).trans r1
      replace r2 := (hb1.cell (p := ⟨w.heap.size + 2, 2, none⟩) hltr).trans r2
      replace e0 := (hb1.frozen (p := ⟨w.heap.size + 2, 0, none⟩) hltr).trans e0
      replace e1 := (hb1.frozen (p := ⟨w.heap.size + 2, 1, none⟩) hltr).trans e1
      replace e2 := (hb1.frozen (p := ⟨w.heap.size + 2, 2, none⟩) hltr).trans e2
      replace hlt := Nat.lt_of_lt_of_le hlt hb1.size
      replace hlt1 := Nat.lt_of_lt_of_le hlt1 hb1.size
      replace hltr := Nat.lt_of_lt_of_le hltr hb1.size
      clear hb1 hw0 hw1
      go_wp2_with fail
      with_reducible refine (HSH.out _).mono ?_
      rintro e w3 ⟨rfl, n3, rfl⟩
      have HB3 := Lib.hid (below_drawn HB1.out n3)
      have HB := Lib.hid (((HB3.out.setCell (p := ⟨w.heap.size + 2, 0, none⟩) (by show w.heap.size ≤ w.heap.size + 2; omega) (.int .i64 0)).setCell (p := ⟨w.heap.size + 2, 1, none⟩) (by show w.heap.size ≤ w.heap.size + 2; omega) (.int .i64 0)).setCell (p := ⟨w.heap.size + 2, 2, none⟩) (by show w.heap.size ≤ w.heap.size + 2; omega) (.slice none 0 0))
      go_wp2_with fail
      exact bodyPost_ret (v := .tuple #[.agg #[.int .i64 0, .int .i64 0, .slice none 0 0], .bool false]) (by simp [results, Try.results41, go_sem, r0, r1, r2]) rfl (retPc_no _ _ HB.out)
    | true =>
      rw [hsh] at HSH
      rw [retBld_yes (by unfold bldB; rw [hs, hsh]; rfl)]
      have hfs := sh_fin hsh
      obtain ⟨hV0, hV1, rfl, rfl⟩ := botB_out hs
      obtain ⟨b1, b2, hl0, hfin0⟩ := vpcB_out hV0
      obtain ⟨-, -, hl1, hfin1⟩ := vpcB_out hV1
      have hbd := mul_bd b1 b2
      obtain ⟨P, rfl⟩ : ∃ P : Nat, p0 = (P : Int) := ⟨p0.toNat, by omega⟩
      obtain ⟨Q, rfl⟩ : ∃ P : Nat, q0 = (P : Int) := ⟨q0.toNat, by omega⟩
      rw [Int.toNat_natCast]
      have hlN : xs.length = P * Q := by
        have : (xs.length : Int) = ((P * Q : Nat) : Int) := by rw [hl0]; simp
        omega
      have hxy : ys.length = xs.length := by omega
      have hx256 : xs.length ≤ 256 := by omega
      have hx1 : 1 ≤ xs.length := by omega
      obtain ⟨bk0, o0, rfl, hbw0, hcells0⟩ := HC0.out (by omega)
      obtain ⟨bk1, o1, rfl, hbw1, hcells1⟩ := HC1.out (by omega)
      have HS0 := Lib.hid (show ∀ (i : Nat) (h : i < xs.length), w.cell? ⟨bk0, o0 + i, none⟩ = some (.float .f32 (xs.getD i 0)) from fun i hi => by have := hcells0 i _ (fl_get xs i hi); simpa [List.getD, hi] using this)
      have HS1 := Lib.hid (show ∀ (i : Nat) (h : i < xs.length), w.cell? ⟨bk1, o1 + i, none⟩ = some (.float .f32 (ys.getD i 0)) from fun i hi => by
        have hi2 : i < ys.length := by omega
        have := hcells1 i _ (fl_get ys i hi2); simpa [List.getD, hi2] using this)
      clear hcells0 hcells1 HC0 HC1
      have HF0 := Lib.hid (fun i => getD_finR hfin0 i)
      have HG0 := Lib.hid (fun i => getD_ltR HX0.out i)
      have HF1 := Lib.hid (fun i => getD_finR hfin1 i)
      have HG1 := Lib.hid (fun i => getD_ltR HX1.out i)
      clear hfin0 hfin1 hV0 hV1 hs
      rw [hxy] at y2 hw0 ⊢
      obtain ⟨G, hG⟩ : ∃ G, G = bldG P xs ys s := ⟨_, rfl⟩
      have HISL := Lib.hid (fun (cur : List Nat) (hc : cur.length = xs.length) (h : ∀ i, i < cur.length → Is .f32 (cur.getD i 0) (bldF xs ys s i)) => (show IsLs cur (grd (P : Int) (Q : Int) G) by rw [hG]; have := bld_isls (p := (P : Int)) (q := (Q : Int)) (xs := xs) (ys := ys) (s := s) (by rw [hc]; exact hl0) h; rw [Int.toNat_natCast] at this; exact this))
      have HSSB := Lib.hid (show ssB (P : Int) (Q : Int) = true by unfold ssB sdB; rw [decide_eq_true b1, decide_eq_true b2]; rfl)
      have HSS := Lib.hid (is_self hfs hs2)
      rw [← hG]
      clear hG hl0 hl1 hlN hbd hsh
      have hsf : ∀ (a : Addr) (x : Nat) (w : World), (store a (.float .f32 x)).run Try.prog w = stored Try.prog w a (.float .f32 x) .plain := fun a x w => run_store _ w a _ _ rfl
      go_enter Try.func41, Try.ntmps41
      go_wp2_with fail
      with_reducible refine HV.out.mono ?_
      rintro e w1 ⟨rfl, n1, hw1⟩
      have hb1 : Below w0.heap.size w0 w1 := by rw [hw1]; exact below_drawn (Below.refl _ _) _
      have HB1 := Lib.hid (HB0.out.trans (hb1.mono HB0.out.size))
      replace x0 := (hb1.cell (p := ⟨w.heap.size, 0, none⟩) hlt).trans x0
      replace x1 := (hb1.cell (p := ⟨w.heap.size, 1, none⟩) hlt).trans x1
      replace x2 := (hb1.cell (p := ⟨w.heap.size, 2, none⟩) hlt).trans x2
      replace y0 := (hb1.cell (p := ⟨w.heap.size + 1, 0, none⟩) hlt1).trans y0
      replace y1 := (hb1.cell (p := ⟨w.heap.size + 1, 1, none⟩) hlt1).trans y1
      replace y2 := (hb1.cell (p := ⟨w.heap.size + 1, 2, none⟩) hlt1).trans y2
      replace r0 := (hb1.cell (p := ⟨w.heap.size + 2, 0, none⟩) hltr).trans r0
      replace r1 := (hb1.cell (p := ⟨w.heap.size + 2, 1, none⟩) hltr).trans r1
      replace r2 := (hb1.cell (p := ⟨w.heap.size + 2, 2, none⟩) hltr).trans r2
      replace e0 := (hb1.frozen (p := ⟨w.heap.size + 2, 0, none⟩) hltr).trans e0
      replace e1 := (hb1.frozen (p := ⟨w.heap.size + 2, 1, none⟩) hltr).trans e1
      replace e2 := (hb1.frozen (p := ⟨w.heap.size + 2, 2, none⟩) hltr).trans e2
      replace hlt := Nat.lt_of_lt_of_le hlt hb1.size
      replace hlt1 := Nat.lt_of_lt_of_le hlt1 hb1.size
      replace hltr := Nat.lt_of_lt_of_le hltr hb1.size
      clear hb1 hw0 hw1
      go_wp2_with fail
      with_reducible refine (HSH.out _).mono ?_
      rintro e w3 ⟨rfl, n3, rfl⟩
      have HB3 := Lib.hid (below_drawn HB1.out n3)
      have HLT1 := Lib.hid hltr
      have HOWN := Lib.hid (own4_any w.heap.size (P : Int) (Q : Int) bk0 o0 c0 xs.length xs (w1.drewN n3) rfl ⟨hx1, hx256⟩ hlt (Nat.lt_of_lt_of_le hbw0 HB1.out.size) x0 x1 x2 (fun i hi => (HB1.out.cell (p := ⟨bk0, o0 + i, none⟩) hbw0).trans (HS0.out i hi)))
      go_wp2_with fail
      with_reducible refine HOWN.out.mono ?_
      rintro e w4 ⟨v, rfl, ho4, hb4⟩
      obtain ⟨A4, c3, hv4, _, _, hc4⟩ := id ho4
      rw [fl_len] at hv4 hc4
      obtain ⟨b2, o2, rfl, _⟩ := hc4 (by omega)
      subst hv4
      clear hc4
      replace hb4 : Below w1.heap.size w1 w4 := (below_drawn (Below.refl _ _) n3).trans hb4
      have HCW := Lib.hid (chb_two (w0 := w1) (p := (P : Int)) (q := (Q : Int)) (L := xs) (show Own w4 w1.heap.size _ _ from ho4) (by omega) hb4)
      clear ho4
      replace x0 := (hb4.cell (p := ⟨w.heap.size, 0, none⟩) hlt).trans x0
      replace x1 := (hb4.cell (p := ⟨w.heap.size, 1, none⟩) hlt).trans x1
      replace x2 := (hb4.cell (p := ⟨w.heap.size, 2, none⟩) hlt).trans x2
      replace y0 := (hb4.cell (p := ⟨w.heap.size + 1, 0, none⟩) hlt1).trans y0
      replace y1 := (hb4.cell (p := ⟨w.heap.size + 1, 1, none⟩) hlt1).trans y1
      replace y2 := (hb4.cell (p := ⟨w.heap.size + 1, 2, none⟩) hlt1).trans y2
      replace r0 := (hb4.cell (p := ⟨w.heap.size + 2, 0, none⟩) hltr).trans r0
      replace r1 := (hb4.cell (p := ⟨w.heap.size + 2, 1, none⟩) hltr).trans r1
      replace r2 := (hb4.cell (p := ⟨w.heap.size + 2, 2, none⟩) hltr).trans r2
      replace e0 := (hb4.frozen (p := ⟨w.heap.size + 2, 0, none⟩) hltr).trans e0
      replace e1 := (hb4.frozen (p := ⟨w.heap.size + 2, 1, none⟩) hltr).trans e1
      replace e2 := (hb4.frozen (p := ⟨w.heap.size + 2, 2, none⟩) hltr).trans e2
      replace hlt := Nat.lt_of_lt_of_le hlt hb4.size
      replace hlt1 := Nat.lt_of_lt_of_le hlt1 hb4.size
      replace hltr := Nat.lt_of_lt_of_le hltr hb4.size
      have HB4 := Lib.hid (HB1.out.trans (hb4.mono HB1.out.size))
      have hz4 := hb4.size
      clear hb4
      obtain ⟨W, hW⟩ : ∃ W, w4.alloc (.cells #[.int .i64 (P : Int), .int .i64 (Q : Int), .slice (some ⟨b2, o2, none⟩) xs.length c3] 50) = W := ⟨_, rfl⟩
      have hbW : Below w4.heap.size w4 W := by rw [← hW]; exact (Below.refl _ _).alloc (Nat.le_refl _) _
      rw [hW] at HCW
      replace x0 := (hbW.cell (p := ⟨w.heap.size, 0, none⟩) hlt).trans x0
      replace x1 := (hbW.cell (p := ⟨w.heap.size, 1, none⟩) hlt).trans x1
      replace x2 := (hbW.cell (p := ⟨w.heap.size, 2, none⟩) hlt).trans x2
      replace y0 := (hbW.cell (p := ⟨w.heap.size + 1, 0, none⟩) hlt1).trans y0
      replace y1 := (hbW.cell (p := ⟨w.heap.size + 1, 1, none⟩) hlt1).trans y1
      replace y2 := (hbW.cell (p := ⟨w.heap.size + 1, 2, none⟩) hlt1).trans y2
      replace r0 := (hbW.cell (p := ⟨w.heap.size + 2, 0, none⟩) hltr).trans r0
      replace r1 := (hbW.cell (p := ⟨w.heap.size + 2, 1, none⟩) hltr).trans r1
      replace r2 := (hbW.cell (p := ⟨w.heap.size + 2, 2, none⟩) hltr).trans r2
      replace e0 := (hbW.frozen (p := ⟨w.heap.size + 2, 0, none⟩) hltr).trans e0
      replace e1 := (hbW.frozen (p := ⟨w.heap.size + 2, 1, none⟩) hltr).trans e1
      replace e2 := (hbW.frozen (p := ⟨w.heap.size + 2, 2, none⟩) hltr).trans e2
      replace hlt := Nat.lt_of_lt_of_le hlt hbW.size
      replace hlt1 := Nat.lt_of_lt_of_le hlt1 hbW.size
      replace hltr := Nat.lt_of_lt_of_le hltr hbW.size
      have HBW := Lib.hid (HB4.out.trans (hbW.mono HB4.out.size))
      clear hbW
      obtain ⟨hBXg, hOW, hg0, hb20, hne, hb2W, -⟩ := id HCW.out
      have HBG := Lib.hid hBXg
      have HOW := Lib.hid hOW
      have hgW := hBXg.1
      clear hBXg hOW
      generalize hgd : w4.heap.size = g at *
      have HGD := Lib.hid hgd
      clear hgd
      have hbk0 : bk0 < W.heap.size := Nat.lt_of_lt_of_le hbw0 HBW.out.size
      have hbk1 : bk1 < W.heap.size := Nat.lt_of_lt_of_le hbw1 HBW.out.size
      have hgb : ¬ g = b2 := fun e => hne e.symm
      have hbb0 : ¬ bk0 = b2 := by have := HB1.out.size; omega
      have hbb1 : ¬ bk1 = b2 := by have := HB1.out.size; omega
      have hwb : ¬ w.heap.size = b2 := by have := HLT1.out; omega
      have hwb1 : ¬ w.heap.size + 1 = b2 := by have := HLT1.out; omega
      have hrb : ¬ w.heap.size + 2 = b2 := by have := HLT1.out; omega
      have X2 := Lib.hid x2
      have Y2 := Lib.hid y2
      have R0 := Lib.hid r0
      have R1 := Lib.hid r1
      have R2 := Lib.hid r2
      have E0 := Lib.hid e0
      have E1 := Lib.hid e1
      have E2 := Lib.hid e2
      clear r0 r1 r2 e0 e1 e2
      go_wp2_with fail
      rw [HGD.out]
      clear x0 x1 x2 y0 y1 y2
      go_loopw [9] (BlR W w1.heap.size b2 o2 c3 s xs ys) (fun i _ => xs.length - (intOf i).toNat)
      case atStart => exact ⟨0, xs, Nat.zero_le _, rfl, Tx.refl _ _, HOW.out, rfl, fun i hi => absurd hi (Nat.not_lt_zero _)⟩
      case round =>
        obtain ⟨k, cur, hk, rfl, htx, ho, hcl, his⟩ := hrel
        have x2 := (htx.cell hlt (by simp; exact hwb)).trans X2.out
        have y2 := (htx.cell hlt1 (by simp; exact hwb1)).trans Y2.out
        have g2 : wr.cell? ⟨g, 2, none⟩ = some (.slice (some ⟨b2, o2, none⟩) xs.length c3) := (htx.cell hgW (by simp; exact hgb)).trans (HBG.out.2 2 _ rfl).1
        by_cases hkn : k < xs.length
        · have hkni : (k : Int) < (xs.length : Int) := by omega
          have hk0 : (0 : Int) ≤ (k : Int) := by omega
          have HO := Lib.hid ho
          have HTX := Lib.hid htx
          have s0 : wr.cell? ⟨bk0, o0 + k, none⟩ = some (.float .f32 (xs.getD k 0)) := (htx.cell hbk0 (by simp; exact hbb0)).trans ((HBW.out.cell (p := ⟨bk0, o0 + k, none⟩) hbw0).trans (HS0.out _ hkn))
          have s1 : wr.cell? ⟨bk1, o1 + k, none⟩ = some (.float .f32 (ys.getD k 0)) := (htx.cell hbk1 (by simp; exact hbb1)).trans ((HBW.out.cell (p := ⟨bk1, o1 + k, none⟩) hbw1).trans (HS1.out _ hkn))
          obtain ⟨hlo, hbw2, hcc2, hff⟩ := ho.cells' (by omega)
          have hdst : wr.cell? ⟨b2, o2 + k, none⟩ = some (.float .f32 (cur.getD k 0)) := by rw [hcc2 k _ (fl_get _ k (by omega))]; simp [List.getD, show k < cur.length by omega]
          have hfz := hff k hkn
          have HXk := Lib.hid (is_self (HF0.out k) (HG0.out k))
          have HYk := Lib.hid (is_self (HF1.out k) (HG1.out k))
          have HFk := Lib.hid (show bldF xs ys s k = ar .add .f32 (xs.getD k 0) (ar .mul .f32 s (ar .sub .f32 (ys.getD k 0) (xs.getD k 0))) from rfl)
          have HIS := Lib.hid his
          have HCL := Lib.hid hcl
          generalize cur.getD k 0 = old at *
          generalize xs.getD k 0 = u at *
          generalize ys.getD k 0 = t at *
          clear hcc2 hff htx ho his hcl
          go_wp2_with fail
          refine Sf.wp_soft [false, false, false, false, false, false, false, false, false, false, false, false, false, false, false, false, false, false, false, false, false, false, true, true] [true, true, true, true, true, true, true, true, true, true, true, true, true, true, true, true, true, true, true, true, true, true, false, false] (fun i => if i = 19 then 0 else if i = 20 then 0 else if i = 21 then 0 else 1) (fun _ => undef) (by kernel_rfl) (by kernel_rfl) (by kernel_rfl) ?_
          simp only [Sf.tl]
          refine Sf.lx_one rfl rfl (fun K hK => Sf.dft_quiet rfl ?_)
          go_big_quiet_op
          refine hK _ ?_
          clear hK K
          refine Sf.lx_one rfl rfl (fun K hK => Sf.dft_quiet rfl ?_)
          go_big_quiet_op
          refine hK _ ?_
          clear hK K
          refine Sf.lx_one rfl rfl (fun K hK => Sf.dft_quiet rfl ?_)
          go_big_quiet_op
          refine hK _ ?_
          clear hK K
          refine Sf.lx_one rfl rfl (fun K hK => Sf.dft_quiet rfl ?_)
          go_big_quiet_op
          refine hK _ ?_
          clear hK K
          refine Sf.lx_one rfl rfl (fun K hK => Sf.dft_quiet rfl ?_)
          go_big_quiet_op
          refine hK _ ?_
          clear hK K
          refine Sf.lx_one rfl rfl (fun K hK => Sf.dft_quiet rfl ?_)
          go_big_quiet_op
          refine hK _ ?_
          clear hK K
          refine Sf.lx_one rfl rfl (fun K hK => Sf.dft_quiet rfl ?_)
          go_big_quiet_op
          refine hK _ ?_
          clear hK K
          refine Sf.lx_one rfl rfl (fun K hK => Sf.dft_quiet rfl ?_)
          go_big_quiet_op
          refine hK _ ?_
          clear hK K
          refine Sf.lx_one rfl rfl (fun K hK => Sf.dft_quiet rfl ?_)
          go_big_quiet_op
          refine hK _ ?_
          clear hK K
          refine Sf.lx_one rfl rfl (fun K hK => Sf.dft_quiet rfl ?_)
          go_big_quiet_op
          refine hK _ ?_
          clear hK K
          refine Sf.lx_one rfl rfl (fun K hK => Sf.dft_quiet rfl ?_)
          go_big_quiet_op
          refine hK _ ?_
          clear hK K
          refine Sf.lx_one rfl rfl (fun K hK => Sf.dft_quiet rfl ?_)
          go_big_quiet_op
          refine hK _ ?_
          clear hK K
          refine Sf.lx_one rfl rfl (fun K hK => Sf.dft_quiet rfl ?_)
          go_big_quiet_op
          refine hK _ ?_
          clear hK K
          refine Sf.lx_one rfl rfl (fun K hK => Sf.dft_quiet rfl ?_)
          go_big_quiet_op
          refine hK _ ?_
          clear hK K
          refine Sf.lx_one rfl rfl (fun K hK => Sf.dft_quiet rfl ?_)
          go_big_quiet_op
          refine hK _ ?_
          clear hK K
          refine Sf.lx_one rfl rfl (fun K hK => Sf.dft_quiet rfl ?_)
          go_big_quiet_op
          refine hK _ ?_
          clear hK K
          refine Sf.lx_one rfl rfl (fun K hK => Sf.dft_quiet rfl ?_)
          go_big_quiet_op
          refine hK _ ?_
          clear hK K
          refine Sf.lx_one rfl rfl (fun K hK => Sf.dft_quiet rfl ?_)
          go_big_quiet_op
          refine hK _ ?_
          clear hK K
          refine Sf.lx_one rfl rfl (fun K hK => Sf.dft_quiet rfl ?_)
          go_big_quiet_op
          refine hK _ ?_
          clear hK K
          refine Sf.lx_fl rfl rfl (fun K hK => Sf.sft_ar (k := .f32) rfl rfl rfl rfl (HYk.out) (HXk.out) (fun r45 hr45 => hK _ ?_))
          clear hK K
          simp only [Act.put, List.setIfInBounds_toArray, List.set_cons_zero, List.set_cons_succ]
          refine Sf.lx_fl rfl rfl (fun K hK => Sf.sft_ar (k := .f32) rfl rfl rfl rfl (HSS.out) (hr45) (fun r46 hr46 => hK _ ?_))
          clear hK K
          simp only [Act.put, List.setIfInBounds_toArray, List.set_cons_zero, List.set_cons_succ]
          refine Sf.lx_fl rfl rfl (fun K hK => Sf.sft_ar (k := .f32) rfl rfl rfl rfl (HXk.out) (hr46) (fun r47 hr47 => hK _ ?_))
          clear hK K
          simp only [Act.put, List.setIfInBounds_toArray, List.set_cons_zero, List.set_cons_succ]
          refine Sf.lx_over ?_
          refine Sf.lx_over ?_
          refine Sf.lx_nil ?_
          rintro _ ⟨nq, rfl⟩
          go_wp2_with fail
          go_roundw
          case rel =>
            refine ⟨k + 1, cur.set k r47, by omega, by go_num, Tx.set (g := b2) (HTX.out.drewN _) (by simp) _, by rw [← fl_set]; exact Own.putT (w := _) (HO.out.drewN _) k hkn _, by rw [List.length_set]; exact HCL.out, fun i hi => ?_⟩
            by_cases hik : i = k
            · subst hik; rw [show (cur.set i r47).getD i 0 = r47 by simp [List.getD, HCL.out, hkn], HFk.out]; exact hr47
            · rw [show (cur.set k r47).getD i 0 = cur.getD i 0 by simp only [List.getD]; rw [List.getElem?_set_ne (fun e => hik e.symm)]]; exact HIS.out i (by omega)
          case measure => simp [intOf]; omega
        · obtain rfl : k = xs.length := by omega
          have r0 := (htx.cell hltr (by simp; exact hrb)).trans R0.out
          have r1 := (htx.cell hltr (by simp; exact hrb)).trans R1.out
          have r2 := (htx.cell hltr (by simp; exact hrb)).trans R2.out
          have e0 := (htx.frozen hltr (by simp; exact hrb)).trans E0.out
          have e1 := (htx.frozen hltr (by simp; exact hrb)).trans E1.out
          have e2 := (htx.frozen hltr (by simp; exact hrb)).trans E2.out
          have g0' : wr.cell? ⟨g, 0, none⟩ = some (.int .i64 (P : Int)) := (htx.cell hgW (by simp; exact hgb)).trans (HBG.out.2 0 _ rfl).1
          have g1' : wr.cell? ⟨g, 1, none⟩ = some (.int .i64 (Q : Int)) := (htx.cell hgW (by simp; exact hgb)).trans (HBG.out.2 1 _ rfl).1
          have hil := HISL.out cur hcl (fun i hi => his i (by omega))
          have HGV := Lib.hid (gvS_any (P : Int) (Q : Int) (some ⟨b2, o2, none⟩) c3 cur wr (by have := ho.rd; rw [← hcl] at this; exact this) (by omega) (isLs_lt hil))
          rw [grd_pc hil HSSB.out] at HGV
          rw [hcl] at HGV
          have HBE := Lib.hid (HBW.out.trans (htx.below HBW.out.size (fun k hk => by simp at hk; subst hk; exact Nat.le_trans HB1.out.size hb20)))
          have hltw : w.heap.size + 2 < wr.heap.size := Nat.lt_of_lt_of_le hltr htx.size
          have HO := Lib.hid ho
          have HIL := Lib.hid hil
          clear htx ho his hil
          cases hpc : pcB (P : Int) (Q : Int) G with
          | false =>
            have HPC := Lib.hid hpc
            rw [hpc] at HGV
            clear hpc
            go_wp2_with fail
            with_reducible refine HGV.out.mono ?_
            rintro e w6 ⟨rfl, hb6⟩
            replace r0 := (hb6.cell (p := ⟨w.heap.size + 2, 0, none⟩) hltw).trans r0
            replace r1 := (hb6.cell (p := ⟨w.heap.size + 2, 1, none⟩) hltw).trans r1
            replace r2 := (hb6.cell (p := ⟨w.heap.size + 2, 2, none⟩) hltw).trans r2
            replace e0 := (hb6.frozen (p := ⟨w.heap.size + 2, 0, none⟩) hltw).trans e0
            replace e1 := (hb6.frozen (p := ⟨w.heap.size + 2, 1, none⟩) hltw).trans e1
            replace e2 := (hb6.frozen (p := ⟨w.heap.size + 2, 2, none⟩) hltw).trans e2
            have HB6 := Lib.hid (HBE.out.trans (hb6.mono HBE.out.size))
            clear hb6
            unfold ivV
            have HB := Lib.hid (((HB6.out.setCell (p := ⟨w.heap.size + 2, 0, none⟩) (by show w.heap.size ≤ w.heap.size + 2; omega) (.int .i64 0)).setCell (p := ⟨w.heap.size + 2, 1, none⟩) (by show w.heap.size ≤ w.heap.size + 2; omega) (.int .i64 0)).setCell (p := ⟨w.heap.size + 2, 2, none⟩) (by show w.heap.size ≤ w.heap.size + 2; omega) (.slice none 0 0))
            go_wp2_with fail
            exact bodyPost_ret (v := .tuple #[.agg #[.int .i64 0, .int .i64 0, .slice none 0 0], .bool false]) (by simp [results, Try.results41, go_sem, r0, r1, r2]) rfl (by rw [retGr_no HPC.out]; exact retPc_no _ _ HB.out)
          | true =>
            have HPC := Lib.hid hpc
            have heq : cur = grd (P : Int) (Q : Int) G := isLs_eq HIL.out (by unfold pcB at hpc; rw [Bool.and_eq_true] at hpc; exact hpc.2)
            have HEQ := Lib.hid heq
            rw [hpc] at HGV
            clear hpc heq
            go_wp2_with fail
            with_reducible refine HGV.out.mono ?_
            rintro e w6 ⟨rfl, hb6⟩
            replace r0 := (hb6.cell (p := ⟨w.heap.size + 2, 0, none⟩) hltw).trans r0
            replace r1 := (hb6.cell (p := ⟨w.heap.size + 2, 1, none⟩) hltw).trans r1
            replace r2 := (hb6.cell (p := ⟨w.heap.size + 2, 2, none⟩) hltw).trans r2
            replace e0 := (hb6.frozen (p := ⟨w.heap.size + 2, 0, none⟩) hltw).trans e0
            replace e1 := (hb6.frozen (p := ⟨w.heap.size + 2, 1, none⟩) hltw).trans e1
            replace e2 := (hb6.frozen (p := ⟨w.heap.size + 2, 2, none⟩) hltw).trans e2
            have HB6 := Lib.hid (HBE.out.trans (hb6.mono HBE.out.size))
            have ho6 := HO.out.below hb6
            have HOF := Lib.hid ((((ho6.setLess (a := ⟨w.heap.size + 2, 0, none⟩) HLT1.out (.int .i64 (P : Int))).setLess (a := ⟨w.heap.size + 2, 1, none⟩) HLT1.out (.int .i64 (Q : Int))).setLess (a := ⟨w.heap.size + 2, 2, none⟩) HLT1.out (.slice (some ⟨b2, o2, none⟩) xs.length c3)).less (lo' := w.heap.size) HB1.out.size)
            have HB := Lib.hid (((HB6.out.setCell (p := ⟨w.heap.size + 2, 0, none⟩) (by show w.heap.size ≤ w.heap.size + 2; omega) (.int .i64 (P : Int))).setCell (p := ⟨w.heap.size + 2, 1, none⟩) (by show w.heap.size ≤ w.heap.size + 2; omega) (.int .i64 (Q : Int))).setCell (p := ⟨w.heap.size + 2, 2, none⟩) (by show w.heap.size ≤ w.heap.size + 2; omega) (.slice (some ⟨b2, o2, none⟩) xs.length c3))
            clear ho6 hb6
            unfold ivV
            go_wp2_with fail
            exact bodyPost_ret (v := .tuple #[.agg #[.int .i64 (P : Int), .int .i64 (Q : Int), .slice (some ⟨b2, o2, none⟩) xs.length c3], .bool true]) (by simp [results, Try.results41, go_sem, r0, r1, r2]) rfl (by rw [retGr_yes HPC.out, ← HEQ.out]; exact ⟨_, rfl, HOF.out, HB.out⟩)
end Go.Proofs.Ytfbdmhkmkmbipaa
