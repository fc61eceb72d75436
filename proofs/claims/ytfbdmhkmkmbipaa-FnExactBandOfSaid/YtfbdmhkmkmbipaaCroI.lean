/-
  Contract: CropPicture of the program.
-/
import Derived.Test.YtfbdmhkmkmbipaaLie
import Derived.Test.YtfbdmhkmkmbipaaLts
namespace Go.Proofs.Ytfbdmhkmkmbipaa
open Go.RowKit Fl
set_option linter.unusedVariables false
set_option maxRecDepth 100000

set_option maxHeartbeats 8000000 in
theorem cropI_any (v : Value) (p q : Int) (xs : List Nat) (x y W H : Int) (w : World) (h : Rd w w.heap.size v (fl xs)) (hm : xs.length ≤ 1048576) (hx : ∀ x ∈ xs, x < 2 ^ 32) :
    Calls Try.prog 99 #[.agg #[.int .i64 p, .int .i64 q, v], .int .i64 x, .int .i64 y, .int .i64 W, .int .i64 H] w (RetCr p q xs x y W H w) := by
  obtain ⟨A, c, hv, hnc, hcm, hcell⟩ := id h
  rw [fl_len] at hv hnc hcell
  subst hv
  obtain ⟨w0, hw0⟩ : ∃ w0, (((w.alloc (.cells #[.int .i64 p, .int .i64 q, .slice A xs.length c] 50)).alloc (.cells #[.int .i64 0, .int .i64 0, .slice none 0 0] 50)).alloc (.cells #[.int .i64 x, .int .i64 y, .int .i64 W, .int .i64 H] 97)) = w0 := ⟨_, rfl⟩
  have hb0 : Below w.heap.size w w0 := by rw [← hw0]; exact (((Below.refl _ _).alloc (Nat.le_refl _) _).alloc (by simp) _).alloc (by simp; try omega) _
  have hz : w0.heap.size = w.heap.size + 3 := by rw [← hw0]; simp
  have hlt : w.heap.size + 1 < w0.heap.size := by omega
  have x0 : w0.cell? ⟨w.heap.size, 0, none⟩ = some (.int .i64 p) := by rw [← hw0]; simp [go_sem]
  have x1 : w0.cell? ⟨w.heap.size, 1, none⟩ = some (.int .i64 q) := by rw [← hw0]; simp [go_sem]
  have x2 : w0.cell? ⟨w.heap.size, 2, none⟩ = some (.slice A xs.length c) := by rw [← hw0]; simp [go_sem]
  have y0 : w0.cell? ⟨w.heap.size + 2, 0, none⟩ = some (.int .i64 x) := by rw [← hw0]; simp [go_sem]
  have y1 : w0.cell? ⟨w.heap.size + 2, 1, none⟩ = some (.int .i64 y) := by rw [← hw0]; simp [go_sem]
  have y2 : w0.cell? ⟨w.heap.size + 2, 2, none⟩ = some (.int .i64 W) := by rw [← hw0]; simp [go_sem]
  have y3 : w0.cell? ⟨w.heap.size + 2, 3, none⟩ = some (.int .i64 H) := by rw [← hw0]; simp [go_sem]
  have r0 : w0.cell? ⟨w.heap.size + 1, 0, none⟩ = some (.int .i64 0) := by rw [← hw0]; simp [go_sem]
  have r1 : w0.cell? ⟨w.heap.size + 1, 1, none⟩ = some (.int .i64 0) := by rw [← hw0]; simp [go_sem]
  have r2 : w0.cell? ⟨w.heap.size + 1, 2, none⟩ = some (.slice none 0 0) := by rw [← hw0]; simp [go_sem]
  have e0 : w0.frozen? ⟨w.heap.size + 1, 0, none⟩ = false := by rw [← hw0]; simp [go_sem]
  have e1 : w0.frozen? ⟨w.heap.size + 1, 1, none⟩ = false := by rw [← hw0]; simp [go_sem]
  have e2 : w0.frozen? ⟨w.heap.size + 1, 2, none⟩ = false := by rw [← hw0]; simp [go_sem]
  have HV := Lib.hid (vpI_any (.slice A xs.length c) p q xs w0 (h.step hb0) hm hx)
  have HB0 := Lib.hid hb0
  have HC := Lib.hid hcell
  have HXX := Lib.hid hx
  clear hb0 h hx hcell
  cases hs : vpcB p q xs with
  | false =>
    rw [retCr_no (by unfold crB; rw [hs]; rfl)]
    rw [hs] at HV
    clear hs
    go_enter Try.func99, Try.ntmps99
    go_wp2_with fail
    with_reducible refine HV.out.mono ?_
    rintro e w1 ⟨rfl, hb1⟩
    have HB1 := Lib.hid (HB0.out.trans (hb1.mono HB0.out.size))
    have hz1 : w0.heap.size ≤ w1.heap.size := hb1.size
    replace r0 := (hb1.cell (p := ⟨w.heap.size + 1, 0, none⟩) hlt).trans r0
    replace r1 := (hb1.cell (p := ⟨w.heap.size + 1, 1, none⟩) hlt).trans r1
    replace r2 := (hb1.cell (p := ⟨w.heap.size + 1, 2, none⟩) hlt).trans r2
    replace e0 := (hb1.frozen (p := ⟨w.heap.size + 1, 0, none⟩) hlt).trans e0
    replace e1 := (hb1.frozen (p := ⟨w.heap.size + 1, 1, none⟩) hlt).trans e1
    replace e2 := (hb1.frozen (p := ⟨w.heap.size + 1, 2, none⟩) hlt).trans e2
    replace hlt : w.heap.size + 1 < w1.heap.size := by omega
    clear hb1
    clear hw0
    have HB := Lib.hid (((HB1.out.setCell (p := ⟨w.heap.size + 1, 0, none⟩) (by show w.heap.size ≤ w.heap.size + 1; omega) (.int .i64 0)).setCell (p := ⟨w.heap.size + 1, 1, none⟩) (by show w.heap.size ≤ w.heap.size + 1; omega) (.int .i64 0)).setCell (p := ⟨w.heap.size + 1, 2, none⟩) (by show w.heap.size ≤ w.heap.size + 1; omega) (.slice none 0 0))
    go_wp2_with fail
    exact bodyPost_ret (v := .tuple #[.agg #[.int .i64 0, .int .i64 0, .slice none 0 0], .bool false]) (by simp [results, Try.results99, go_sem, r0, r1, r2]) rfl (retPc_no _ _ HB.out)
  | true =>
    obtain ⟨b1, b2, hl, hfin⟩ := vpcB_out hs
    have hbd := mul_bd b1 b2
    have HF := Lib.hid hfin
    clear hfin
    obtain ⟨b, off, rfl, hbw, hcells⟩ := HC.out (by omega)
    have HSRC := Lib.hid (show ∀ (i : Nat) (h : i < xs.length), w.cell? ⟨b, off + i, none⟩ = some (.float .f32 (xs.getD i 0)) from fun i hi => by have := hcells i _ (fl_get xs i hi); simpa [List.getD, hi] using this)
    clear hcells HC
    rw [hs] at HV
    cases hi : liB p q x y W H with
    | false =>
      rw [retCr_no (by unfold crB; rw [hi]; simp)]
      clear hs
      go_enter Try.func99, Try.ntmps99
      go_wp2_with fail
      with_reducible refine HV.out.mono ?_
      rintro e w1 ⟨rfl, hb1⟩
      have HB1 := Lib.hid (HB0.out.trans (hb1.mono HB0.out.size))
      have hz1 : w0.heap.size ≤ w1.heap.size := hb1.size
      replace r0 := (hb1.cell (p := ⟨w.heap.size + 1, 0, none⟩) hlt).trans r0
      replace r1 := (hb1.cell (p := ⟨w.heap.size + 1, 1, none⟩) hlt).trans r1
      replace r2 := (hb1.cell (p := ⟨w.heap.size + 1, 2, none⟩) hlt).trans r2
      replace e0 := (hb1.frozen (p := ⟨w.heap.size + 1, 0, none⟩) hlt).trans e0
      replace e1 := (hb1.frozen (p := ⟨w.heap.size + 1, 1, none⟩) hlt).trans e1
      replace e2 := (hb1.frozen (p := ⟨w.heap.size + 1, 2, none⟩) hlt).trans e2
      replace hlt : w.heap.size + 1 < w1.heap.size := by omega
      replace x0 := (hb1.cell (p := ⟨w.heap.size, 0, none⟩) (by show w.heap.size < _; omega)).trans x0
      replace x1 := (hb1.cell (p := ⟨w.heap.size, 1, none⟩) (by show w.heap.size < _; omega)).trans x1
      replace x2 := (hb1.cell (p := ⟨w.heap.size, 2, none⟩) (by show w.heap.size < _; omega)).trans x2
      replace y0 := (hb1.cell (p := ⟨w.heap.size + 2, 0, none⟩) (by show w.heap.size + 2 < _; omega)).trans y0
      replace y1 := (hb1.cell (p := ⟨w.heap.size + 2, 1, none⟩) (by show w.heap.size + 2 < _; omega)).trans y1
      replace y2 := (hb1.cell (p := ⟨w.heap.size + 2, 2, none⟩) (by show w.heap.size + 2 < _; omega)).trans y2
      replace y3 := (hb1.cell (p := ⟨w.heap.size + 2, 3, none⟩) (by show w.heap.size + 2 < _; omega)).trans y3
      clear hb1
      have HL := Lib.hid (lieI_any x y W H p q (some ⟨b, off, none⟩) xs.length c w1 b1 b2)
      rw [hi] at HL
      clear hi hw0
      go_wp2_with fail
      with_reducible refine HL.out.mono ?_
      rintro e w2 ⟨rfl, hb2⟩
      have HB2 := Lib.hid (HB1.out.trans (hb2.mono HB1.out.size))
      have hz2 : w1.heap.size ≤ w2.heap.size := hb2.size
      replace r0 := (hb2.cell (p := ⟨w.heap.size + 1, 0, none⟩) hlt).trans r0
      replace r1 := (hb2.cell (p := ⟨w.heap.size + 1, 1, none⟩) hlt).trans r1
      replace r2 := (hb2.cell (p := ⟨w.heap.size + 1, 2, none⟩) hlt).trans r2
      replace e0 := (hb2.frozen (p := ⟨w.heap.size + 1, 0, none⟩) hlt).trans e0
      replace e1 := (hb2.frozen (p := ⟨w.heap.size + 1, 1, none⟩) hlt).trans e1
      replace e2 := (hb2.frozen (p := ⟨w.heap.size + 1, 2, none⟩) hlt).trans e2
      replace hlt : w.heap.size + 1 < w2.heap.size := by omega
      replace x0 := (hb2.cell (p := ⟨w.heap.size, 0, none⟩) (by show w.heap.size < _; omega)).trans x0
      replace x1 := (hb2.cell (p := ⟨w.heap.size, 1, none⟩) (by show w.heap.size < _; omega)).trans x1
      replace x2 := (hb2.cell (p := ⟨w.heap.size, 2, none⟩) (by show w.heap.size < _; omega)).trans x2
      replace y0 := (hb2.cell (p := ⟨w.heap.size + 2, 0, none⟩) (by show w.heap.size + 2 < _; omega)).trans y0
      replace y1 := (hb2.cell (p := ⟨w.heap.size + 2, 1, none⟩) (by show w.heap.size + 2 < _; omega)).trans y1
      replace y2 := (hb2.cell (p := ⟨w.heap.size + 2, 2, none⟩) (by show w.heap.size + 2 < _; omega)).trans y2
      replace y3 := (hb2.cell (p := ⟨w.heap.size + 2, 3, none⟩) (by show w.heap.size + 2 < _; omega)).trans y3
      clear hb2
      have HB := Lib.hid (((HB2.out.setCell (p := ⟨w.heap.size + 1, 0, none⟩) (by show w.heap.size ≤ w.heap.size + 1; omega) (.int .i64 0)).setCell (p := ⟨w.heap.size + 1, 1, none⟩) (by show w.heap.size ≤ w.heap.size + 1; omega) (.int .i64 0)).setCell (p := ⟨w.heap.size + 1, 2, none⟩) (by show w.heap.size ≤ w.heap.size + 1; omega) (.slice none 0 0))
      go_wp2_with fail
      exact bodyPost_ret (v := .tuple #[.agg #[.int .i64 0, .int .i64 0, .slice none 0 0], .bool false]) (by simp [results, Try.results99, go_sem, r0, r1, r2]) rfl (retPc_no _ _ HB.out)
    | true =>
      obtain ⟨⟨c1, c2⟩, c3, c4⟩ := liB_out hi
      rw [retCr_yes (by unfold crB; rw [hs, hi]; rfl)]
      obtain ⟨L, hL⟩ : ∃ L, crL p.toNat xs x.toNat y.toNat W.toNat H.toNat = L := ⟨_, rfl⟩
      rw [hL]
      have HLe := Lib.hid hL
      clear hs hL
      go_enter Try.func99, Try.ntmps99
      go_wp2_with fail
      with_reducible refine HV.out.mono ?_
      rintro e w1 ⟨rfl, hb1⟩
      have HB1 := Lib.hid (HB0.out.trans (hb1.mono HB0.out.size))
      have hz1 : w0.heap.size ≤ w1.heap.size := hb1.size
      replace r0 := (hb1.cell (p := ⟨w.heap.size + 1, 0, none⟩) hlt).trans r0
      replace r1 := (hb1.cell (p := ⟨w.heap.size + 1, 1, none⟩) hlt).trans r1
      replace r2 := (hb1.cell (p := ⟨w.heap.size + 1, 2, none⟩) hlt).trans r2
      replace e0 := (hb1.frozen (p := ⟨w.heap.size + 1, 0, none⟩) hlt).trans e0
      replace e1 := (hb1.frozen (p := ⟨w.heap.size + 1, 1, none⟩) hlt).trans e1
      replace e2 := (hb1.frozen (p := ⟨w.heap.size + 1, 2, none⟩) hlt).trans e2
      replace hlt : w.heap.size + 1 < w1.heap.size := by omega
      replace x0 := (hb1.cell (p := ⟨w.heap.size, 0, none⟩) (by show w.heap.size < _; omega)).trans x0
      replace x1 := (hb1.cell (p := ⟨w.heap.size, 1, none⟩) (by show w.heap.size < _; omega)).trans x1
      replace x2 := (hb1.cell (p := ⟨w.heap.size, 2, none⟩) (by show w.heap.size < _; omega)).trans x2
      replace y0 := (hb1.cell (p := ⟨w.heap.size + 2, 0, none⟩) (by show w.heap.size + 2 < _; omega)).trans y0
      replace y1 := (hb1.cell (p := ⟨w.heap.size + 2, 1, none⟩) (by show w.heap.size + 2 < _; omega)).trans y1
      replace y2 := (hb1.cell (p := ⟨w.heap.size + 2, 2, none⟩) (by show w.heap.size + 2 < _; omega)).trans y2
      replace y3 := (hb1.cell (p := ⟨w.heap.size + 2, 3, none⟩) (by show w.heap.size + 2 < _; omega)).trans y3
      clear hb1
      have HL := Lib.hid (lieI_any x y W H p q (some ⟨b, off, none⟩) xs.length c w1 b1 b2)
      rw [hi] at HL
      clear hi hw0
      go_wp2_with fail
      with_reducible refine HL.out.mono ?_
      rintro e w2 ⟨rfl, hb2⟩
      have HB2 := Lib.hid (HB1.out.trans (hb2.mono HB1.out.size))
      have hz2 : w1.heap.size ≤ w2.heap.size := hb2.size
      replace r0 := (hb2.cell (p := ⟨w.heap.size + 1, 0, none⟩) hlt).trans r0
      replace r1 := (hb2.cell (p := ⟨w.heap.size + 1, 1, none⟩) hlt).trans r1
      replace r2 := (hb2.cell (p := ⟨w.heap.size + 1, 2, none⟩) hlt).trans r2
      replace e0 := (hb2.frozen (p := ⟨w.heap.size + 1, 0, none⟩) hlt).trans e0
      replace e1 := (hb2.frozen (p := ⟨w.heap.size + 1, 1, none⟩) hlt).trans e1
      replace e2 := (hb2.frozen (p := ⟨w.heap.size + 1, 2, none⟩) hlt).trans e2
      replace hlt : w.heap.size + 1 < w2.heap.size := by omega
      replace x0 := (hb2.cell (p := ⟨w.heap.size, 0, none⟩) (by show w.heap.size < _; omega)).trans x0
      replace x1 := (hb2.cell (p := ⟨w.heap.size, 1, none⟩) (by show w.heap.size < _; omega)).trans x1
      replace x2 := (hb2.cell (p := ⟨w.heap.size, 2, none⟩) (by show w.heap.size < _; omega)).trans x2
      replace y0 := (hb2.cell (p := ⟨w.heap.size + 2, 0, none⟩) (by show w.heap.size + 2 < _; omega)).trans y0
      replace y1 := (hb2.cell (p := ⟨w.heap.size + 2, 1, none⟩) (by show w.heap.size + 2 < _; omega)).trans y1
      replace y2 := (hb2.cell (p := ⟨w.heap.size + 2, 2, none⟩) (by show w.heap.size + 2 < _; omega)).trans y2
      replace y3 := (hb2.cell (p := ⟨w.heap.size + 2, 3, none⟩) (by show w.heap.size + 2 < _; omega)).trans y3
      clear hb2
      have HT := ltI_any p q x y W H b off c xs.length xs w2 b1 b2 hl rfl (by omega) (by omega) (by omega) (by omega) hnc hcm (Nat.lt_of_lt_of_le hbw HB2.out.size) (fun i hi => (HB2.out.cell (p := ⟨b, off + i, none⟩) hbw).trans (HSRC.out i hi))
      rw [HLe.out] at HT
      replace HT := Lib.hid HT
      clear hl
      go_wp2_with fail
      with_reducible refine HT.out.mono ?_
      rintro e w5 ⟨v, rfl, ho5, hb5⟩
      obtain ⟨A5, c5, hv5, _, _, _⟩ := id ho5
      subst hv5
      have HB5 := Lib.hid (HB2.out.trans (hb5.mono HB2.out.size))
      replace r0 := (hb5.cell (p := ⟨w.heap.size + 1, 0, none⟩) hlt).trans r0
      replace r1 := (hb5.cell (p := ⟨w.heap.size + 1, 1, none⟩) hlt).trans r1
      replace r2 := (hb5.cell (p := ⟨w.heap.size + 1, 2, none⟩) hlt).trans r2
      replace e0 := (hb5.frozen (p := ⟨w.heap.size + 1, 0, none⟩) hlt).trans e0
      replace e1 := (hb5.frozen (p := ⟨w.heap.size + 1, 1, none⟩) hlt).trans e1
      replace e2 := (hb5.frozen (p := ⟨w.heap.size + 1, 2, none⟩) hlt).trans e2
      replace x0 := (hb5.cell (p := ⟨w.heap.size, 0, none⟩) (by show w.heap.size < _; omega)).trans x0
      replace x1 := (hb5.cell (p := ⟨w.heap.size, 1, none⟩) (by show w.heap.size < _; omega)).trans x1
      replace x2 := (hb5.cell (p := ⟨w.heap.size, 2, none⟩) (by show w.heap.size < _; omega)).trans x2
      have HOF := Lib.hid ((((ho5.setLess (a := ⟨w.heap.size + 1, 0, none⟩) hlt (.int .i64 W)).setLess (a := ⟨w.heap.size + 1, 1, none⟩) hlt (.int .i64 H)).setLess (a := ⟨w.heap.size + 1, 2, none⟩) hlt (.slice A5 (fl L).length c5)).less (lo' := w.heap.size) HB2.out.size)
      have HB := Lib.hid (((HB5.out.setCell (p := ⟨w.heap.size + 1, 0, none⟩) (by show w.heap.size ≤ w.heap.size + 1; omega) (.int .i64 W)).setCell (p := ⟨w.heap.size + 1, 1, none⟩) (by show w.heap.size ≤ w.heap.size + 1; omega) (.int .i64 H)).setCell (p := ⟨w.heap.size + 1, 2, none⟩) (by show w.heap.size ≤ w.heap.size + 1; omega) (.slice A5 (fl L).length c5))
      clear ho5 hb5
      go_wp2_with fail
      exact bodyPost_ret (v := .tuple #[.agg #[.int .i64 W, .int .i64 H, .slice A5 (fl L).length c5], .bool true]) (by simp [results, Try.results99, go_sem, r0, r1, r2]) rfl ⟨_, rfl, HOF.out, HB.out⟩
end Go.Proofs.Ytfbdmhkmkmbipaa
