/-
  Contract: PutPicture of the program.
-/
import Derived.Test.YtfbdmhkmkmbipaaPuR
import Derived.Test.YtfbdmhkmkmbipaaLie
import Derived.Test.YtfbdmhkmkmbipaaRo
import Derived.Test.YtfbdmhkmkmbipaaSfw
import Derived.Deep.RegionHeld3
import Derived.BigQuiet
import Derived.OwnWalk
import Derived.BigRegion
namespace Go.Proofs.Ytfbdmhkmkmbipaa
open Go.RowKit Fl
set_option linter.unusedVariables false
set_option maxRecDepth 100000
theorem bx_threeQ {W : World} {g : Nat} {a b c : Value} (h : Bx W g [a, b, c]) : W.cell? ⟨g, 0, none⟩ = some a ∧ W.cell? ⟨g, 1, none⟩ = some b ∧ W.cell? ⟨g, 2, none⟩ = some c ∧ W.frozen? ⟨g, 0, none⟩ = false ∧ W.frozen? ⟨g, 1, none⟩ = false ∧ W.frozen? ⟨g, 2, none⟩ = false :=
  ⟨(h.2 0 _ rfl).1, (h.2 1 _ rfl).1, (h.2 2 _ rfl).1, (h.2 0 _ rfl).2, (h.2 1 _ rfl).2, (h.2 2 _ rfl).2⟩
def PtR (w5 : World) (lo eb cap P X Y W : Nat) (xs ys : List Nat) (H : Nat) (i : Value) (wr : World) : Prop := ∃ k : Nat, k ≤ H ∧ i = .int .i64 k ∧ Tx [eb] w5 wr ∧ wr.ownsRow lo 23 1 (.slice (some ⟨eb, 0, none⟩) xs.length cap) xs.length (fl (pvK P xs X Y W ys (k * W)))
set_option maxHeartbeats 16000000 in
theorem putI_any (v0 : Value) (p0 q0 : Int) (xs : List Nat) (v1 : Value) (p1 q1 : Int) (ys : List Nat) (x y : Int) (w : World) (h0 : Rd w w.heap.size v0 (fl xs)) (h1 : Rd w w.heap.size v1 (fl ys)) (hm0 : xs.length ≤ 1048576) (hx0 : ∀ x ∈ xs, x < 2 ^ 32) (hm1 : ys.length ≤ 1048576) (hx1 : ∀ x ∈ ys, x < 2 ^ 32) :
    Calls Try.prog 37 #[.agg #[.int .i64 p0, .int .i64 q0, v0], .agg #[.int .i64 p1, .int .i64 q1, v1], .int .i64 x, .int .i64 y] w (RetPt p0 q0 xs p1 q1 ys x y w) := by
  obtain ⟨A0, c0, hv0, hnc0, hcm0, hcell0⟩ := id h0
  rw [fl_len] at hv0 hnc0 hcell0
  subst hv0
  obtain ⟨A1, c1, hv1, hnc1, hcm1, hcell1⟩ := id h1
  rw [fl_len] at hv1 hnc1 hcell1
  subst hv1
  obtain ⟨w0, hw0⟩ : ∃ w0, (((w.alloc (.cells #[.int .i64 p0, .int .i64 q0, .slice A0 xs.length c0] 50)).alloc (.cells #[.int .i64 p1, .int .i64 q1, .slice A1 ys.length c1] 50)).alloc (.cells #[.int .i64 0, .int .i64 0, .slice none 0 0] 50)) = w0 := ⟨_, rfl⟩
  have hb0 : Below w.heap.size w w0 := by rw [← hw0]; exact ((((Below.refl _ _).alloc (Nat.le_refl _) _).alloc (by simp; try omega) _).alloc (by simp; try omega) _)
  have hz : w0.heap.size = w.heap.size + 3 := by rw [← hw0]; simp
  have hlt : w.heap.size < w0.heap.size := by omega
  have hlt1 : w.heap.size + 1 < w0.heap.size := by omega
  have hltr : w.heap.size + 2 < w0.heap.size := by omega
  have x0 : w0.cell? ⟨w.heap.size, 0, none⟩ = some (.int .i64 p0) := by rw [← hw0]; simp [go_sem]
  have x1 : w0.cell? ⟨w.heap.size, 1, none⟩ = some (.int .i64 q0) := by rw [← hw0]; simp [go_sem]
  have x2 : w0.cell? ⟨w.heap.size, 2, none⟩ = some (.slice A0 xs.length c0) := by rw [← hw0]; simp [go_sem]
  have y0 : w0.cell? ⟨w.heap.size + 1, 0, none⟩ = some (.int .i64 p1) := by rw [← hw0]; simp [go_sem]
  have y1 : w0.cell? ⟨w.heap.size + 1, 1, none⟩ = some (.int .i64 q1) := by rw [← hw0]; simp [go_sem]
  have y2 : w0.cell? ⟨w.heap.size + 1, 2, none⟩ = some (.slice A1 ys.length c1) := by rw [← hw0]; simp [go_sem]
  have xf0 : w0.frozen? ⟨w.heap.size, 0, none⟩ = false := by rw [← hw0]; simp [go_sem]
  have xf1 : w0.frozen? ⟨w.heap.size, 1, none⟩ = false := by rw [← hw0]; simp [go_sem]
  have xf2 : w0.frozen? ⟨w.heap.size, 2, none⟩ = false := by rw [← hw0]; simp [go_sem]
  have yf0 : w0.frozen? ⟨w.heap.size + 1, 0, none⟩ = false := by rw [← hw0]; simp [go_sem]
  have yf1 : w0.frozen? ⟨w.heap.size + 1, 1, none⟩ = false := by rw [← hw0]; simp [go_sem]
  have yf2 : w0.frozen? ⟨w.heap.size + 1, 2, none⟩ = false := by rw [← hw0]; simp [go_sem]
  have hBX : Bx w0 (w.heap.size) [.int .i64 p0, .int .i64 q0, .slice A0 xs.length c0] := by
    refine ⟨hlt, fun i v hi => ?_⟩
    match i, hi with
    | 0, hi => cases hi; exact ⟨x0, xf0⟩
    | 1, hi => cases hi; exact ⟨x1, xf1⟩
    | 2, hi => cases hi; exact ⟨x2, xf2⟩
    | (n + 3), hi => simp at hi
  have hBY : Bx w0 (w.heap.size + 1) [.int .i64 p1, .int .i64 q1, .slice A1 ys.length c1] := by
    refine ⟨hlt1, fun i v hi => ?_⟩
    match i, hi with
    | 0, hi => cases hi; exact ⟨y0, yf0⟩
    | 1, hi => cases hi; exact ⟨y1, yf1⟩
    | 2, hi => cases hi; exact ⟨y2, yf2⟩
    | (n + 3), hi => simp at hi
  clear xf0 xf1 xf2 yf0 yf1 yf2
  clear hz
  have r0 : w0.cell? ⟨w.heap.size + 2, 0, none⟩ = some (.int .i64 0) := by rw [← hw0]; simp [go_sem]
  have r1 : w0.cell? ⟨w.heap.size + 2, 1, none⟩ = some (.int .i64 0) := by rw [← hw0]; simp [go_sem]
  have r2 : w0.cell? ⟨w.heap.size + 2, 2, none⟩ = some (.slice none 0 0) := by rw [← hw0]; simp [go_sem]
  have e0 : w0.frozen? ⟨w.heap.size + 2, 0, none⟩ = false := by rw [← hw0]; simp [go_sem]
  have e1 : w0.frozen? ⟨w.heap.size + 2, 1, none⟩ = false := by rw [← hw0]; simp [go_sem]
  have e2 : w0.frozen? ⟨w.heap.size + 2, 2, none⟩ = false := by rw [← hw0]; simp [go_sem]
  clear hBX hBY
  have HSD := Lib.hid (sid_any p1 q1 A1 ys.length c1 w0)
  have HH0 := Lib.hid h0
  have HH1 := Lib.hid h1
  have HB0 := Lib.hid hb0
  have HC0 := Lib.hid hcell0
  have HC1 := Lib.hid hcell1
  have HX0 := Lib.hid hx0
  have HX1 := Lib.hid hx1
  clear hb0 h0 h1 hx0 hx1 hcell0 hcell1
  cases hs0 : vpcB p0 q0 xs with
  | false =>
    rw [retPt_no (by unfold ptB; rw [hs0]; rfl)]
    have HS0V := Lib.hid hs0
    clear hs0
    go_enter Try.func37, Try.ntmps37
    go_wp2_with fail
    with_reducible refine HSD.out.mono ?_
    rintro e wa ⟨rfl, hba⟩
    clear hw0
    replace x0 := (hba.cell (p := ⟨w.heap.size, 0, none⟩) hlt).trans x0
    replace x1 := (hba.cell (p := ⟨w.heap.size, 1, none⟩) hlt).trans x1
    replace x2 := (hba.cell (p := ⟨w.heap.size, 2, none⟩) hlt).trans x2
    replace y0 := (hba.cell (p := ⟨w.heap.size + 1, 0, none⟩) hlt1).trans y0
    replace y1 := (hba.cell (p := ⟨w.heap.size + 1, 1, none⟩) hlt1).trans y1
    replace y2 := (hba.cell (p := ⟨w.heap.size + 1, 2, none⟩) hlt1).trans y2
    replace r0 := (hba.cell (p := ⟨w.heap.size + 2, 0, none⟩) hltr).trans r0
    replace r1 := (hba.cell (p := ⟨w.heap.size + 2, 1, none⟩) hltr).trans r1
    replace r2 := (hba.cell (p := ⟨w.heap.size + 2, 2, none⟩) hltr).trans r2
    replace e0 := (hba.frozen (p := ⟨w.heap.size + 2, 0, none⟩) hltr).trans e0
    replace e1 := (hba.frozen (p := ⟨w.heap.size + 2, 1, none⟩) hltr).trans e1
    replace e2 := (hba.frozen (p := ⟨w.heap.size + 2, 2, none⟩) hltr).trans e2
    replace hlt := Nat.lt_of_lt_of_le hlt hba.size
    replace hlt1 := Nat.lt_of_lt_of_le hlt1 hba.size
    replace hltr := Nat.lt_of_lt_of_le hltr hba.size
    have HBA := Lib.hid (HB0.out.trans (hba.mono HB0.out.size))
    clear hba
    obtain ⟨wb, hwb⟩ : ∃ wb, wa.alloc (.cells #[.int .i64 x, .int .i64 y, .int .i64 p1, .int .i64 q1] 97) = wb := ⟨_, rfl⟩
    have hbb : Below wa.heap.size wa wb := by rw [← hwb]; exact (Below.refl _ _).alloc (Nat.le_refl _) _
    have hltq : wa.heap.size < wb.heap.size := by rw [← hwb]; simp
    have qq0 : wb.cell? ⟨wa.heap.size, 0, none⟩ = some (.int .i64 x) := by rw [← hwb]; exact ((bx_new wa [.int .i64 x, .int .i64 y, .int .i64 p1, .int .i64 q1] 97).2 0 _ rfl).1
    have qq1 : wb.cell? ⟨wa.heap.size, 1, none⟩ = some (.int .i64 y) := by rw [← hwb]; exact ((bx_new wa [.int .i64 x, .int .i64 y, .int .i64 p1, .int .i64 q1] 97).2 1 _ rfl).1
    have qq2 : wb.cell? ⟨wa.heap.size, 2, none⟩ = some (.int .i64 p1) := by rw [← hwb]; exact ((bx_new wa [.int .i64 x, .int .i64 y, .int .i64 p1, .int .i64 q1] 97).2 2 _ rfl).1
    have qq3 : wb.cell? ⟨wa.heap.size, 3, none⟩ = some (.int .i64 q1) := by rw [← hwb]; exact ((bx_new wa [.int .i64 x, .int .i64 y, .int .i64 p1, .int .i64 q1] 97).2 3 _ rfl).1
    replace x0 := (hbb.cell (p := ⟨w.heap.size, 0, none⟩) hlt).trans x0
    replace x1 := (hbb.cell (p := ⟨w.heap.size, 1, none⟩) hlt).trans x1
    replace x2 := (hbb.cell (p := ⟨w.heap.size, 2, none⟩) hlt).trans x2
    replace y0 := (hbb.cell (p := ⟨w.heap.size + 1, 0, none⟩) hlt1).trans y0
    replace y1 := (hbb.cell (p := ⟨w.heap.size + 1, 1, none⟩) hlt1).trans y1
    replace y2 := (hbb.cell (p := ⟨w.heap.size + 1, 2, none⟩) hlt1).trans y2
    replace r0 := (hbb.cell (p := ⟨w.heap.size + 2, 0, none⟩) hltr).trans r0
    replace r1 := (hbb.cell (p := ⟨w.heap.size + 2, 1, none⟩) hltr).trans r1
    replace r2 := (hbb.cell (p := ⟨w.heap.size + 2, 2, none⟩) hltr).trans r2
    replace e0 := (hbb.frozen (p := ⟨w.heap.size + 2, 0, none⟩) hltr).trans e0
    replace e1 := (hbb.frozen (p := ⟨w.heap.size + 2, 1, none⟩) hltr).trans e1
    replace e2 := (hbb.frozen (p := ⟨w.heap.size + 2, 2, none⟩) hltr).trans e2
    replace hlt := Nat.lt_of_lt_of_le hlt hbb.size
    replace hlt1 := Nat.lt_of_lt_of_le hlt1 hbb.size
    replace hltr := Nat.lt_of_lt_of_le hltr hbb.size
    have HBB := Lib.hid (HBA.out.trans (hbb.mono HBA.out.size))
    clear hbb
    have HV0 := Lib.hid (vpI_any (.slice A0 xs.length c0) p0 q0 xs wb (HH0.out.step HBB.out) hm0 HX0.out)
    rw [HS0V.out] at HV0
    go_wp2_with fail
    with_reducible refine HV0.out.mono ?_
    rintro e w1 ⟨rfl, hb1⟩
    clear hwb
    replace x0 := (hb1.cell (p := ⟨w.heap.size, 0, none⟩) hlt).trans x0
    replace x1 := (hb1.cell (p := ⟨w.heap.size, 1, none⟩) hlt).trans x1
    replace x2 := (hb1.cell (p := ⟨w.heap.size, 2, none⟩) hlt).trans x2
    replace y0 := (hb1.cell (p := ⟨w.heap.size + 1, 0, none⟩) hlt1).trans y0
    replace y1 := (hb1.cell (p := ⟨w.heap.size + 1, 1, none⟩) hlt1).trans y1
    replace y2 := (hb1.cell (p := ⟨w.heap.size + 1, 2, none⟩) hlt1).trans y2
    replace r0 := (hb1.cell (p := ⟨w.heap.size + 2, 0, none⟩) hltr).trans r0
    replace r1 := (hb1.cell (p := ⟨w.heap.size + 2, 1, none⟩) hltr).trans r1
    replace r2 := (hb1.cell (p := ⟨w.heap.size + 2, 2, none⟩) hltr).trans r2
    replace e0 := (hb1.frozen (p := ⟨w.heap.size + 2, 0, none⟩) hltr).trans e0
    replace e1 := (hb1.frozen (p := ⟨w.heap.size + 2, 1, none⟩) hltr).trans e1
    replace e2 := (hb1.frozen (p := ⟨w.heap.size + 2, 2, none⟩) hltr).trans e2
    replace qq0 := (hb1.cell (p := ⟨wa.heap.size, 0, none⟩) hltq).trans qq0
    replace qq1 := (hb1.cell (p := ⟨wa.heap.size, 1, none⟩) hltq).trans qq1
    replace qq2 := (hb1.cell (p := ⟨wa.heap.size, 2, none⟩) hltq).trans qq2
    replace qq3 := (hb1.cell (p := ⟨wa.heap.size, 3, none⟩) hltq).trans qq3
    replace hlt := Nat.lt_of_lt_of_le hlt hb1.size
    replace hlt1 := Nat.lt_of_lt_of_le hlt1 hb1.size
    replace hltr := Nat.lt_of_lt_of_le hltr hb1.size
    replace hltq := Nat.lt_of_lt_of_le hltq hb1.size
    have HB1 := Lib.hid (HBB.out.trans (hb1.mono HBB.out.size))
    clear hb1 HV0
    have HB := Lib.hid (((HB1.out.setCell (p := ⟨w.heap.size + 2, 0, none⟩) (by show w.heap.size ≤ w.heap.size + 2; omega) (.int .i64 0)).setCell (p := ⟨w.heap.size + 2, 1, none⟩) (by show w.heap.size ≤ w.heap.size + 2; omega) (.int .i64 0)).setCell (p := ⟨w.heap.size + 2, 2, none⟩) (by show w.heap.size ≤ w.heap.size + 2; omega) (.slice none 0 0))
    go_wp2_with fail
    exact bodyPost_ret (v := .tuple #[.agg #[.int .i64 0, .int .i64 0, .slice none 0 0], .bool false]) (by simp [results, Try.results37, go_sem, r0, r1, r2]) rfl (retPc_no _ _ HB.out)
  | true =>
    have HS0V := Lib.hid hs0
    cases hs1 : vpcB p1 q1 ys with
    | false =>
      rw [retPt_no (by unfold ptB; rw [hs1]; simp)]
      have HS1V := Lib.hid hs1
      clear hs0 hs1
      go_enter Try.func37, Try.ntmps37
      go_wp2_with fail
      with_reducible refine HSD.out.mono ?_
      rintro e wa ⟨rfl, hba⟩
      clear hw0
      replace x0 := (hba.cell (p := ⟨w.heap.size, 0, none⟩) hlt).trans x0
      replace x1 := (hba.cell (p := ⟨w.heap.size, 1, none⟩) hlt).trans x1
      replace x2 := (hba.cell (p := ⟨w.heap.size, 2, none⟩) hlt).trans x2
      replace y0 := (hba.cell (p := ⟨w.heap.size + 1, 0, none⟩) hlt1).trans y0
      replace y1 := (hba.cell (p := ⟨w.heap.size + 1, 1, none⟩) hlt1).trans y1
      replace y2 := (hba.cell (p := ⟨w.heap.size + 1, 2, none⟩) hlt1).trans y2
      replace r0 := (hba.cell (p := ⟨w.heap.size + 2, 0, none⟩) hltr).trans r0
      replace r1 := (hba.cell (p := ⟨w.heap.size + 2, 1, none⟩) hltr).trans r1
      replace r2 := (hba.cell (p := ⟨w.heap.size + 2, 2, none⟩) hltr).trans r2
      replace e0 := (hba.frozen (p := ⟨w.heap.size + 2, 0, none⟩) hltr).trans e0
      replace e1 := (hba.frozen (p := ⟨w.heap.size + 2, 1, none⟩) hltr).trans e1
      replace e2 := (hba.frozen (p := ⟨w.heap.size + 2, 2, none⟩) hltr).trans e2
      replace hlt := Nat.lt_of_lt_of_le hlt hba.size
      replace hlt1 := Nat.lt_of_lt_of_le hlt1 hba.size
      replace hltr := Nat.lt_of_lt_of_le hltr hba.size
      have HBA := Lib.hid (HB0.out.trans (hba.mono HB0.out.size))
      clear hba
      obtain ⟨wb, hwb⟩ : ∃ wb, wa.alloc (.cells #[.int .i64 x, .int .i64 y, .int .i64 p1, .int .i64 q1] 97) = wb := ⟨_, rfl⟩
      have hbb : Below wa.heap.size wa wb := by rw [← hwb]; exact (Below.refl _ _).alloc (Nat.le_refl _) _
      have hltq : wa.heap.size < wb.heap.size := by rw [← hwb]; simp
      have qq0 : wb.cell? ⟨wa.heap.size, 0, none⟩ = some (.int .i64 x) := by rw [← hwb]; exact ((bx_new wa [.int .i64 x, .int .i64 y, .int .i64 p1, .int .i64 q1] 97).2 0 _ rfl).1
      have qq1 : wb.cell? ⟨wa.heap.size, 1, none⟩ = some (.int .i64 y) := by rw [← hwb]; exact ((bx_new wa [.int .i64 x, .int .i64 y, .int .i64 p1, .int .i64 q1] 97).2 1 _ rfl).1
      have qq2 : wb.cell? ⟨wa.heap.size, 2, none⟩ = some (.int .i64 p1) := by rw [← hwb]; exact ((bx_new wa [.int .i64 x, .int .i64 y, .int .i64 p1, .int .i64 q1] 97).2 2 _ rfl).1
      have qq3 : wb.cell? ⟨wa.heap.size, 3, none⟩ = some (.int .i64 q1) := by rw [← hwb]; exact ((bx_new wa [.int .i64 x, .int .i64 y, .int .i64 p1, .int .i64 q1] 97).2 3 _ rfl).1
      replace x0 := (hbb.cell (p := ⟨w.heap.size, 0, none⟩) hlt).trans x0
      replace x1 := (hbb.cell (p := ⟨w.heap.size, 1, none⟩) hlt).trans x1
      replace x2 := (hbb.cell (p := ⟨w.heap.size, 2, none⟩) hlt).trans x2
      replace y0 := (hbb.cell (p := ⟨w.heap.size + 1, 0, none⟩) hlt1).trans y0
      replace y1 := (hbb.cell (p := ⟨w.heap.size + 1, 1, none⟩) hlt1).trans y1
      replace y2 := (hbb.cell (p := ⟨w.heap.size + 1, 2, none⟩) hlt1).trans y2
      replace r0 := (hbb.cell (p := ⟨w.heap.size + 2, 0, none⟩) hltr).trans r0
      replace r1 := (hbb.cell (p := ⟨w.heap.size + 2, 1, none⟩) hltr).trans r1
      replace r2 := (hbb.cell (p := ⟨w.heap.size + 2, 2, none⟩) hltr).trans r2
      replace e0 := (hbb.frozen (p := ⟨w.heap.size + 2, 0, none⟩) hltr).trans e0
      replace e1 := (hbb.frozen (p := ⟨w.heap.size + 2, 1, none⟩) hltr).trans e1
      replace e2 := (hbb.frozen (p := ⟨w.heap.size + 2, 2, none⟩) hltr).trans e2
      replace hlt := Nat.lt_of_lt_of_le hlt hbb.size
      replace hlt1 := Nat.lt_of_lt_of_le hlt1 hbb.size
      replace hltr := Nat.lt_of_lt_of_le hltr hbb.size
      have HBB := Lib.hid (HBA.out.trans (hbb.mono HBA.out.size))
      clear hbb
      have HV0 := Lib.hid (vpI_any (.slice A0 xs.length c0) p0 q0 xs wb (HH0.out.step HBB.out) hm0 HX0.out)
      rw [HS0V.out] at HV0
      go_wp2_with fail
      with_reducible refine HV0.out.mono ?_
      rintro e w1 ⟨rfl, hb1⟩
      clear hwb
      replace x0 := (hb1.cell (p := ⟨w.heap.size, 0, none⟩) hlt).trans x0
      replace x1 := (hb1.cell (p := ⟨w.heap.size, 1, none⟩) hlt).trans x1
      replace x2 := (hb1.cell (p := ⟨w.heap.size, 2, none⟩) hlt).trans x2
      replace y0 := (hb1.cell (p := ⟨w.heap.size + 1, 0, none⟩) hlt1).trans y0
      replace y1 := (hb1.cell (p := ⟨w.heap.size + 1, 1, none⟩) hlt1).trans y1
      replace y2 := (hb1.cell (p := ⟨w.heap.size + 1, 2, none⟩) hlt1).trans y2
      replace r0 := (hb1.cell (p := ⟨w.heap.size + 2, 0, none⟩) hltr).trans r0
      replace r1 := (hb1.cell (p := ⟨w.heap.size + 2, 1, none⟩) hltr).trans r1
      replace r2 := (hb1.cell (p := ⟨w.heap.size + 2, 2, none⟩) hltr).trans r2
      replace e0 := (hb1.frozen (p := ⟨w.heap.size + 2, 0, none⟩) hltr).trans e0
      replace e1 := (hb1.frozen (p := ⟨w.heap.size + 2, 1, none⟩) hltr).trans e1
      replace e2 := (hb1.frozen (p := ⟨w.heap.size + 2, 2, none⟩) hltr).trans e2
      replace qq0 := (hb1.cell (p := ⟨wa.heap.size, 0, none⟩) hltq).trans qq0
      replace qq1 := (hb1.cell (p := ⟨wa.heap.size, 1, none⟩) hltq).trans qq1
      replace qq2 := (hb1.cell (p := ⟨wa.heap.size, 2, none⟩) hltq).trans qq2
      replace qq3 := (hb1.cell (p := ⟨wa.heap.size, 3, none⟩) hltq).trans qq3
      replace hlt := Nat.lt_of_lt_of_le hlt hb1.size
      replace hlt1 := Nat.lt_of_lt_of_le hlt1 hb1.size
      replace hltr := Nat.lt_of_lt_of_le hltr hb1.size
      replace hltq := Nat.lt_of_lt_of_le hltq hb1.size
      have HB1 := Lib.hid (HBB.out.trans (hb1.mono HBB.out.size))
      clear hb1 HV0
      have HV1 := Lib.hid (vpI_any (.slice A1 ys.length c1) p1 q1 ys w1 (HH1.out.step HB1.out) hm1 HX1.out)
      rw [HS1V.out] at HV1
      go_wp2_with fail
      with_reducible refine HV1.out.mono ?_
      rintro e w2 ⟨rfl, hb2⟩
      replace x0 := (hb2.cell (p := ⟨w.heap.size, 0, none⟩) hlt).trans x0
      replace x1 := (hb2.cell (p := ⟨w.heap.size, 1, none⟩) hlt).trans x1
      replace x2 := (hb2.cell (p := ⟨w.heap.size, 2, none⟩) hlt).trans x2
      replace y0 := (hb2.cell (p := ⟨w.heap.size + 1, 0, none⟩) hlt1).trans y0
      replace y1 := (hb2.cell (p := ⟨w.heap.size + 1, 1, none⟩) hlt1).trans y1
      replace y2 := (hb2.cell (p := ⟨w.heap.size + 1, 2, none⟩) hlt1).trans y2
      replace r0 := (hb2.cell (p := ⟨w.heap.size + 2, 0, none⟩) hltr).trans r0
      replace r1 := (hb2.cell (p := ⟨w.heap.size + 2, 1, none⟩) hltr).trans r1
      replace r2 := (hb2.cell (p := ⟨w.heap.size + 2, 2, none⟩) hltr).trans r2
      replace e0 := (hb2.frozen (p := ⟨w.heap.size + 2, 0, none⟩) hltr).trans e0
      replace e1 := (hb2.frozen (p := ⟨w.heap.size + 2, 1, none⟩) hltr).trans e1
      replace e2 := (hb2.frozen (p := ⟨w.heap.size + 2, 2, none⟩) hltr).trans e2
      replace qq0 := (hb2.cell (p := ⟨wa.heap.size, 0, none⟩) hltq).trans qq0
      replace qq1 := (hb2.cell (p := ⟨wa.heap.size, 1, none⟩) hltq).trans qq1
      replace qq2 := (hb2.cell (p := ⟨wa.heap.size, 2, none⟩) hltq).trans qq2
      replace qq3 := (hb2.cell (p := ⟨wa.heap.size, 3, none⟩) hltq).trans qq3
      replace hlt := Nat.lt_of_lt_of_le hlt hb2.size
      replace hlt1 := Nat.lt_of_lt_of_le hlt1 hb2.size
      replace hltr := Nat.lt_of_lt_of_le hltr hb2.size
      replace hltq := Nat.lt_of_lt_of_le hltq hb2.size
      have HB2 := Lib.hid (HB1.out.trans (hb2.mono HB1.out.size))
      clear hb2 HV1
      have HB := Lib.hid (((HB2.out.setCell (p := ⟨w.heap.size + 2, 0, none⟩) (by show w.heap.size ≤ w.heap.size + 2; omega) (.int .i64 0)).setCell (p := ⟨w.heap.size + 2, 1, none⟩) (by show w.heap.size ≤ w.heap.size + 2; omega) (.int .i64 0)).setCell (p := ⟨w.heap.size + 2, 2, none⟩) (by show w.heap.size ≤ w.heap.size + 2; omega) (.slice none 0 0))
      go_wp2_with fail
      exact bodyPost_ret (v := .tuple #[.agg #[.int .i64 0, .int .i64 0, .slice none 0 0], .bool false]) (by simp [results, Try.results37, go_sem, r0, r1, r2]) rfl (retPc_no _ _ HB.out)
    | true =>
      have HS1V := Lib.hid hs1
      obtain ⟨b1, b2, hl0, hfin0⟩ := vpcB_out hs0
      obtain ⟨d1, d2, hl1, hfin1⟩ := vpcB_out hs1
      cases hli : liB p0 q0 x y p1 q1 with
      | false =>
        rw [retPt_no (by unfold ptB; rw [hli]; simp)]
        have HLI := Lib.hid hli
        clear hs0 hs1 hli hl0 hl1 hfin0 hfin1
        go_enter Try.func37, Try.ntmps37
        go_wp2_with fail
        with_reducible refine HSD.out.mono ?_
        rintro e wa ⟨rfl, hba⟩
        clear hw0
        replace x0 := (hba.cell (p := ⟨w.heap.size, 0, none⟩) hlt).trans x0
        replace x1 := (hba.cell (p := ⟨w.heap.size, 1, none⟩) hlt).trans x1
        replace x2 := (hba.cell (p := ⟨w.heap.size, 2, none⟩) hlt).trans x2
        replace y0 := (hba.cell (p := ⟨w.heap.size + 1, 0, none⟩) hlt1).trans y0
        replace y1 := (hba.cell (p := ⟨w.heap.size + 1, 1, none⟩) hlt1).trans y1
        replace y2 := (hba.cell (p := ⟨w.heap.size + 1, 2, none⟩) hlt1).trans y2
        replace r0 := (hba.cell (p := ⟨w.heap.size + 2, 0, none⟩) hltr).trans r0
        replace r1 := (hba.cell (p := ⟨w.heap.size + 2, 1, none⟩) hltr).trans r1
        replace r2 := (hba.cell (p := ⟨w.heap.size + 2, 2, none⟩) hltr).trans r2
        replace e0 := (hba.frozen (p := ⟨w.heap.size + 2, 0, none⟩) hltr).trans e0
        replace e1 := (hba.frozen (p := ⟨w.heap.size + 2, 1, none⟩) hltr).trans e1
        replace e2 := (hba.frozen (p := ⟨w.heap.size + 2, 2, none⟩) hltr).trans e2
        replace hlt := Nat.lt_of_lt_of_le hlt hba.size
        replace hlt1 := Nat.lt_of_lt_of_le hlt1 hba.size
        replace hltr := Nat.lt_of_lt_of_le hltr hba.size
        have HBA := Lib.hid (HB0.out.trans (hba.mono HB0.out.size))
        clear hba
        obtain ⟨wb, hwb⟩ : ∃ wb, wa.alloc (.cells #[.int .i64 x, .int .i64 y, .int .i64 p1, .int .i64 q1] 97) = wb := ⟨_, rfl⟩
        have hbb : Below wa.heap.size wa wb := by rw [← hwb]; exact (Below.refl _ _).alloc (Nat.le_refl _) _
        have hltq : wa.heap.size < wb.heap.size := by rw [← hwb]; simp
        have qq0 : wb.cell? ⟨wa.heap.size, 0, none⟩ = some (.int .i64 x) := by rw [← hwb]; exact ((bx_new wa [.int .i64 x, .int .i64 y, .int .i64 p1, .int .i64 q1] 97).2 0 _ rfl).1
        have qq1 : wb.cell? ⟨wa.heap.size, 1, none⟩ = some (.int .i64 y) := by rw [← hwb]; exact ((bx_new wa [.int .i64 x, .int .i64 y, .int .i64 p1, .int .i64 q1] 97).2 1 _ rfl).1
        have qq2 : wb.cell? ⟨wa.heap.size, 2, none⟩ = some (.int .i64 p1) := by rw [← hwb]; exact ((bx_new wa [.int .i64 x, .int .i64 y, .int .i64 p1, .int .i64 q1] 97).2 2 _ rfl).1
        have qq3 : wb.cell? ⟨wa.heap.size, 3, none⟩ = some (.int .i64 q1) := by rw [← hwb]; exact ((bx_new wa [.int .i64 x, .int .i64 y, .int .i64 p1, .int .i64 q1] 97).2 3 _ rfl).1
        replace x0 := (hbb.cell (p := ⟨w.heap.size, 0, none⟩) hlt).trans x0
        replace x1 := (hbb.cell (p := ⟨w.heap.size, 1, none⟩) hlt).trans x1
        replace x2 := (hbb.cell (p := ⟨w.heap.size, 2, none⟩) hlt).trans x2
        replace y0 := (hbb.cell (p := ⟨w.heap.size + 1, 0, none⟩) hlt1).trans y0
        replace y1 := (hbb.cell (p := ⟨w.heap.size + 1, 1, none⟩) hlt1).trans y1
        replace y2 := (hbb.cell (p := ⟨w.heap.size + 1, 2, none⟩) hlt1).trans y2
        replace r0 := (hbb.cell (p := ⟨w.heap.size + 2, 0, none⟩) hltr).trans r0
        replace r1 := (hbb.cell (p := ⟨w.heap.size + 2, 1, none⟩) hltr).trans r1
        replace r2 := (hbb.cell (p := ⟨w.heap.size + 2, 2, none⟩) hltr).trans r2
        replace e0 := (hbb.frozen (p := ⟨w.heap.size + 2, 0, none⟩) hltr).trans e0
        replace e1 := (hbb.frozen (p := ⟨w.heap.size + 2, 1, none⟩) hltr).trans e1
        replace e2 := (hbb.frozen (p := ⟨w.heap.size + 2, 2, none⟩) hltr).trans e2
        replace hlt := Nat.lt_of_lt_of_le hlt hbb.size
        replace hlt1 := Nat.lt_of_lt_of_le hlt1 hbb.size
        replace hltr := Nat.lt_of_lt_of_le hltr hbb.size
        have HBB := Lib.hid (HBA.out.trans (hbb.mono HBA.out.size))
        clear hbb
        have HV0 := Lib.hid (vpI_any (.slice A0 xs.length c0) p0 q0 xs wb (HH0.out.step HBB.out) hm0 HX0.out)
        rw [HS0V.out] at HV0
        go_wp2_with fail
        with_reducible refine HV0.out.mono ?_
        rintro e w1 ⟨rfl, hb1⟩
        clear hwb
        replace x0 := (hb1.cell (p := ⟨w.heap.size, 0, none⟩) hlt).trans x0
        replace x1 := (hb1.cell (p := ⟨w.heap.size, 1, none⟩) hlt).trans x1
        replace x2 := (hb1.cell (p := ⟨w.heap.size, 2, none⟩) hlt).trans x2
        replace y0 := (hb1.cell (p := ⟨w.heap.size + 1, 0, none⟩) hlt1).trans y0
        replace y1 := (hb1.cell (p := ⟨w.heap.size + 1, 1, none⟩) hlt1).trans y1
        replace y2 := (hb1.cell (p := ⟨w.heap.size + 1, 2, none⟩) hlt1).trans y2
        replace r0 := (hb1.cell (p := ⟨w.heap.size + 2, 0, none⟩) hltr).trans r0
        replace r1 := (hb1.cell (p := ⟨w.heap.size + 2, 1, none⟩) hltr).trans r1
        replace r2 := (hb1.cell (p := ⟨w.heap.size + 2, 2, none⟩) hltr).trans r2
        replace e0 := (hb1.frozen (p := ⟨w.heap.size + 2, 0, none⟩) hltr).trans e0
        replace e1 := (hb1.frozen (p := ⟨w.heap.size + 2, 1, none⟩) hltr).trans e1
        replace e2 := (hb1.frozen (p := ⟨w.heap.size + 2, 2, none⟩) hltr).trans e2
        replace qq0 := (hb1.cell (p := ⟨wa.heap.size, 0, none⟩) hltq).trans qq0
        replace qq1 := (hb1.cell (p := ⟨wa.heap.size, 1, none⟩) hltq).trans qq1
        replace qq2 := (hb1.cell (p := ⟨wa.heap.size, 2, none⟩) hltq).trans qq2
        replace qq3 := (hb1.cell (p := ⟨wa.heap.size, 3, none⟩) hltq).trans qq3
        replace hlt := Nat.lt_of_lt_of_le hlt hb1.size
        replace hlt1 := Nat.lt_of_lt_of_le hlt1 hb1.size
        replace hltr := Nat.lt_of_lt_of_le hltr hb1.size
        replace hltq := Nat.lt_of_lt_of_le hltq hb1.size
        have HB1 := Lib.hid (HBB.out.trans (hb1.mono HBB.out.size))
        clear hb1 HV0
        have HV1 := Lib.hid (vpI_any (.slice A1 ys.length c1) p1 q1 ys w1 (HH1.out.step HB1.out) hm1 HX1.out)
        rw [HS1V.out] at HV1
        go_wp2_with fail
        with_reducible refine HV1.out.mono ?_
        rintro e w2 ⟨rfl, hb2⟩
        replace x0 := (hb2.cell (p := ⟨w.heap.size, 0, none⟩) hlt).trans x0
        replace x1 := (hb2.cell (p := ⟨w.heap.size, 1, none⟩) hlt).trans x1
        replace x2 := (hb2.cell (p := ⟨w.heap.size, 2, none⟩) hlt).trans x2
        replace y0 := (hb2.cell (p := ⟨w.heap.size + 1, 0, none⟩) hlt1).trans y0
        replace y1 := (hb2.cell (p := ⟨w.heap.size + 1, 1, none⟩) hlt1).trans y1
        replace y2 := (hb2.cell (p := ⟨w.heap.size + 1, 2, none⟩) hlt1).trans y2
        replace r0 := (hb2.cell (p := ⟨w.heap.size + 2, 0, none⟩) hltr).trans r0
        replace r1 := (hb2.cell (p := ⟨w.heap.size + 2, 1, none⟩) hltr).trans r1
        replace r2 := (hb2.cell (p := ⟨w.heap.size + 2, 2, none⟩) hltr).trans r2
        replace e0 := (hb2.frozen (p := ⟨w.heap.size + 2, 0, none⟩) hltr).trans e0
        replace e1 := (hb2.frozen (p := ⟨w.heap.size + 2, 1, none⟩) hltr).trans e1
        replace e2 := (hb2.frozen (p := ⟨w.heap.size + 2, 2, none⟩) hltr).trans e2
        replace qq0 := (hb2.cell (p := ⟨wa.heap.size, 0, none⟩) hltq).trans qq0
        replace qq1 := (hb2.cell (p := ⟨wa.heap.size, 1, none⟩) hltq).trans qq1
        replace qq2 := (hb2.cell (p := ⟨wa.heap.size, 2, none⟩) hltq).trans qq2
        replace qq3 := (hb2.cell (p := ⟨wa.heap.size, 3, none⟩) hltq).trans qq3
        replace hlt := Nat.lt_of_lt_of_le hlt hb2.size
        replace hlt1 := Nat.lt_of_lt_of_le hlt1 hb2.size
        replace hltr := Nat.lt_of_lt_of_le hltr hb2.size
        replace hltq := Nat.lt_of_lt_of_le hltq hb2.size
        have HB2 := Lib.hid (HB1.out.trans (hb2.mono HB1.out.size))
        clear hb2 HV1
        have HL := Lib.hid (lieI_any x y p1 q1 p0 q0 A0 xs.length c0 w2 b1 b2)
        rw [HLI.out] at HL
        go_wp2_with fail
        with_reducible refine HL.out.mono ?_
        rintro e w3 ⟨rfl, hb3⟩
        replace x0 := (hb3.cell (p := ⟨w.heap.size, 0, none⟩) hlt).trans x0
        replace x1 := (hb3.cell (p := ⟨w.heap.size, 1, none⟩) hlt).trans x1
        replace x2 := (hb3.cell (p := ⟨w.heap.size, 2, none⟩) hlt).trans x2
        replace y0 := (hb3.cell (p := ⟨w.heap.size + 1, 0, none⟩) hlt1).trans y0
        replace y1 := (hb3.cell (p := ⟨w.heap.size + 1, 1, none⟩) hlt1).trans y1
        replace y2 := (hb3.cell (p := ⟨w.heap.size + 1, 2, none⟩) hlt1).trans y2
        replace r0 := (hb3.cell (p := ⟨w.heap.size + 2, 0, none⟩) hltr).trans r0
        replace r1 := (hb3.cell (p := ⟨w.heap.size + 2, 1, none⟩) hltr).trans r1
        replace r2 := (hb3.cell (p := ⟨w.heap.size + 2, 2, none⟩) hltr).trans r2
        replace e0 := (hb3.frozen (p := ⟨w.heap.size + 2, 0, none⟩) hltr).trans e0
        replace e1 := (hb3.frozen (p := ⟨w.heap.size + 2, 1, none⟩) hltr).trans e1
        replace e2 := (hb3.frozen (p := ⟨w.heap.size + 2, 2, none⟩) hltr).trans e2
        replace qq0 := (hb3.cell (p := ⟨wa.heap.size, 0, none⟩) hltq).trans qq0
        replace qq1 := (hb3.cell (p := ⟨wa.heap.size, 1, none⟩) hltq).trans qq1
        replace qq2 := (hb3.cell (p := ⟨wa.heap.size, 2, none⟩) hltq).trans qq2
        replace qq3 := (hb3.cell (p := ⟨wa.heap.size, 3, none⟩) hltq).trans qq3
        replace hlt := Nat.lt_of_lt_of_le hlt hb3.size
        replace hlt1 := Nat.lt_of_lt_of_le hlt1 hb3.size
        replace hltr := Nat.lt_of_lt_of_le hltr hb3.size
        replace hltq := Nat.lt_of_lt_of_le hltq hb3.size
        have HB3 := Lib.hid (HB2.out.trans (hb3.mono HB2.out.size))
        clear hb3 HL
        have HB := Lib.hid (((HB3.out.setCell (p := ⟨w.heap.size + 2, 0, none⟩) (by show w.heap.size ≤ w.heap.size + 2; omega) (.int .i64 0)).setCell (p := ⟨w.heap.size + 2, 1, none⟩) (by show w.heap.size ≤ w.heap.size + 2; omega) (.int .i64 0)).setCell (p := ⟨w.heap.size + 2, 2, none⟩) (by show w.heap.size ≤ w.heap.size + 2; omega) (.slice none 0 0))
        go_wp2_with fail
        exact bodyPost_ret (v := .tuple #[.agg #[.int .i64 0, .int .i64 0, .slice none 0 0], .bool false]) (by simp [results, Try.results37, go_sem, r0, r1, r2]) rfl (retPc_no _ _ HB.out)
      | true =>
        rw [retPt_yes (by unfold ptB; rw [hs0, hs1, hli]; rfl)]
        have HLI := Lib.hid hli
        obtain ⟨⟨k1, k2⟩, k3, k4⟩ := liB_out hli
        have hbd0 := mul_bd b1 b2
        have hbd1 := mul_bd d1 d2
        clear hs0 hs1 hli hfin0 hfin1
        obtain ⟨P, rfl⟩ : ∃ P : Nat, p0 = (P : Int) := ⟨p0.toNat, by omega⟩
        obtain ⟨Q, rfl⟩ : ∃ P : Nat, q0 = (P : Int) := ⟨q0.toNat, by omega⟩
        obtain ⟨W, rfl⟩ : ∃ P : Nat, p1 = (P : Int) := ⟨p1.toNat, by omega⟩
        obtain ⟨H, rfl⟩ : ∃ P : Nat, q1 = (P : Int) := ⟨q1.toNat, by omega⟩
        obtain ⟨X, rfl⟩ : ∃ P : Nat, x = (P : Int) := ⟨x.toNat, by omega⟩
        obtain ⟨Y, rfl⟩ : ∃ P : Nat, y = (P : Int) := ⟨y.toNat, by omega⟩
        have hl0N : xs.length = P * Q := by
          have : (xs.length : Int) = ((P * Q : Nat) : Int) := by rw [hl0]; simp
          omega
        have hl1N : ys.length = W * H := by
          have : (ys.length : Int) = ((W * H : Nat) : Int) := by rw [hl1]; simp
          omega
        rw [show ((W : Int) * (H : Int)).toNat = ys.length by rw [← hl1]; simp]
        simp only [Int.toNat_natCast]
        have hx256 : xs.length ≤ 256 := by omega
        have hx1 : 1 ≤ xs.length := by omega
        have hy256 : ys.length ≤ 256 := by omega
        obtain ⟨bk0, o0, rfl, hbw0, hcells0⟩ := HC0.out (by omega)
        obtain ⟨bk1, o1, rfl, hbw1, hcells1⟩ := HC1.out (by omega)
        clear hcells0 HC0 HC1
        have HSY := Lib.hid (show ∀ (i : Nat) (h : i < ys.length), w.cell? ⟨bk1, o1 + i, none⟩ = some (.float .f32 (ys.getD i 0)) from fun i hi => by have := hcells1 i _ (fl_get ys i hi); simpa [List.getD, hi] using this)
        clear hcells1
        obtain ⟨R, hR⟩ : ∃ R, R = pvK P xs X Y W ys ys.length := ⟨_, rfl⟩
        have HRL := Lib.hid (show R.length = xs.length by rw [hR]; exact pvK_len _ _ _ _ _ _ _)
        rw [← hR]
        have HR := Lib.hid hR
        have HL0 := Lib.hid hl0N
        have HL1 := Lib.hid hl1N
        have HIX := Lib.hid (show ∀ k, k < H → (Y + k) * P + P ≤ xs.length from fun k hk => by
          have h1 : (Y + k + 1) * P ≤ Q * P := Nat.mul_le_mul_right _ (by omega)
          rw [Nat.succ_mul] at h1
          rw [hl0N, Nat.mul_comm P Q]; omega)
        have HIY := Lib.hid (show ∀ k, k < H → k * W + W ≤ ys.length from fun k hk => by
          have h1 : (k + 1) * W ≤ H * W := Nat.mul_le_mul_right _ hk
          rw [Nat.succ_mul] at h1
          rw [hl1N, Nat.mul_comm W H]; exact h1)
        obtain ⟨i0, hi, hz0, hz1, hz2⟩ := info_parts infoF
        clear hR hl0 hl1 hl0N hl1N hbd0 hbd1
        go_enter Try.func37, Try.ntmps37
        go_wp2_with fail
        with_reducible refine HSD.out.mono ?_
        rintro e wa ⟨rfl, hba⟩
        clear hw0
        replace x0 := (hba.cell (p := ⟨w.heap.size, 0, none⟩) hlt).trans x0
        replace x1 := (hba.cell (p := ⟨w.heap.size, 1, none⟩) hlt).trans x1
        replace x2 := (hba.cell (p := ⟨w.heap.size, 2, none⟩) hlt).trans x2
        replace y0 := (hba.cell (p := ⟨w.heap.size + 1, 0, none⟩) hlt1).trans y0
        replace y1 := (hba.cell (p := ⟨w.heap.size + 1, 1, none⟩) hlt1).trans y1
        replace y2 := (hba.cell (p := ⟨w.heap.size + 1, 2, none⟩) hlt1).trans y2
        replace r0 := (hba.cell (p := ⟨w.heap.size + 2, 0, none⟩) hltr).trans r0
        replace r1 := (hba.cell (p := ⟨w.heap.size + 2, 1, none⟩) hltr).trans r1
        replace r2 := (hba.cell (p := ⟨w.heap.size + 2, 2, none⟩) hltr).trans r2
        replace e0 := (hba.frozen (p := ⟨w.heap.size + 2, 0, none⟩) hltr).trans e0
        replace e1 := (hba.frozen (p := ⟨w.heap.size + 2, 1, none⟩) hltr).trans e1
        replace e2 := (hba.frozen (p := ⟨w.heap.size + 2, 2, none⟩) hltr).trans e2
        replace hlt := Nat.lt_of_lt_of_le hlt hba.size
        replace hlt1 := Nat.lt_of_lt_of_le hlt1 hba.size
        replace hltr := Nat.lt_of_lt_of_le hltr hba.size
        have HBA := Lib.hid (HB0.out.trans (hba.mono HB0.out.size))
        clear hba
        obtain ⟨wb, hwb⟩ : ∃ wb, wa.alloc (.cells #[.int .i64 (X : Int), .int .i64 (Y : Int), .int .i64 (W : Int), .int .i64 (H : Int)] 97) = wb := ⟨_, rfl⟩
        have hbb : Below wa.heap.size wa wb := by rw [← hwb]; exact (Below.refl _ _).alloc (Nat.le_refl _) _
        have hltq : wa.heap.size < wb.heap.size := by rw [← hwb]; simp
        have qq0 : wb.cell? ⟨wa.heap.size, 0, none⟩ = some (.int .i64 (X : Int)) := by rw [← hwb]; exact ((bx_new wa [.int .i64 (X : Int), .int .i64 (Y : Int), .int .i64 (W : Int), .int .i64 (H : Int)] 97).2 0 _ rfl).1
        have qq1 : wb.cell? ⟨wa.heap.size, 1, none⟩ = some (.int .i64 (Y : Int)) := by rw [← hwb]; exact ((bx_new wa [.int .i64 (X : Int), .int .i64 (Y : Int), .int .i64 (W : Int), .int .i64 (H : Int)] 97).2 1 _ rfl).1
        have qq2 : wb.cell? ⟨wa.heap.size, 2, none⟩ = some (.int .i64 (W : Int)) := by rw [← hwb]; exact ((bx_new wa [.int .i64 (X : Int), .int .i64 (Y : Int), .int .i64 (W : Int), .int .i64 (H : Int)] 97).2 2 _ rfl).1
        have qq3 : wb.cell? ⟨wa.heap.size, 3, none⟩ = some (.int .i64 (H : Int)) := by rw [← hwb]; exact ((bx_new wa [.int .i64 (X : Int), .int .i64 (Y : Int), .int .i64 (W : Int), .int .i64 (H : Int)] 97).2 3 _ rfl).1
        replace x0 := (hbb.cell (p := ⟨w.heap.size, 0, none⟩) hlt).trans x0
        replace x1 := (hbb.cell (p := ⟨w.heap.size, 1, none⟩) hlt).trans x1
        replace x2 := (hbb.cell (p := ⟨w.heap.size, 2, none⟩) hlt).trans x2
        replace y0 := (hbb.cell (p := ⟨w.heap.size + 1, 0, none⟩) hlt1).trans y0
        replace y1 := (hbb.cell (p := ⟨w.heap.size + 1, 1, none⟩) hlt1).trans y1
        replace y2 := (hbb.cell (p := ⟨w.heap.size + 1, 2, none⟩) hlt1).trans y2
        replace r0 := (hbb.cell (p := ⟨w.heap.size + 2, 0, none⟩) hltr).trans r0
        replace r1 := (hbb.cell (p := ⟨w.heap.size + 2, 1, none⟩) hltr).trans r1
        replace r2 := (hbb.cell (p := ⟨w.heap.size + 2, 2, none⟩) hltr).trans r2
        replace e0 := (hbb.frozen (p := ⟨w.heap.size + 2, 0, none⟩) hltr).trans e0
        replace e1 := (hbb.frozen (p := ⟨w.heap.size + 2, 1, none⟩) hltr).trans e1
        replace e2 := (hbb.frozen (p := ⟨w.heap.size + 2, 2, none⟩) hltr).trans e2
        replace hlt := Nat.lt_of_lt_of_le hlt hbb.size
        replace hlt1 := Nat.lt_of_lt_of_le hlt1 hbb.size
        replace hltr := Nat.lt_of_lt_of_le hltr hbb.size
        have HBB := Lib.hid (HBA.out.trans (hbb.mono HBA.out.size))
        clear hbb
        have HV0 := Lib.hid (vpI_any (.slice (some ⟨bk0, o0, none⟩) xs.length c0) (P : Int) (Q : Int) xs wb (HH0.out.step HBB.out) hm0 HX0.out)
        rw [HS0V.out] at HV0
        go_wp2_with fail
        with_reducible refine HV0.out.mono ?_
        rintro e w1 ⟨rfl, hb1⟩
        clear hwb
        replace x0 := (hb1.cell (p := ⟨w.heap.size, 0, none⟩) hlt).trans x0
        replace x1 := (hb1.cell (p := ⟨w.heap.size, 1, none⟩) hlt).trans x1
        replace x2 := (hb1.cell (p := ⟨w.heap.size, 2, none⟩) hlt).trans x2
        replace y0 := (hb1.cell (p := ⟨w.heap.size + 1, 0, none⟩) hlt1).trans y0
        replace y1 := (hb1.cell (p := ⟨w.heap.size + 1, 1, none⟩) hlt1).trans y1
        replace y2 := (hb1.cell (p := ⟨w.heap.size + 1, 2, none⟩) hlt1).trans y2
        replace r0 := (hb1.cell (p := ⟨w.heap.size + 2, 0, none⟩) hltr).trans r0
        replace r1 := (hb1.cell (p := ⟨w.heap.size + 2, 1, none⟩) hltr).trans r1
        replace r2 := (hb1.cell (p := ⟨w.heap.size + 2, 2, none⟩) hltr).trans r2
        replace e0 := (hb1.frozen (p := ⟨w.heap.size + 2, 0, none⟩) hltr).trans e0
        replace e1 := (hb1.frozen (p := ⟨w.heap.size + 2, 1, none⟩) hltr).trans e1
        replace e2 := (hb1.frozen (p := ⟨w.heap.size + 2, 2, none⟩) hltr).trans e2
        replace qq0 := (hb1.cell (p := ⟨wa.heap.size, 0, none⟩) hltq).trans qq0
        replace qq1 := (hb1.cell (p := ⟨wa.heap.size, 1, none⟩) hltq).trans qq1
        replace qq2 := (hb1.cell (p := ⟨wa.heap.size, 2, none⟩) hltq).trans qq2
        replace qq3 := (hb1.cell (p := ⟨wa.heap.size, 3, none⟩) hltq).trans qq3
        replace hlt := Nat.lt_of_lt_of_le hlt hb1.size
        replace hlt1 := Nat.lt_of_lt_of_le hlt1 hb1.size
        replace hltr := Nat.lt_of_lt_of_le hltr hb1.size
        replace hltq := Nat.lt_of_lt_of_le hltq hb1.size
        have HB1 := Lib.hid (HBB.out.trans (hb1.mono HBB.out.size))
        clear hb1 HV0
        have HV1 := Lib.hid (vpI_any (.slice (some ⟨bk1, o1, none⟩) ys.length c1) (W : Int) (H : Int) ys w1 (HH1.out.step HB1.out) hm1 HX1.out)
        rw [HS1V.out] at HV1
        go_wp2_with fail
        with_reducible refine HV1.out.mono ?_
        rintro e w2 ⟨rfl, hb2⟩
        replace x0 := (hb2.cell (p := ⟨w.heap.size, 0, none⟩) hlt).trans x0
        replace x1 := (hb2.cell (p := ⟨w.heap.size, 1, none⟩) hlt).trans x1
        replace x2 := (hb2.cell (p := ⟨w.heap.size, 2, none⟩) hlt).trans x2
        replace y0 := (hb2.cell (p := ⟨w.heap.size + 1, 0, none⟩) hlt1).trans y0
        replace y1 := (hb2.cell (p := ⟨w.heap.size + 1, 1, none⟩) hlt1).trans y1
        replace y2 := (hb2.cell (p := ⟨w.heap.size + 1, 2, none⟩) hlt1).trans y2
        replace r0 := (hb2.cell (p := ⟨w.heap.size + 2, 0, none⟩) hltr).trans r0
        replace r1 := (hb2.cell (p := ⟨w.heap.size + 2, 1, none⟩) hltr).trans r1
        replace r2 := (hb2.cell (p := ⟨w.heap.size + 2, 2, none⟩) hltr).trans r2
        replace e0 := (hb2.frozen (p := ⟨w.heap.size + 2, 0, none⟩) hltr).trans e0
        replace e1 := (hb2.frozen (p := ⟨w.heap.size + 2, 1, none⟩) hltr).trans e1
        replace e2 := (hb2.frozen (p := ⟨w.heap.size + 2, 2, none⟩) hltr).trans e2
        replace qq0 := (hb2.cell (p := ⟨wa.heap.size, 0, none⟩) hltq).trans qq0
        replace qq1 := (hb2.cell (p := ⟨wa.heap.size, 1, none⟩) hltq).trans qq1
        replace qq2 := (hb2.cell (p := ⟨wa.heap.size, 2, none⟩) hltq).trans qq2
        replace qq3 := (hb2.cell (p := ⟨wa.heap.size, 3, none⟩) hltq).trans qq3
        replace hlt := Nat.lt_of_lt_of_le hlt hb2.size
        replace hlt1 := Nat.lt_of_lt_of_le hlt1 hb2.size
        replace hltr := Nat.lt_of_lt_of_le hltr hb2.size
        replace hltq := Nat.lt_of_lt_of_le hltq hb2.size
        have HB2 := Lib.hid (HB1.out.trans (hb2.mono HB1.out.size))
        clear hb2 HV1
        have HL := Lib.hid (lieI_any (X : Int) (Y : Int) (W : Int) (H : Int) (P : Int) (Q : Int) (some ⟨bk0, o0, none⟩) xs.length c0 w2 b1 b2)
        rw [HLI.out] at HL
        go_wp2_with fail
        with_reducible refine HL.out.mono ?_
        rintro e w3 ⟨rfl, hb3⟩
        replace x0 := (hb3.cell (p := ⟨w.heap.size, 0, none⟩) hlt).trans x0
        replace x1 := (hb3.cell (p := ⟨w.heap.size, 1, none⟩) hlt).trans x1
        replace x2 := (hb3.cell (p := ⟨w.heap.size, 2, none⟩) hlt).trans x2
        replace y0 := (hb3.cell (p := ⟨w.heap.size + 1, 0, none⟩) hlt1).trans y0
        replace y1 := (hb3.cell (p := ⟨w.heap.size + 1, 1, none⟩) hlt1).trans y1
        replace y2 := (hb3.cell (p := ⟨w.heap.size + 1, 2, none⟩) hlt1).trans y2
        replace r0 := (hb3.cell (p := ⟨w.heap.size + 2, 0, none⟩) hltr).trans r0
        replace r1 := (hb3.cell (p := ⟨w.heap.size + 2, 1, none⟩) hltr).trans r1
        replace r2 := (hb3.cell (p := ⟨w.heap.size + 2, 2, none⟩) hltr).trans r2
        replace e0 := (hb3.frozen (p := ⟨w.heap.size + 2, 0, none⟩) hltr).trans e0
        replace e1 := (hb3.frozen (p := ⟨w.heap.size + 2, 1, none⟩) hltr).trans e1
        replace e2 := (hb3.frozen (p := ⟨w.heap.size + 2, 2, none⟩) hltr).trans e2
        replace qq0 := (hb3.cell (p := ⟨wa.heap.size, 0, none⟩) hltq).trans qq0
        replace qq1 := (hb3.cell (p := ⟨wa.heap.size, 1, none⟩) hltq).trans qq1
        replace qq2 := (hb3.cell (p := ⟨wa.heap.size, 2, none⟩) hltq).trans qq2
        replace qq3 := (hb3.cell (p := ⟨wa.heap.size, 3, none⟩) hltq).trans qq3
        replace hlt := Nat.lt_of_lt_of_le hlt hb3.size
        replace hlt1 := Nat.lt_of_lt_of_le hlt1 hb3.size
        replace hltr := Nat.lt_of_lt_of_le hltr hb3.size
        replace hltq := Nat.lt_of_lt_of_le hltq hb3.size
        have HB3 := Lib.hid (HB2.out.trans (hb3.mono HB2.out.size))
        clear hb3 HL
        clear qq0 qq1 qq2 qq3 hltq
        obtain ⟨Z, hZ⟩ : ∃ Z, Z = w3.alloc (.cells #[.int .i64 0, .int .i64 0, .slice none 0 0] 50) := ⟨_, rfl⟩
        have hbZ : Below w3.heap.size w3 Z := by rw [hZ]; exact (Below.refl _ _).alloc (Nat.le_refl _) _
        have hBXZ : Bx Z w3.heap.size [.int .i64 0, .int .i64 0, .slice none 0 0] := by rw [hZ]; exact bx_new w3 [.int .i64 0, .int .i64 0, .slice none 0 0] _
        have hZs : Z.heap.size = w3.heap.size + 1 := by rw [hZ]; simp
        have hltZ : w.heap.size < Z.heap.size := by omega
        have z0 := (hbZ.cell (p := ⟨w.heap.size, 0, none⟩) hlt).trans x0
        have z1 := (hbZ.cell (p := ⟨w.heap.size, 1, none⟩) hlt).trans x1
        have z2 := (hbZ.cell (p := ⟨w.heap.size, 2, none⟩) hlt).trans x2
        have hR0 := HH0.out.step HB3.out
        have hRZ := hR0.step hbZ
        have HCA := Lib.hid (show Calls Try.prog 82 #[.slice (some ⟨bk0, o0, none⟩) xs.length c0] (w3.alloc (.cells #[.int .i64 0, .int .i64 0, .slice none 0 0] 50)).drew (fun e w' => ∃ eb cap, e = .returned (.slice (some ⟨eb, 0, none⟩) xs.length cap) ∧ w'.ownsRow (w3.heap.size + 1) 23 1 (.slice (some ⟨eb, 0, none⟩) xs.length cap) xs.length (fl xs) ∧ Below Z.heap.size Z w') from by have := cloneR_any ⟨bk0, o0, none⟩ c0 xs Z.drew hRZ (by omega) hx1; rw [← hZ]; refine this.mono ?_; rintro e w' ⟨eb, cap, he, ho, hb⟩; exact ⟨eb, cap, he, by rw [← hZs]; exact ho, below_draw1 hb⟩)
        have HCB := Lib.hid (show Calls Try.prog 82 #[.slice (some ⟨bk0, o0, none⟩) xs.length c0] w3.drew (fun e w' => ∃ eb cap, e = .returned (.slice (some ⟨eb, 0, none⟩) xs.length cap) ∧ w'.ownsRow w3.heap.size 23 1 (.slice (some ⟨eb, 0, none⟩) xs.length cap) xs.length (fl xs) ∧ Below w3.heap.size w3 w') from by have := cloneR_any ⟨bk0, o0, none⟩ c0 xs w3.drew hR0 (by omega) hx1; refine this.mono ?_; rintro e w' ⟨eb, cap, he, ho, hb⟩; exact ⟨eb, cap, he, ho, below_draw1 hb⟩)
        have HBZ := Lib.hid hbZ
        have HBX := Lib.hid hBXZ
        clear hR0 hRZ hbZ hBXZ hZs
        go_wp2_with fail
        refine wp_region_held_drew (S := (fun w' => w'.cell? ⟨w.heap.size, 0, none⟩ = some (.int .i64 (P : Int)) ∧ w'.cell? ⟨w.heap.size, 1, none⟩ = some (.int .i64 (Q : Int)) ∧ w'.cell? ⟨w.heap.size, 2, none⟩ = some (.slice (some ⟨bk0, o0, none⟩) xs.length c0))) (by kernel_rfl) ?_ (fun hHeld => ?_)
        · exact ⟨x0, x1, x2⟩
        refine wpAnyH_take (i := 0) (v := ?v60) rfl (by kernel_rfl) (by kernel_rfl) (by kernel_rfl) (fun _ _ _ h => h) (Or.inl ⟨by rfl, ?y60⟩) (by assumption) ?r60
        case y60 => (intro w hSw; (try dsimp only at hSw); go_simp; try (with_reducible rfl))
        (try simp only [Act.put]); (try simp only [List.setIfInBounds_toArray]); (try simp only [List.set_cons_succ]); (try simp only [List.set_cons_zero])
        refine wpAnyH_take (i := 1) (v := ?v61) rfl (by kernel_rfl) (by kernel_rfl) (by kernel_rfl) (fun _ _ _ h => h) (Or.inl ⟨by rfl, ?y61⟩) (by assumption) ?r61
        case y61 => (intro w hSw; (try dsimp only at hSw); go_simp; try (with_reducible rfl))
        (try simp only [Act.put]); (try simp only [List.setIfInBounds_toArray]); (try simp only [List.set_cons_succ]); (try simp only [List.set_cons_zero])
        refine wpAnyH_take (i := 2) (v := ?v62) rfl (by kernel_rfl) (by kernel_rfl) (by kernel_rfl) (fun _ _ _ h => h) (Or.inl ⟨by rfl, ?y62⟩) (by assumption) ?r62
        case y62 => (intro w hSw; (try dsimp only at hSw); go_simp; try (with_reducible rfl))
        (try simp only [Act.put]); (try simp only [List.setIfInBounds_toArray]); (try simp only [List.set_cons_succ]); (try simp only [List.set_cons_zero])
        refine wpAnyH_take (i := 3) (v := ?v63) rfl (by kernel_rfl) (by kernel_rfl) (by kernel_rfl) (fun _ _ _ h => h) (Or.inl ⟨by rfl, ?y63⟩) (by assumption) ?r63
        case y63 => (intro w hSw; (try dsimp only at hSw); go_simp; try (with_reducible rfl))
        (try simp only [Act.put]); (try simp only [List.setIfInBounds_toArray]); (try simp only [List.set_cons_succ]); (try simp only [List.set_cons_zero])
        refine wpAnyH_take (i := 4) (v := ?v64) rfl (by kernel_rfl) (by kernel_rfl) (by kernel_rfl) (fun _ _ _ h => h) (Or.inl ⟨by rfl, ?y64⟩) (by assumption) ?r64
        case y64 => (intro w hSw; (try dsimp only at hSw); go_simp; try (with_reducible rfl))
        (try simp only [Act.put]); (try simp only [List.setIfInBounds_toArray]); (try simp only [List.set_cons_succ]); (try simp only [List.set_cons_zero])
        refine wpAnyH_take (i := 5) (v := ?v65) rfl (by kernel_rfl) (by kernel_rfl) (by kernel_rfl) (fun _ _ _ h => h) (Or.inl ⟨by rfl, ?y65⟩) (by assumption) ?r65
        case y65 => (intro w hSw; (try dsimp only at hSw); go_simp; try (with_reducible rfl))
        (try simp only [Act.put]); (try simp only [List.setIfInBounds_toArray]); (try simp only [List.set_cons_succ]); (try simp only [List.set_cons_zero])
        refine wpAnyH_ready (rs := [6, 8]) (by kernel_rfl) (by simp) ?_
        refine AllReadyH.cons rfl (fun K hK => ?_) (AllReadyH.cons rfl (fun K hK => ?_) AllReadyH.nil)
        · go_simp
          go_at_call 82
          refine HCB.out.mono ?_
          rintro e w5 ⟨eb, cap, rfl, ho5, hb5⟩
          have c0' := (hb5.cell (p := ⟨w.heap.size, 0, none⟩) hlt).trans x0
          have c1' := (hb5.cell (p := ⟨w.heap.size, 1, none⟩) hlt).trans x1
          have c2' := (hb5.cell (p := ⟨w.heap.size, 2, none⟩) hlt).trans x2
          have hlt5 : w.heap.size < w5.heap.size := Nat.lt_of_lt_of_le hlt hb5.size
          have HO5 := Lib.hid ho5
          have HB5 := Lib.hid hb5
          clear ho5 hb5
          refine hK.out _ _ ?_ (fun hHeld => ?_)
          · exact ⟨c0', c1', c2'⟩
          clear hK K
          (try simp only [Act.put]); (try simp only [List.setIfInBounds_toArray]); (try simp only [List.set_cons_succ]); (try simp only [List.set_cons_zero])
          refine wpAnyH_take (i := 7) (v := ?v66) rfl (by kernel_rfl) (by kernel_rfl) (by kernel_rfl) (fun _ _ _ h => h) (Or.inl ⟨by rfl, ?y66⟩) (by assumption) ?r66
          case y66 => (intro w hSw; (try dsimp only at hSw); go_simp; try (with_reducible rfl))
          (try simp only [Act.put]); (try simp only [List.setIfInBounds_toArray]); (try simp only [List.set_cons_succ]); (try simp only [List.set_cons_zero])
          refine wpAnyH_ready (rs := [8]) (by kernel_rfl) (by simp) ?_
          refine AllReadyH.cons rfl (fun K hK => ?_) AllReadyH.nil
          go_simp
          refine hK.out _ _ ?_ (fun hHeld => ?_)
          · exact ⟨(((Below.refl _ w5).alloc (Nat.le_refl _) _).cell (p := ⟨w.heap.size, 0, none⟩) hlt5).trans c0', (((Below.refl _ w5).alloc (Nat.le_refl _) _).cell (p := ⟨w.heap.size, 1, none⟩) hlt5).trans c1', (((Below.refl _ w5).alloc (Nat.le_refl _) _).cell (p := ⟨w.heap.size, 2, none⟩) hlt5).trans c2'⟩
          clear hK K
          (try simp only [Act.put]); (try simp only [List.setIfInBounds_toArray]); (try simp only [List.set_cons_succ]); (try simp only [List.set_cons_zero])
          refine wpAnyH_ready (rs := [9]) (by kernel_rfl) (by simp) ?_
          refine AllReadyH.cons rfl (fun K hK => ?_) AllReadyH.nil
          have hwg : ¬ w.heap.size = w5.heap.size := by omega
          go_simp
          refine hK.out _ _ ?_ (fun hHeld => ?_)
          · first | exact ⟨(((Below.refl _ w5).alloc (Nat.le_refl _) _).cell (p := ⟨w.heap.size, 0, none⟩) hlt5).trans c0', (((Below.refl _ w5).alloc (Nat.le_refl _) _).cell (p := ⟨w.heap.size, 1, none⟩) hlt5).trans c1', (((Below.refl _ w5).alloc (Nat.le_refl _) _).cell (p := ⟨w.heap.size, 2, none⟩) hlt5).trans c2'⟩ | exact ⟨ei_farO hwg (ei_farO hwg (ei_farO hwg ((((Below.refl _ w5).alloc (Nat.le_refl _) _).cell (p := ⟨w.heap.size, 0, none⟩) hlt5).trans c0'))), ei_farO hwg (ei_farO hwg (ei_farO hwg ((((Below.refl _ w5).alloc (Nat.le_refl _) _).cell (p := ⟨w.heap.size, 1, none⟩) hlt5).trans c1'))), ei_farO hwg (ei_farO hwg (ei_farO hwg ((((Below.refl _ w5).alloc (Nat.le_refl _) _).cell (p := ⟨w.heap.size, 2, none⟩) hlt5).trans c2')))⟩
          clear hK K
          (try simp only [Act.put]); (try simp only [List.setIfInBounds_toArray]); (try simp only [List.set_cons_succ]); (try simp only [List.set_cons_zero])
          refine wpAnyH_done (by kernel_rfl) ?_ _
          have HCW := Lib.hid (chr_two (p := (P : Int)) (q := (Q : Int)) (L := xs) HO5.out HB5.out)
          clear HCA HCB z0 z1 z2
          generalize w5.alloc (.cells #[.int .i64 (P : Int), .int .i64 (Q : Int), .slice (some ⟨eb, 0, none⟩) xs.length cap] 50) = WW at *
          obtain ⟨g, hgd⟩ : ∃ g, g = w5.heap.size := ⟨_, rfl⟩
          rw [← hgd] at HCW ⊢
          have HGD := Lib.hid hgd
          clear hgd
          clear HO5 c0' c1' c2' hwg
          have hBW := HCW.out.2.2.2.2.2.2
          have HLT1 := Lib.hid hltr
          replace x0 := (hBW.cell (p := ⟨w.heap.size, 0, none⟩) hlt).trans x0
          replace x1 := (hBW.cell (p := ⟨w.heap.size, 1, none⟩) hlt).trans x1
          replace x2 := (hBW.cell (p := ⟨w.heap.size, 2, none⟩) hlt).trans x2
          replace y0 := (hBW.cell (p := ⟨w.heap.size + 1, 0, none⟩) hlt1).trans y0
          replace y1 := (hBW.cell (p := ⟨w.heap.size + 1, 1, none⟩) hlt1).trans y1
          replace y2 := (hBW.cell (p := ⟨w.heap.size + 1, 2, none⟩) hlt1).trans y2
          replace r0 := (hBW.cell (p := ⟨w.heap.size + 2, 0, none⟩) hltr).trans r0
          replace r1 := (hBW.cell (p := ⟨w.heap.size + 2, 1, none⟩) hltr).trans r1
          replace r2 := (hBW.cell (p := ⟨w.heap.size + 2, 2, none⟩) hltr).trans r2
          replace e0 := (hBW.frozen (p := ⟨w.heap.size + 2, 0, none⟩) hltr).trans e0
          replace e1 := (hBW.frozen (p := ⟨w.heap.size + 2, 1, none⟩) hltr).trans e1
          replace e2 := (hBW.frozen (p := ⟨w.heap.size + 2, 2, none⟩) hltr).trans e2
          replace hlt := Nat.lt_of_lt_of_le hlt hBW.size
          replace hlt1 := Nat.lt_of_lt_of_le hlt1 hBW.size
          replace hltr := Nat.lt_of_lt_of_le hltr hBW.size
          have HBW := Lib.hid (HB3.out.trans (hBW.mono HB3.out.size))
          clear hBW
          obtain ⟨hBXg, hOW, hg0, hb20, hne, hb2W, -⟩ := id HCW.out
          have HBG := Lib.hid hBXg
          have HOW := Lib.hid hOW
          have hgW := hBXg.1
          clear hBXg hOW
          have hgb : ¬ g = eb := fun e => hne e.symm
          have hbb1 : ¬ bk1 = eb := by have := HB3.out.size; omega
          have hwb1 : ¬ w.heap.size + 1 = eb := by have := HLT1.out; omega
          have hrb : ¬ w.heap.size + 2 = eb := by have := HLT1.out; omega
          have hbk1 : bk1 < WW.heap.size := Nat.lt_of_lt_of_le hbw1 HBW.out.size
          have Y0_ := Lib.hid y0
          have Y1_ := Lib.hid y1
          have Y2_ := Lib.hid y2
          have R0 := Lib.hid r0
          have R1 := Lib.hid r1
          have R2 := Lib.hid r2
          have E0 := Lib.hid e0
          have E1 := Lib.hid e1
          have E2 := Lib.hid e2
          clear r0 r1 r2 e0 e1 e2 x0 x1 x2
          go_wp2_with fail
          clear y0 y1 y2
          go_loopw [43] (PtR WW w3.heap.size eb cap P X Y W xs ys H) (fun i _ => H - (intOf i).toNat)
          case atStart => exact ⟨0, Nat.zero_le _, rfl, Tx.refl _ _, by rw [Nat.zero_mul]; exact HOW.out⟩
          case round =>
            obtain ⟨k, hk, rfl, htx, ho⟩ := hrel
            by_cases hkH : k < H
            · have hix := HIX.out k hkH
              have hiy := HIY.out k hkH
              have HPR := Lib.hid (pvK_row P xs X Y W ys k (by omega) W (Nat.le_refl _))
              have hcl := pvK_len P xs X Y W ys (k * W)
              obtain ⟨zz, hzz⟩ : ∃ zz, zz = Y + k := ⟨_, rfl⟩
              obtain ⟨m, hmd⟩ : ∃ m, m = zz * P := ⟨_, rfl⟩
              obtain ⟨m2, hm2⟩ : ∃ m2, m2 = k * W := ⟨_, rfl⟩
              rw [← hzz, ← hmd] at hix
              rw [← hm2] at hiy hcl
              rw [← hzz, ← hmd, ← hm2] at HPR
              have hmz : (zz : Int) * (P : Int) = (m : Int) := by rw [hmd]; simp
              have hmz2 : (k : Int) * (W : Int) = (m2 : Int) := by rw [hm2]; simp
              have hwz : IntKind.i64.wrap ((Y : Int) + (k : Int)) = (zz : Int) := by rw [IntKind.wrap_i64]; omega
              obtain ⟨curL, hcur⟩ : ∃ curL, curL = pvK P xs X Y W ys m2 := ⟨_, rfl⟩
              rw [← hm2, ← hcur] at ho
              rw [← hcur] at HPR hcl
              obtain ⟨RR, hRR⟩ : ∃ RR, RR = (List.range W).map fun t => ys.getD (m2 + t) 0 := ⟨_, rfl⟩
              rw [← hRR] at HPR
              have hRl : RR.length = W := by rw [hRR]; simp
              obtain ⟨cur0, -, -, hnc, hcm, -⟩ := row_splice (cs := []) (o := 0) ho (by omega) (by simp)
              have HR0 := Lib.hid (fun (W' : World) => (show Calls Try.prog 83 #[.agg #[.int .i64 (P : Int), .int .i64 (Q : Int), .slice (some ⟨eb, 0, none⟩) xs.length cap], .int .i64 (zz : Int)] W' fun e w' => e = .returned (.slice (some ⟨eb, m, none⟩) P (cap - m)) ∧ Below W'.heap.size W' w' by
                have := ro_any (P : Int) (Q : Int) eb 0 xs.length cap zz m W' (by omega) (by omega) hmz (by omega) hx256 hnc hcm
                rw [Int.toNat_natCast, Nat.zero_add] at this; exact this))
              have HR1 := Lib.hid (fun (W' : World) => (show Calls Try.prog 83 #[.agg #[.int .i64 (W : Int), .int .i64 (H : Int), .slice (some ⟨bk1, o1, none⟩) ys.length c1], .int .i64 (k : Int)] W' fun e w' => e = .returned (.slice (some ⟨bk1, o1 + m2, none⟩) W (c1 - m2)) ∧ Below W'.heap.size W' w' by
                have := ro_any (W : Int) (H : Int) bk1 o1 ys.length c1 k m2 W' (by omega) (by omega) hmz2 (by omega) hy256 hnc1 hcm1
                rw [Int.toNat_natCast] at this; exact this))
              have g0 : ∀ q : Sf.Gw wr, q.w.cell? ⟨g, 0, none⟩ = some (.int .i64 (P : Int)) := fun q => q.cell ((htx.cell hgW (by simp; exact hgb)).trans (HBG.out.2 0 _ rfl).1)
              have g1 : ∀ q : Sf.Gw wr, q.w.cell? ⟨g, 1, none⟩ = some (.int .i64 (Q : Int)) := fun q => q.cell ((htx.cell hgW (by simp; exact hgb)).trans (HBG.out.2 1 _ rfl).1)
              have g2 : ∀ q : Sf.Gw wr, q.w.cell? ⟨g, 2, none⟩ = some (.slice (some ⟨eb, 0, none⟩) xs.length cap) := fun q => q.cell ((htx.cell hgW (by simp; exact hgb)).trans (HBG.out.2 2 _ rfl).1)
              have y0 : ∀ q : Sf.Gw wr, q.w.cell? ⟨w.heap.size + 1, 0, none⟩ = some (.int .i64 (W : Int)) := fun q => q.cell ((htx.cell hlt1 (by simp; exact hwb1)).trans Y0_.out)
              have y1 : ∀ q : Sf.Gw wr, q.w.cell? ⟨w.heap.size + 1, 1, none⟩ = some (.int .i64 (H : Int)) := fun q => q.cell ((htx.cell hlt1 (by simp; exact hwb1)).trans Y1_.out)
              have y2 : ∀ q : Sf.Gw wr, q.w.cell? ⟨w.heap.size + 1, 2, none⟩ = some (.slice (some ⟨bk1, o1, none⟩) ys.length c1) := fun q => q.cell ((htx.cell hlt1 (by simp; exact hwb1)).trans Y2_.out)
              have HSRC := Lib.hid (show ∀ (q : Sf.Gw wr) (j : Nat) (x : Value), (fl RR)[j]? = some x → q.w.cell? ((⟨bk1, o1 + m2, none⟩ : Addr).add j) = some x from fun q j x hx => by
                have hj := (List.getElem?_eq_some_iff.1 hx).1
                rw [fl_len, hRl] at hj
                have e : x = .float .f32 (ys.getD (m2 + j) 0) := by rw [hRR] at hx; simpa [fl, hj] using hx.symm
                rw [e, Go.WideShapes.add_plain]
                have h1 := q.cell ((htx.cell (o := o1 + (m2 + j)) hbk1 (by simp; exact hbb1)).trans ((HBW.out.cell (p := ⟨bk1, o1 + (m2 + j), none⟩) hbw1).trans (HSY.out (m2 + j) (by omega))))
                rw [show o1 + m2 + j = o1 + (m2 + j) by omega]
                exact h1)
              have HTX := Lib.hid htx
              have HO := Lib.hid ho
              have HM2 := Lib.hid hm2
              have hXP : X ≤ P := by omega
              have hXc : X ≤ cap - m := by omega
              have hXn : ¬ cap - m = X := by omega
              have hXi : (0 : Int) ≤ (X : Int) := by omega
              have hXPi : (X : Int) ≤ (P : Int) := by omega
              have hXci : (X : Int) ≤ ((cap - m : Nat) : Int) := by omega
              have hkHi : (k : Int) < (H : Int) := by omega
              have hcb : cap < 9223372036854775808 := by unfold maxLen at hcm; omega
              have HRL2 := Lib.hid hRl
              have HCL := Lib.hid hcl
              have HIXX := Lib.hid hix
              clear htx ho hcur hzz hmd hm2 hmz hmz2 hiy hRR hRl hcl hix
              go_wp2_with fail
              refine Sf.wp_softC (C := fun w' => ∃ q : Sf.Gw wr, w' = q.w) [false, false, false, false, false, false, false, false, false, false, true] [true, true, true, true, true, true, true, true, true, true, false] (fun i => 1) (fun i => if i = 4 then (.slice (some ⟨eb, m, none⟩) P (cap - m)) else if i = 9 then (.slice (some ⟨bk1, o1 + m2, none⟩) W (c1 - m2)) else undef) (by kernel_rfl) (by kernel_rfl) (by kernel_rfl) ⟨Sf.gw_draw wr 1, rfl⟩ ?_
              simp only [Sf.tl]
              with_reducible refine Sf.lx_one (by kernel_rfl) (by kernel_rfl) ?_
              intro K hK
              refine Sf.dft_quiet rfl ?_
              go_big_quiet_op
              with_reducible refine hK _ ?_
              clear hK K
              with_reducible refine Sf.lx_one (by kernel_rfl) (by kernel_rfl) ?_
              intro K hK
              refine Sf.dft_quiet rfl ?_
              go_big_quiet_op
              with_reducible refine hK _ ?_
              clear hK K
              with_reducible refine Sf.lx_one (by kernel_rfl) (by kernel_rfl) ?_
              intro K hK
              refine Sf.dft_quiet rfl ?_
              go_big_quiet_op
              with_reducible refine hK _ ?_
              clear hK K
              with_reducible refine Sf.lx_one (by kernel_rfl) (by kernel_rfl) ?_
              intro K hK
              refine Sf.dft_quiet rfl ?_
              go_big_quiet_op
              with_reducible refine hK _ ?_
              clear hK K
              with_reducible refine Sf.lx_one (by kernel_rfl) (by kernel_rfl) ?_
              intro K hK
              refine Sf.dft_call ?_ ?_
              · clear hK K; rintro _ ⟨nc, rfl⟩; go_simp; exact (HR0.out nc.w).mono fun e w' ⟨he, hb⟩ => ⟨he, nc.next hb⟩
              with_reducible refine hK _ ?_
              clear hK K
              (try simp only [Act.put, List.setIfInBounds_toArray, List.set_cons_zero, List.set_cons_succ, if_true, if_false, reduceIte, Nat.reduceEqDiff])
              with_reducible refine Sf.lx_one (by kernel_rfl) (by kernel_rfl) ?_
              intro K hK
              refine Sf.dft_quiet rfl ?_
              go_big_quiet_op
              with_reducible refine hK _ ?_
              clear hK K
              with_reducible refine Sf.lx_one (by kernel_rfl) (by kernel_rfl) ?_
              intro K hK
              refine Sf.dft_quiet rfl ?_
              go_big_quiet_op
              with_reducible refine hK _ ?_
              clear hK K
              with_reducible refine Sf.lx_one (by kernel_rfl) (by kernel_rfl) ?_
              intro K hK
              refine Sf.dft_quiet rfl ?_
              go_big_quiet_op
              with_reducible refine hK _ ?_
              clear hK K
              with_reducible refine Sf.lx_one (by kernel_rfl) (by kernel_rfl) ?_
              intro K hK
              refine Sf.dft_quiet rfl ?_
              go_big_quiet_op
              with_reducible refine hK _ ?_
              clear hK K
              with_reducible refine Sf.lx_one (by kernel_rfl) (by kernel_rfl) ?_
              intro K hK
              refine Sf.dft_call ?_ ?_
              · clear hK K; rintro _ ⟨nc, rfl⟩; go_simp; exact (HR1.out nc.w).mono fun e w' ⟨he, hb⟩ => ⟨he, nc.next hb⟩
              with_reducible refine hK _ ?_
              clear hK K
              (try simp only [Act.put, List.setIfInBounds_toArray, List.set_cons_zero, List.set_cons_succ, if_true, if_false, reduceIte, Nat.reduceEqDiff])
              with_reducible refine Sf.lx_over ?_
              with_reducible refine Sf.lx_nil ?_
              rintro _ ⟨nq, rfl⟩
              obtain ⟨curA, hgA, hszA, -, -, hrow⟩ := row_splice (w := nq.w) (cs := fl RR) (o := m + X) (row_step HO.out nq.h) (by omega) (by rw [fl_len, HRL2.out]; have := HIXX.out; omega)
              rw [← List.append_assoc] at hrow
              have HGA := Lib.hid hgA
              have HROW := Lib.hid hrow
              clear hgA hrow g0 g1 g2 y0 y1 y2
              have HTX9 := Lib.hid (Tx.setRow (g := eb) (HTX.out.trans (Tx.of nq.h)) (by simp) (curA.toList.take (m + X) ++ fl RR ++ curA.toList.drop (m + X + (fl RR).length)).toArray)
              have hcopy : ∀ ty, (Builtin.copy_ #[22, 22] ty #[.slice (some ⟨eb, m + X, none⟩) (P - X) (cap - m - X), .slice (some ⟨bk1, o1 + m2, none⟩) W (c1 - m2)]).run Try.prog nq.w = .ok (goInt (fl RR).length) (nq.w.setRow eb (curA.toList.take (m + X) ++ fl RR ++ curA.toList.drop (m + X + (fl RR).length)).toArray) := fun ty => run_copy_row (P := Try.prog) nq.w 22 22 ty 23 eb (m + X) (P - X) (cap - m - X) ⟨bk1, o1 + m2, none⟩ W (c1 - m2) curA 23 (fl RR) Try.underlying22 (by rw [hi]; exact congrArg some hz1) HGA.out (by rw [fl_len, HRL2.out]; exact (Nat.min_eq_left (by omega)).symm) (HSRC.out nq) (by rw [fl_len, HRL2.out]; have := HIXX.out; omega) (cellsF RR)
              generalize nq.w.setRow eb (curA.toList.take (m + X) ++ fl RR ++ curA.toList.drop (m + X + (fl RR).length)).toArray = w9 at *
              go_wp2_with fail
              go_roundw
              case rel => exact ⟨k + 1, by omega, by go_num, HTX9.out, by have h := HROW.out; rw [fl_splice, ← HPR.out, HM2.out, ← Nat.succ_mul] at h; exact h⟩
              case measure => simp [intOf]; omega
            · obtain rfl : k = H := by omega
              have hRE : pvK P xs X Y W ys (k * W) = R := by rw [HR.out, HL1.out, Nat.mul_comm W k]
              rw [hRE] at ho
              clear hRE
              have r0 := (htx.cell hltr (by simp; exact hrb)).trans R0.out
              have r1 := (htx.cell hltr (by simp; exact hrb)).trans R1.out
              have r2 := (htx.cell hltr (by simp; exact hrb)).trans R2.out
              have e0 := (htx.frozen hltr (by simp; exact hrb)).trans E0.out
              have e1 := (htx.frozen hltr (by simp; exact hrb)).trans E1.out
              have e2 := (htx.frozen hltr (by simp; exact hrb)).trans E2.out
              obtain ⟨g0, g1, g2, -, -, -⟩ := bx_threeQ (htx.bx HBG.out (by simp; exact hgb))
              have hown := row_own ho
              have HOF := Lib.hid ((((hown.setLess (a := ⟨w.heap.size + 2, 0, none⟩) HLT1.out (.int .i64 (P : Int))).setLess (a := ⟨w.heap.size + 2, 1, none⟩) HLT1.out (.int .i64 (Q : Int))).setLess (a := ⟨w.heap.size + 2, 2, none⟩) HLT1.out (.slice (some ⟨eb, 0, none⟩) xs.length cap)).less (lo' := w.heap.size) HB3.out.size)
              have HBE := Lib.hid (HBW.out.trans (htx.below HBW.out.size (fun k hk => by simp at hk; subst hk; exact Nat.le_trans HB3.out.size hb20)))
              have HB := Lib.hid (((HBE.out.setCell (p := ⟨w.heap.size + 2, 0, none⟩) (by show w.heap.size ≤ w.heap.size + 2; omega) (.int .i64 (P : Int))).setCell (p := ⟨w.heap.size + 2, 1, none⟩) (by show w.heap.size ≤ w.heap.size + 2; omega) (.int .i64 (Q : Int))).setCell (p := ⟨w.heap.size + 2, 2, none⟩) (by show w.heap.size ≤ w.heap.size + 2; omega) (.slice (some ⟨eb, 0, none⟩) xs.length cap))
              clear htx ho hown
              go_wp2_with fail
              exact bodyPost_ret (v := .tuple #[.agg #[.int .i64 (P : Int), .int .i64 (Q : Int), .slice (some ⟨eb, 0, none⟩) xs.length cap], .bool true]) (by simp [results, Try.results37, go_sem, r0, r1, r2]) rfl ⟨_, rfl, HOF.out, HB.out⟩
        · go_simp
          refine hK.out _ _ ?_ (fun hHeld => ?_)
          · rw [hZ] at z0 z1 z2; exact ⟨z0, z1, z2⟩
          clear hK K
          (try simp only [Act.put]); (try simp only [List.setIfInBounds_toArray]); (try simp only [List.set_cons_succ]); (try simp only [List.set_cons_zero])
          refine wpAnyH_ready (rs := [6]) (by kernel_rfl) (by simp) ?_
          refine AllReadyH.cons rfl (fun K hK => ?_) AllReadyH.nil
          go_simp
          go_at_call 82
          refine HCA.out.mono ?_
          rintro e w5 ⟨eb, cap, rfl, ho5, hb5⟩
          have c0' := (hb5.cell (p := ⟨w.heap.size, 0, none⟩) hltZ).trans z0
          have c1' := (hb5.cell (p := ⟨w.heap.size, 1, none⟩) hltZ).trans z1
          have c2' := (hb5.cell (p := ⟨w.heap.size, 2, none⟩) hltZ).trans z2
          have HX3 := Lib.hid (HBX.out.step hb5)
          obtain ⟨d0, d1_, d2_, f0, f1, f2⟩ := bx_threeQ HX3.out
          have HO5 := Lib.hid ho5
          have HB5 := Lib.hid (HBZ.out.trans (hb5.mono HBZ.out.size))
          clear ho5 hb5
          refine hK.out _ _ ?_ (fun hHeld => ?_)
          · exact ⟨c0', c1', c2'⟩
          clear hK K
          (try simp only [Act.put]); (try simp only [List.setIfInBounds_toArray]); (try simp only [List.set_cons_succ]); (try simp only [List.set_cons_zero])
          refine wpAnyH_take (i := 7) (v := ?v67) rfl (by kernel_rfl) (by kernel_rfl) (by kernel_rfl) (fun _ _ _ h => h) (Or.inl ⟨by rfl, ?y67⟩) (by assumption) ?r67
          case y67 => (intro w hSw; (try dsimp only at hSw); go_simp; try (with_reducible rfl))
          (try simp only [Act.put]); (try simp only [List.setIfInBounds_toArray]); (try simp only [List.set_cons_succ]); (try simp only [List.set_cons_zero])
          refine wpAnyH_ready (rs := [9]) (by kernel_rfl) (by simp) ?_
          refine AllReadyH.cons rfl (fun K hK => ?_) AllReadyH.nil
          have hwg : ¬ w.heap.size = w3.heap.size := by omega
          go_simp
          refine hK.out _ _ ?_ (fun hHeld => ?_)
          · exact ⟨ei_farO hwg (ei_farO hwg (ei_farO hwg c0')), ei_farO hwg (ei_farO hwg (ei_farO hwg c1')), ei_farO hwg (ei_farO hwg (ei_farO hwg c2'))⟩
          clear hK K
          (try simp only [Act.put]); (try simp only [List.setIfInBounds_toArray]); (try simp only [List.set_cons_succ]); (try simp only [List.set_cons_zero])
          refine wpAnyH_done (by kernel_rfl) ?_ _
          have HCW := Lib.hid (chr_one (p := (P : Int)) (q := (Q : Int)) (L := xs) HX3.out (Nat.le_refl _) HO5.out HB5.out)
          clear d0 d1_ d2_ f0 f1 f2 HX3 HCA HCB z0 z1 z2
          generalize ((w5.setCell ⟨w3.heap.size, 0, none⟩ (.int .i64 (P : Int))).setCell ⟨w3.heap.size, 1, none⟩ (.int .i64 (Q : Int))).setCell ⟨w3.heap.size, 2, none⟩ (.slice (some ⟨eb, 0, none⟩) xs.length cap) = WW at *
          obtain ⟨g, hgd⟩ : ∃ g, g = w3.heap.size := ⟨_, rfl⟩
          rw [← hgd] at HCW ⊢
          have HGD := Lib.hid hgd
          clear hgd
          clear HO5 c0' c1' c2' hwg
          have hBW := HCW.out.2.2.2.2.2.2
          have HLT1 := Lib.hid hltr
          replace x0 := (hBW.cell (p := ⟨w.heap.size, 0, none⟩) hlt).trans x0
          replace x1 := (hBW.cell (p := ⟨w.heap.size, 1, none⟩) hlt).trans x1
          replace x2 := (hBW.cell (p := ⟨w.heap.size, 2, none⟩) hlt).trans x2
          replace y0 := (hBW.cell (p := ⟨w.heap.size + 1, 0, none⟩) hlt1).trans y0
          replace y1 := (hBW.cell (p := ⟨w.heap.size + 1, 1, none⟩) hlt1).trans y1
          replace y2 := (hBW.cell (p := ⟨w.heap.size + 1, 2, none⟩) hlt1).trans y2
          replace r0 := (hBW.cell (p := ⟨w.heap.size + 2, 0, none⟩) hltr).trans r0
          replace r1 := (hBW.cell (p := ⟨w.heap.size + 2, 1, none⟩) hltr).trans r1
          replace r2 := (hBW.cell (p := ⟨w.heap.size + 2, 2, none⟩) hltr).trans r2
          replace e0 := (hBW.frozen (p := ⟨w.heap.size + 2, 0, none⟩) hltr).trans e0
          replace e1 := (hBW.frozen (p := ⟨w.heap.size + 2, 1, none⟩) hltr).trans e1
          replace e2 := (hBW.frozen (p := ⟨w.heap.size + 2, 2, none⟩) hltr).trans e2
          replace hlt := Nat.lt_of_lt_of_le hlt hBW.size
          replace hlt1 := Nat.lt_of_lt_of_le hlt1 hBW.size
          replace hltr := Nat.lt_of_lt_of_le hltr hBW.size
          have HBW := Lib.hid (HB3.out.trans (hBW.mono HB3.out.size))
          clear hBW
          obtain ⟨hBXg, hOW, hg0, hb20, hne, hb2W, -⟩ := id HCW.out
          have HBG := Lib.hid hBXg
          have HOW := Lib.hid hOW
          have hgW := hBXg.1
          clear hBXg hOW
          have hgb : ¬ g = eb := fun e => hne e.symm
          have hbb1 : ¬ bk1 = eb := by have := HB3.out.size; omega
          have hwb1 : ¬ w.heap.size + 1 = eb := by have := HLT1.out; omega
          have hrb : ¬ w.heap.size + 2 = eb := by have := HLT1.out; omega
          have hbk1 : bk1 < WW.heap.size := Nat.lt_of_lt_of_le hbw1 HBW.out.size
          have Y0_ := Lib.hid y0
          have Y1_ := Lib.hid y1
          have Y2_ := Lib.hid y2
          have R0 := Lib.hid r0
          have R1 := Lib.hid r1
          have R2 := Lib.hid r2
          have E0 := Lib.hid e0
          have E1 := Lib.hid e1
          have E2 := Lib.hid e2
          clear r0 r1 r2 e0 e1 e2 x0 x1 x2
          go_wp2_with fail
          clear y0 y1 y2
          go_loopw [43] (PtR WW w3.heap.size eb cap P X Y W xs ys H) (fun i _ => H - (intOf i).toNat)
          case atStart => exact ⟨0, Nat.zero_le _, rfl, Tx.refl _ _, by rw [Nat.zero_mul]; exact HOW.out⟩
          case round =>
            obtain ⟨k, hk, rfl, htx, ho⟩ := hrel
            by_cases hkH : k < H
            · have hix := HIX.out k hkH
              have hiy := HIY.out k hkH
              have HPR := Lib.hid (pvK_row P xs X Y W ys k (by omega) W (Nat.le_refl _))
              have hcl := pvK_len P xs X Y W ys (k * W)
              obtain ⟨zz, hzz⟩ : ∃ zz, zz = Y + k := ⟨_, rfl⟩
              obtain ⟨m, hmd⟩ : ∃ m, m = zz * P := ⟨_, rfl⟩
              obtain ⟨m2, hm2⟩ : ∃ m2, m2 = k * W := ⟨_, rfl⟩
              rw [← hzz, ← hmd] at hix
              rw [← hm2] at hiy hcl
              rw [← hzz, ← hmd, ← hm2] at HPR
              have hmz : (zz : Int) * (P : Int) = (m : Int) := by rw [hmd]; simp
              have hmz2 : (k : Int) * (W : Int) = (m2 : Int) := by rw [hm2]; simp
              have hwz : IntKind.i64.wrap ((Y : Int) + (k : Int)) = (zz : Int) := by rw [IntKind.wrap_i64]; omega
              obtain ⟨curL, hcur⟩ : ∃ curL, curL = pvK P xs X Y W ys m2 := ⟨_, rfl⟩
              rw [← hm2, ← hcur] at ho
              rw [← hcur] at HPR hcl
              obtain ⟨RR, hRR⟩ : ∃ RR, RR = (List.range W).map fun t => ys.getD (m2 + t) 0 := ⟨_, rfl⟩
              rw [← hRR] at HPR
              have hRl : RR.length = W := by rw [hRR]; simp
              obtain ⟨cur0, -, -, hnc, hcm, -⟩ := row_splice (cs := []) (o := 0) ho (by omega) (by simp)
              have HR0 := Lib.hid (fun (W' : World) => (show Calls Try.prog 83 #[.agg #[.int .i64 (P : Int), .int .i64 (Q : Int), .slice (some ⟨eb, 0, none⟩) xs.length cap], .int .i64 (zz : Int)] W' fun e w' => e = .returned (.slice (some ⟨eb, m, none⟩) P (cap - m)) ∧ Below W'.heap.size W' w' by
                have := ro_any (P : Int) (Q : Int) eb 0 xs.length cap zz m W' (by omega) (by omega) hmz (by omega) hx256 hnc hcm
                rw [Int.toNat_natCast, Nat.zero_add] at this; exact this))
              have HR1 := Lib.hid (fun (W' : World) => (show Calls Try.prog 83 #[.agg #[.int .i64 (W : Int), .int .i64 (H : Int), .slice (some ⟨bk1, o1, none⟩) ys.length c1], .int .i64 (k : Int)] W' fun e w' => e = .returned (.slice (some ⟨bk1, o1 + m2, none⟩) W (c1 - m2)) ∧ Below W'.heap.size W' w' by
                have := ro_any (W : Int) (H : Int) bk1 o1 ys.length c1 k m2 W' (by omega) (by omega) hmz2 (by omega) hy256 hnc1 hcm1
                rw [Int.toNat_natCast] at this; exact this))
              have g0 : ∀ q : Sf.Gw wr, q.w.cell? ⟨g, 0, none⟩ = some (.int .i64 (P : Int)) := fun q => q.cell ((htx.cell hgW (by simp; exact hgb)).trans (HBG.out.2 0 _ rfl).1)
              have g1 : ∀ q : Sf.Gw wr, q.w.cell? ⟨g, 1, none⟩ = some (.int .i64 (Q : Int)) := fun q => q.cell ((htx.cell hgW (by simp; exact hgb)).trans (HBG.out.2 1 _ rfl).1)
              have g2 : ∀ q : Sf.Gw wr, q.w.cell? ⟨g, 2, none⟩ = some (.slice (some ⟨eb, 0, none⟩) xs.length cap) := fun q => q.cell ((htx.cell hgW (by simp; exact hgb)).trans (HBG.out.2 2 _ rfl).1)
              have y0 : ∀ q : Sf.Gw wr, q.w.cell? ⟨w.heap.size + 1, 0, none⟩ = some (.int .i64 (W : Int)) := fun q => q.cell ((htx.cell hlt1 (by simp; exact hwb1)).trans Y0_.out)
              have y1 : ∀ q : Sf.Gw wr, q.w.cell? ⟨w.heap.size + 1, 1, none⟩ = some (.int .i64 (H : Int)) := fun q => q.cell ((htx.cell hlt1 (by simp; exact hwb1)).trans Y1_.out)
              have y2 : ∀ q : Sf.Gw wr, q.w.cell? ⟨w.heap.size + 1, 2, none⟩ = some (.slice (some ⟨bk1, o1, none⟩) ys.length c1) := fun q => q.cell ((htx.cell hlt1 (by simp; exact hwb1)).trans Y2_.out)
              have HSRC := Lib.hid (show ∀ (q : Sf.Gw wr) (j : Nat) (x : Value), (fl RR)[j]? = some x → q.w.cell? ((⟨bk1, o1 + m2, none⟩ : Addr).add j) = some x from fun q j x hx => by
                have hj := (List.getElem?_eq_some_iff.1 hx).1
                rw [fl_len, hRl] at hj
                have e : x = .float .f32 (ys.getD (m2 + j) 0) := by rw [hRR] at hx; simpa [fl, hj] using hx.symm
                rw [e, Go.WideShapes.add_plain]
                have h1 := q.cell ((htx.cell (o := o1 + (m2 + j)) hbk1 (by simp; exact hbb1)).trans ((HBW.out.cell (p := ⟨bk1, o1 + (m2 + j), none⟩) hbw1).trans (HSY.out (m2 + j) (by omega))))
                rw [show o1 + m2 + j = o1 + (m2 + j) by omega]
                exact h1)
              have HTX := Lib.hid htx
              have HO := Lib.hid ho
              have HM2 := Lib.hid hm2
              have hXP : X ≤ P := by omega
              have hXc : X ≤ cap - m := by omega
              have hXn : ¬ cap - m = X := by omega
              have hXi : (0 : Int) ≤ (X : Int) := by omega
              have hXPi : (X : Int) ≤ (P : Int) := by omega
              have hXci : (X : Int) ≤ ((cap - m : Nat) : Int) := by omega
              have hkHi : (k : Int) < (H : Int) := by omega
              have hcb : cap < 9223372036854775808 := by unfold maxLen at hcm; omega
              have HRL2 := Lib.hid hRl
              have HCL := Lib.hid hcl
              have HIXX := Lib.hid hix
              clear htx ho hcur hzz hmd hm2 hmz hmz2 hiy hRR hRl hcl hix
              go_wp2_with fail
              refine Sf.wp_softC (C := fun w' => ∃ q : Sf.Gw wr, w' = q.w) [false, false, false, false, false, false, false, false, false, false, true] [true, true, true, true, true, true, true, true, true, true, false] (fun i => 1) (fun i => if i = 4 then (.slice (some ⟨eb, m, none⟩) P (cap - m)) else if i = 9 then (.slice (some ⟨bk1, o1 + m2, none⟩) W (c1 - m2)) else undef) (by kernel_rfl) (by kernel_rfl) (by kernel_rfl) ⟨Sf.gw_draw wr 1, rfl⟩ ?_
              simp only [Sf.tl]
              with_reducible refine Sf.lx_one (by kernel_rfl) (by kernel_rfl) ?_
              intro K hK
              refine Sf.dft_quiet rfl ?_
              go_big_quiet_op
              with_reducible refine hK _ ?_
              clear hK K
              with_reducible refine Sf.lx_one (by kernel_rfl) (by kernel_rfl) ?_
              intro K hK
              refine Sf.dft_quiet rfl ?_
              go_big_quiet_op
              with_reducible refine hK _ ?_
              clear hK K
              with_reducible refine Sf.lx_one (by kernel_rfl) (by kernel_rfl) ?_
              intro K hK
              refine Sf.dft_quiet rfl ?_
              go_big_quiet_op
              with_reducible refine hK _ ?_
              clear hK K
              with_reducible refine Sf.lx_one (by kernel_rfl) (by kernel_rfl) ?_
              intro K hK
              refine Sf.dft_quiet rfl ?_
              go_big_quiet_op
              with_reducible refine hK _ ?_
              clear hK K
              with_reducible refine Sf.lx_one (by kernel_rfl) (by kernel_rfl) ?_
              intro K hK
              refine Sf.dft_call ?_ ?_
              · clear hK K; rintro _ ⟨nc, rfl⟩; go_simp; exact (HR0.out nc.w).mono fun e w' ⟨he, hb⟩ => ⟨he, nc.next hb⟩
              with_reducible refine hK _ ?_
              clear hK K
              (try simp only [Act.put, List.setIfInBounds_toArray, List.set_cons_zero, List.set_cons_succ, if_true, if_false, reduceIte, Nat.reduceEqDiff])
              with_reducible refine Sf.lx_one (by kernel_rfl) (by kernel_rfl) ?_
              intro K hK
              refine Sf.dft_quiet rfl ?_
              go_big_quiet_op
              with_reducible refine hK _ ?_
              clear hK K
              with_reducible refine Sf.lx_one (by kernel_rfl) (by kernel_rfl) ?_
              intro K hK
              refine Sf.dft_quiet rfl ?_
              go_big_quiet_op
              with_reducible refine hK _ ?_
              clear hK K
              with_reducible refine Sf.lx_one (by kernel_rfl) (by kernel_rfl) ?_
              intro K hK
              refine Sf.dft_quiet rfl ?_
              go_big_quiet_op
              with_reducible refine hK _ ?_
              clear hK K
              with_reducible refine Sf.lx_one (by kernel_rfl) (by kernel_rfl) ?_
              intro K hK
              refine Sf.dft_quiet rfl ?_
              go_big_quiet_op
              with_reducible refine hK _ ?_
              clear hK K
              with_reducible refine Sf.lx_one (by kernel_rfl) (by kernel_rfl) ?_
              intro K hK
              refine Sf.dft_call ?_ ?_
              · clear hK K; rintro _ ⟨nc, rfl⟩; go_simp; exact (HR1.out nc.w).mono fun e w' ⟨he, hb⟩ => ⟨he, nc.next hb⟩
              with_reducible refine hK _ ?_
              clear hK K
              (try simp only [Act.put, List.setIfInBounds_toArray, List.set_cons_zero, List.set_cons_succ, if_true, if_false, reduceIte, Nat.reduceEqDiff])
              with_reducible refine Sf.lx_over ?_
              with_reducible refine Sf.lx_nil ?_
              rintro _ ⟨nq, rfl⟩
              obtain ⟨curA, hgA, hszA, -, -, hrow⟩ := row_splice (w := nq.w) (cs := fl RR) (o := m + X) (row_step HO.out nq.h) (by omega) (by rw [fl_len, HRL2.out]; have := HIXX.out; omega)
              rw [← List.append_assoc] at hrow
              have HGA := Lib.hid hgA
              have HROW := Lib.hid hrow
              clear hgA hrow g0 g1 g2 y0 y1 y2
              have HTX9 := Lib.hid (Tx.setRow (g := eb) (HTX.out.trans (Tx.of nq.h)) (by simp) (curA.toList.take (m + X) ++ fl RR ++ curA.toList.drop (m + X + (fl RR).length)).toArray)
              have hcopy : ∀ ty, (Builtin.copy_ #[22, 22] ty #[.slice (some ⟨eb, m + X, none⟩) (P - X) (cap - m - X), .slice (some ⟨bk1, o1 + m2, none⟩) W (c1 - m2)]).run Try.prog nq.w = .ok (goInt (fl RR).length) (nq.w.setRow eb (curA.toList.take (m + X) ++ fl RR ++ curA.toList.drop (m + X + (fl RR).length)).toArray) := fun ty => run_copy_row (P := Try.prog) nq.w 22 22 ty 23 eb (m + X) (P - X) (cap - m - X) ⟨bk1, o1 + m2, none⟩ W (c1 - m2) curA 23 (fl RR) Try.underlying22 (by rw [hi]; exact congrArg some hz1) HGA.out (by rw [fl_len, HRL2.out]; exact (Nat.min_eq_left (by omega)).symm) (HSRC.out nq) (by rw [fl_len, HRL2.out]; have := HIXX.out; omega) (cellsF RR)
              generalize nq.w.setRow eb (curA.toList.take (m + X) ++ fl RR ++ curA.toList.drop (m + X + (fl RR).length)).toArray = w9 at *
              go_wp2_with fail
              go_roundw
              case rel => exact ⟨k + 1, by omega, by go_num, HTX9.out, by have h := HROW.out; rw [fl_splice, ← HPR.out, HM2.out, ← Nat.succ_mul] at h; exact h⟩
              case measure => simp [intOf]; omega
            · obtain rfl : k = H := by omega
              have hRE : pvK P xs X Y W ys (k * W) = R := by rw [HR.out, HL1.out, Nat.mul_comm W k]
              rw [hRE] at ho
              clear hRE
              have r0 := (htx.cell hltr (by simp; exact hrb)).trans R0.out
              have r1 := (htx.cell hltr (by simp; exact hrb)).trans R1.out
              have r2 := (htx.cell hltr (by simp; exact hrb)).trans R2.out
              have e0 := (htx.frozen hltr (by simp; exact hrb)).trans E0.out
              have e1 := (htx.frozen hltr (by simp; exact hrb)).trans E1.out
              have e2 := (htx.frozen hltr (by simp; exact hrb)).trans E2.out
              obtain ⟨g0, g1, g2, -, -, -⟩ := bx_threeQ (htx.bx HBG.out (by simp; exact hgb))
              have hown := row_own ho
              have HOF := Lib.hid ((((hown.setLess (a := ⟨w.heap.size + 2, 0, none⟩) HLT1.out (.int .i64 (P : Int))).setLess (a := ⟨w.heap.size + 2, 1, none⟩) HLT1.out (.int .i64 (Q : Int))).setLess (a := ⟨w.heap.size + 2, 2, none⟩) HLT1.out (.slice (some ⟨eb, 0, none⟩) xs.length cap)).less (lo' := w.heap.size) HB3.out.size)
              have HBE := Lib.hid (HBW.out.trans (htx.below HBW.out.size (fun k hk => by simp at hk; subst hk; exact Nat.le_trans HB3.out.size hb20)))
              have HB := Lib.hid (((HBE.out.setCell (p := ⟨w.heap.size + 2, 0, none⟩) (by show w.heap.size ≤ w.heap.size + 2; omega) (.int .i64 (P : Int))).setCell (p := ⟨w.heap.size + 2, 1, none⟩) (by show w.heap.size ≤ w.heap.size + 2; omega) (.int .i64 (Q : Int))).setCell (p := ⟨w.heap.size + 2, 2, none⟩) (by show w.heap.size ≤ w.heap.size + 2; omega) (.slice (some ⟨eb, 0, none⟩) xs.length cap))
              clear htx ho hown
              go_wp2_with fail
              exact bodyPost_ret (v := .tuple #[.agg #[.int .i64 (P : Int), .int .i64 (Q : Int), .slice (some ⟨eb, 0, none⟩) xs.length cap], .bool true]) (by simp [results, Try.results37, go_sem, r0, r1, r2]) rfl ⟨_, rfl, HOF.out, HB.out⟩
end Go.Proofs.Ytfbdmhkmkmbipaa
