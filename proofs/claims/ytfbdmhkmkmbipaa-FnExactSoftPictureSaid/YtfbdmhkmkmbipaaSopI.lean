/-
  Contract: SoftPicture of the program.
-/
import Derived.Test.YtfbdmhkmkmbipaaSfK
import Derived.Test.YtfbdmhkmkmbipaaCfS
import Derived.Test.YtfbdmhkmkmbipaaRgi
namespace Go.Proofs.Ytfbdmhkmkmbipaa
open Go.RowKit Fl
set_option linter.unusedVariables false
set_option maxRecDepth 100000
theorem below_drawnI {w1 w5 : World} {n : Nat} (h : Below (w1.drewN n).heap.size (w1.drewN n) w5) : Below w1.heap.size w1 w5 := (below_drawn (Below.refl _ _) n).trans h
set_option maxHeartbeats 8000000 in
theorem softI_any (v : Value) (p q : Int) (xs : List Nat) (l : Int) (b : Nat) (w : World) (h : Rd w w.heap.size v (fl xs)) (hm : xs.length ≤ 1048576) (hx : ∀ x ∈ xs, x < 2 ^ 32) (hb2 : b < 2 ^ 32) :
    Calls Try.prog 52 #[.agg #[.int .i64 p, .int .i64 q, v], .int .i64 l, .float .f32 b] w (RetSf p q xs l b w) := by
  obtain ⟨A, c, hv, hnc, hcm, hcell⟩ := id h
  rw [fl_len] at hv hnc hcell
  subst hv
  obtain ⟨w0, hw0⟩ : ∃ w0, (((w.alloc (.cells #[.int .i64 p, .int .i64 q, .slice A xs.length c] 50)).alloc (.cells #[.float .f32 b] 23)).alloc (.cells #[.int .i64 0, .int .i64 0, .slice none 0 0] 50)) = w0 := ⟨_, rfl⟩
  have hb0 : Below w.heap.size w w0 := by rw [← hw0]; exact ((((Below.refl _ _).alloc (Nat.le_refl _) _).alloc (by simp) _).alloc (by simp; try omega) _)
  have hz : w0.heap.size = w.heap.size + 3 := by rw [← hw0]; simp
  have hlt : w.heap.size < w0.heap.size := by omega
  have hltr : w.heap.size + 2 < w0.heap.size := by omega
  have hlt5 : w.heap.size + 1 < w0.heap.size := by omega
  have k5 : w0.cell? ⟨w.heap.size + 1, 0, none⟩ = some (.float .f32 b) := by rw [← hw0]; simp [go_sem]
  clear hz
  have x0 : w0.cell? ⟨w.heap.size, 0, none⟩ = some (.int .i64 p) := by rw [← hw0]; simp [go_sem]
  have x1 : w0.cell? ⟨w.heap.size, 1, none⟩ = some (.int .i64 q) := by rw [← hw0]; simp [go_sem]
  have x2 : w0.cell? ⟨w.heap.size, 2, none⟩ = some (.slice A xs.length c) := by rw [← hw0]; simp [go_sem]
  have r0 : w0.cell? ⟨w.heap.size + 2, 0, none⟩ = some (.int .i64 0) := by rw [← hw0]; simp [go_sem]
  have r1 : w0.cell? ⟨w.heap.size + 2, 1, none⟩ = some (.int .i64 0) := by rw [← hw0]; simp [go_sem]
  have r2 : w0.cell? ⟨w.heap.size + 2, 2, none⟩ = some (.slice none 0 0) := by rw [← hw0]; simp [go_sem]
  have e0 : w0.frozen? ⟨w.heap.size + 2, 0, none⟩ = false := by rw [← hw0]; simp [go_sem]
  have e1 : w0.frozen? ⟨w.heap.size + 2, 1, none⟩ = false := by rw [← hw0]; simp [go_sem]
  have e2 : w0.frozen? ⟨w.heap.size + 2, 2, none⟩ = false := by rw [← hw0]; simp [go_sem]
  have HV := Lib.hid (vpI_any (.slice A xs.length c) p q xs w0 (h.step hb0) hm hx)
  have HL := Lib.hid (fun W => (show Calls Try.prog 102 #[.int .i64 l] W fun e w' => e = .returned (.bool (lvB l)) ∧ W = w' from lvI_any l W))
  have HP := Lib.hid (fun W => lsI_any b W hb2)
  have HB0 := Lib.hid hb0
  have HC := Lib.hid hcell
  have HXX := Lib.hid hx
  have HH := Lib.hid h
  clear hb0 h hx hcell
  cases hs : vpcB p q xs with
  | false =>
    rw [retSf_no (by unfold sfB; rw [hs]; rfl)]
    rw [hs] at HV
    clear hs
    go_enter Try.func52, Try.ntmps52
    go_wp2_with fail
    with_reducible refine HV.out.mono ?_
    rintro e w1 ⟨rfl, hb1⟩
    have HB1 := Lib.hid (HB0.out.trans (hb1.mono HB0.out.size))
    replace x0 := (hb1.cell (p := ⟨w.heap.size, 0, none⟩) hlt).trans x0
    replace x1 := (hb1.cell (p := ⟨w.heap.size, 1, none⟩) hlt).trans x1
    replace x2 := (hb1.cell (p := ⟨w.heap.size, 2, none⟩) hlt).trans x2
    replace k5 := (hb1.cell (p := ⟨w.heap.size + 1, 0, none⟩) hlt5).trans k5
    replace r0 := (hb1.cell (p := ⟨w.heap.size + 2, 0, none⟩) hltr).trans r0
    replace r1 := (hb1.cell (p := ⟨w.heap.size + 2, 1, none⟩) hltr).trans r1
    replace r2 := (hb1.cell (p := ⟨w.heap.size + 2, 2, none⟩) hltr).trans r2
    replace e0 := (hb1.frozen (p := ⟨w.heap.size + 2, 0, none⟩) hltr).trans e0
    replace e1 := (hb1.frozen (p := ⟨w.heap.size + 2, 1, none⟩) hltr).trans e1
    replace e2 := (hb1.frozen (p := ⟨w.heap.size + 2, 2, none⟩) hltr).trans e2
    replace hlt := Nat.lt_of_lt_of_le hlt hb1.size
    replace hltr := Nat.lt_of_lt_of_le hltr hb1.size
    replace hlt5 := Nat.lt_of_lt_of_le hlt5 hb1.size
    clear hb1 hw0
    have HB := Lib.hid (((HB1.out.setCell (p := ⟨w.heap.size + 2, 0, none⟩) (by show w.heap.size ≤ w.heap.size + 2; omega) (.int .i64 0)).setCell (p := ⟨w.heap.size + 2, 1, none⟩) (by show w.heap.size ≤ w.heap.size + 2; omega) (.int .i64 0)).setCell (p := ⟨w.heap.size + 2, 2, none⟩) (by show w.heap.size ≤ w.heap.size + 2; omega) (.slice none 0 0))
    go_wp2_with fail
    exact bodyPost_ret (v := .tuple #[.agg #[.int .i64 0, .int .i64 0, .slice none 0 0], .bool false]) (by simp [results, Try.results52, go_sem, r0, r1, r2]) rfl (retPc_no _ _ HB.out)
  | true =>
    rw [hs] at HV
    cases hll : lvB l with
    | false =>
      rw [retSf_no (by unfold sfB; rw [hll]; simp)]
      rw [hll] at HL
      clear hs hll
      go_enter Try.func52, Try.ntmps52
      go_wp2_with fail
      with_reducible refine HV.out.mono ?_
      rintro e w1 ⟨rfl, hb1⟩
      have HB1 := Lib.hid (HB0.out.trans (hb1.mono HB0.out.size))
      replace x0 := (hb1.cell (p := ⟨w.heap.size, 0, none⟩) hlt).trans x0
      replace x1 := (hb1.cell (p := ⟨w.heap.size, 1, none⟩) hlt).trans x1
      replace x2 := (hb1.cell (p := ⟨w.heap.size, 2, none⟩) hlt).trans x2
      replace k5 := (hb1.cell (p := ⟨w.heap.size + 1, 0, none⟩) hlt5).trans k5
      replace r0 := (hb1.cell (p := ⟨w.heap.size + 2, 0, none⟩) hltr).trans r0
      replace r1 := (hb1.cell (p := ⟨w.heap.size + 2, 1, none⟩) hltr).trans r1
      replace r2 := (hb1.cell (p := ⟨w.heap.size + 2, 2, none⟩) hltr).trans r2
      replace e0 := (hb1.frozen (p := ⟨w.heap.size + 2, 0, none⟩) hltr).trans e0
      replace e1 := (hb1.frozen (p := ⟨w.heap.size + 2, 1, none⟩) hltr).trans e1
      replace e2 := (hb1.frozen (p := ⟨w.heap.size + 2, 2, none⟩) hltr).trans e2
      replace hlt := Nat.lt_of_lt_of_le hlt hb1.size
      replace hltr := Nat.lt_of_lt_of_le hltr hb1.size
      replace hlt5 := Nat.lt_of_lt_of_le hlt5 hb1.size
      clear hb1 hw0
      go_wp2_with fail
      with_reducible refine (HL.out _).mono ?_
      rintro e w2 ⟨rfl, hw2⟩
      subst hw2
      have HB := Lib.hid (((HB1.out.setCell (p := ⟨w.heap.size + 2, 0, none⟩) (by show w.heap.size ≤ w.heap.size + 2; omega) (.int .i64 0)).setCell (p := ⟨w.heap.size + 2, 1, none⟩) (by show w.heap.size ≤ w.heap.size + 2; omega) (.int .i64 0)).setCell (p := ⟨w.heap.size + 2, 2, none⟩) (by show w.heap.size ≤ w.heap.size + 2; omega) (.slice none 0 0))
      go_wp2_with fail
      exact bodyPost_ret (v := .tuple #[.agg #[.int .i64 0, .int .i64 0, .slice none 0 0], .bool false]) (by simp [results, Try.results52, go_sem, r0, r1, r2]) rfl (retPc_no _ _ HB.out)
    | true =>
      rw [hll] at HL
      cases hls : lsB b with
      | false =>
        rw [retSf_no (by unfold sfB; rw [hls]; simp)]
        rw [hls] at HP
        clear hs hll hls
        go_enter Try.func52, Try.ntmps52
        go_wp2_with fail
        with_reducible refine HV.out.mono ?_
        rintro e w1 ⟨rfl, hb1⟩
        have HB1 := Lib.hid (HB0.out.trans (hb1.mono HB0.out.size))
        replace x0 := (hb1.cell (p := ⟨w.heap.size, 0, none⟩) hlt).trans x0
        replace x1 := (hb1.cell (p := ⟨w.heap.size, 1, none⟩) hlt).trans x1
        replace x2 := (hb1.cell (p := ⟨w.heap.size, 2, none⟩) hlt).trans x2
        replace k5 := (hb1.cell (p := ⟨w.heap.size + 1, 0, none⟩) hlt5).trans k5
        replace r0 := (hb1.cell (p := ⟨w.heap.size + 2, 0, none⟩) hltr).trans r0
        replace r1 := (hb1.cell (p := ⟨w.heap.size + 2, 1, none⟩) hltr).trans r1
        replace r2 := (hb1.cell (p := ⟨w.heap.size + 2, 2, none⟩) hltr).trans r2
        replace e0 := (hb1.frozen (p := ⟨w.heap.size + 2, 0, none⟩) hltr).trans e0
        replace e1 := (hb1.frozen (p := ⟨w.heap.size + 2, 1, none⟩) hltr).trans e1
        replace e2 := (hb1.frozen (p := ⟨w.heap.size + 2, 2, none⟩) hltr).trans e2
        replace hlt := Nat.lt_of_lt_of_le hlt hb1.size
        replace hltr := Nat.lt_of_lt_of_le hltr hb1.size
        replace hlt5 := Nat.lt_of_lt_of_le hlt5 hb1.size
        clear hb1 hw0
        go_wp2_with fail
        with_reducible refine (HL.out _).mono ?_
        rintro e w2 ⟨rfl, hw2⟩
        subst hw2
        go_wp2_with fail
        with_reducible refine (HP.out _).mono ?_
        rintro e w3 ⟨rfl, n3, rfl⟩
        have HB3 := Lib.hid (below_drawn HB1.out n3)
        have HB := Lib.hid (((HB3.out.setCell (p := ⟨w.heap.size + 2, 0, none⟩) (by show w.heap.size ≤ w.heap.size + 2; omega) (.int .i64 0)).setCell (p := ⟨w.heap.size + 2, 1, none⟩) (by show w.heap.size ≤ w.heap.size + 2; omega) (.int .i64 0)).setCell (p := ⟨w.heap.size + 2, 2, none⟩) (by show w.heap.size ≤ w.heap.size + 2; omega) (.slice none 0 0))
        go_wp2_with fail
        exact bodyPost_ret (v := .tuple #[.agg #[.int .i64 0, .int .i64 0, .slice none 0 0], .bool false]) (by simp [results, Try.results52, go_sem, r0, r1, r2]) rfl (retPc_no _ _ HB.out)
      | true =>
        rw [hls] at HP
        obtain ⟨b1, b2, hl, hfin⟩ := vpcB_out hs
        have hbd := mul_bd b1 b2
        have hl4 := of_decide_eq_true hll
        obtain ⟨L, rfl⟩ : ∃ L : Nat, l = (L : Int) := ⟨l.toNat, by omega⟩
        have hbf := lsB_fin hls
        rw [retSf_yes (by unfold sfB; rw [hs, hll, hls]; rfl)]
        have hrp : rpL p q (L : Int) = fiN (csB p q L) xs.length := by unfold rpL; rw [show (p * q).toNat = xs.length by omega]; rfl
        rw [hrp]
        have hx256 : xs.length ≤ 256 := by omega
        have hx1 : 1 ≤ xs.length := by omega
        obtain ⟨bk, off, rfl, hbw, hcells⟩ := HC.out (by omega)
        have HSRC := Lib.hid (show ∀ (i : Nat) (h : i < xs.length), w.cell? ⟨bk, off + i, none⟩ = some (.float .f32 (xs.getD i 0)) from fun i hi => by have := hcells i _ (fl_get xs i hi); simpa [List.getD, hi] using this)
        clear hcells HC
        have HCF := Lib.hid (fun (W : World) (hb : Below w.heap.size w W) (k5 : W.cell? ⟨w.heap.size + 1, 0, none⟩ = some (.float .f32 b)) (hlt5 : w.heap.size + 1 < W.heap.size) => cfS_any p q L (w.heap.size + 1) b bk off c xs W b1 b2 (by omega) hl hbd ((HH.out).step hb) hfin hlt5 k5 hbf)
        obtain ⟨R, hR⟩ : ∃ R, R = chK (sofF b) xs (fiN (csB p q L) xs.length) := ⟨_, rfl⟩
        rw [← hR] at HCF ⊢
        clear hR hl hbd hs hll hls hrp
        go_enter Try.func52, Try.ntmps52
        go_wp2_with fail
        with_reducible refine HV.out.mono ?_
        rintro e w1 ⟨rfl, hb1⟩
        have HB1 := Lib.hid (HB0.out.trans (hb1.mono HB0.out.size))
        replace x0 := (hb1.cell (p := ⟨w.heap.size, 0, none⟩) hlt).trans x0
        replace x1 := (hb1.cell (p := ⟨w.heap.size, 1, none⟩) hlt).trans x1
        replace x2 := (hb1.cell (p := ⟨w.heap.size, 2, none⟩) hlt).trans x2
        replace k5 := (hb1.cell (p := ⟨w.heap.size + 1, 0, none⟩) hlt5).trans k5
        replace r0 := (hb1.cell (p := ⟨w.heap.size + 2, 0, none⟩) hltr).trans r0
        replace r1 := (hb1.cell (p := ⟨w.heap.size + 2, 1, none⟩) hltr).trans r1
        replace r2 := (hb1.cell (p := ⟨w.heap.size + 2, 2, none⟩) hltr).trans r2
        replace e0 := (hb1.frozen (p := ⟨w.heap.size + 2, 0, none⟩) hltr).trans e0
        replace e1 := (hb1.frozen (p := ⟨w.heap.size + 2, 1, none⟩) hltr).trans e1
        replace e2 := (hb1.frozen (p := ⟨w.heap.size + 2, 2, none⟩) hltr).trans e2
        replace hlt := Nat.lt_of_lt_of_le hlt hb1.size
        replace hltr := Nat.lt_of_lt_of_le hltr hb1.size
        replace hlt5 := Nat.lt_of_lt_of_le hlt5 hb1.size
        clear hb1 hw0
        go_wp2_with fail
        with_reducible refine (HL.out _).mono ?_
        rintro e w2 ⟨rfl, hw2⟩
        subst hw2
        go_wp2_with fail
        with_reducible refine (HP.out _).mono ?_
        rintro e w3 ⟨rfl, n3, rfl⟩
        have HT := Lib.hid (HCF.out (w1.drewN n3) (below_drawn HB1.out n3) k5 hlt5)
        have HB3 := Lib.hid (below_drawn HB1.out n3)
        go_wp2_with fail
        with_reducible refine HT.out.mono ?_
        rintro e w5 ⟨v, rfl, ho5, hb5⟩
        obtain ⟨A5, c5, hv5, _, _, _⟩ := id ho5
        subst hv5
        replace hb5 : Below w1.heap.size w1 w5 := below_drawnI hb5
        replace r0 := (hb5.cell (p := ⟨w.heap.size + 2, 0, none⟩) hltr).trans r0
        replace r1 := (hb5.cell (p := ⟨w.heap.size + 2, 1, none⟩) hltr).trans r1
        replace r2 := (hb5.cell (p := ⟨w.heap.size + 2, 2, none⟩) hltr).trans r2
        replace e0 := (hb5.frozen (p := ⟨w.heap.size + 2, 0, none⟩) hltr).trans e0
        replace e1 := (hb5.frozen (p := ⟨w.heap.size + 2, 1, none⟩) hltr).trans e1
        replace e2 := (hb5.frozen (p := ⟨w.heap.size + 2, 2, none⟩) hltr).trans e2
        have HB5 := Lib.hid (HB1.out.trans (hb5.mono HB1.out.size))
        have HOF := Lib.hid (((((show Own w5 w1.heap.size _ _ from ho5).setLess (a := ⟨w.heap.size + 2, 0, none⟩) hltr (.int .i64 p)).setLess (a := ⟨w.heap.size + 2, 1, none⟩) hltr (.int .i64 q)).setLess (a := ⟨w.heap.size + 2, 2, none⟩) hltr (.slice A5 (fl R).length c5)).less (lo' := w.heap.size) HB1.out.size)
        have HB := Lib.hid (((HB5.out.setCell (p := ⟨w.heap.size + 2, 0, none⟩) (by show w.heap.size ≤ w.heap.size + 2; omega) (.int .i64 p)).setCell (p := ⟨w.heap.size + 2, 1, none⟩) (by show w.heap.size ≤ w.heap.size + 2; omega) (.int .i64 q)).setCell (p := ⟨w.heap.size + 2, 2, none⟩) (by show w.heap.size ≤ w.heap.size + 2; omega) (.slice A5 (fl R).length c5))
        clear ho5 hb5
        go_wp2_with fail
        exact bodyPost_ret (v := .tuple #[.agg #[.int .i64 p, .int .i64 q, .slice A5 (fl R).length c5], .bool true]) (by simp [results, Try.results52, go_sem, r0, r1, r2]) rfl ⟨_, rfl, HOF.out, HB.out⟩
end Go.Proofs.Ytfbdmhkmkmbipaa
