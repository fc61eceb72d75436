/-
  Contract: QuietPicture of the program.
  Contract: QuietPicture of the model.
-/
import Derived.Test.YtfbdmhkmkmbipaaQuC
import Derived.Test.YtfbdmhkmkmbipaaRgi
import Derived.Test.YtfbdmhkmkmbipaaOwn4
import Derived.Test.YtfbdmhkmkmbipaaCoS
namespace Go.Proofs.Ytfbdmhkmkmbipaa
open Go.RowKit Fl
set_option linter.unusedVariables false
set_option maxRecDepth 100000
set_option maxHeartbeats 8000000 in
theorem quietI_any (v : Value) (p q : Int) (xs : List Nat) (l : Int) (b : Nat) (w : World) (h : Rd w w.heap.size v (fl xs)) (hm : xs.length ≤ 1048576) (hx : ∀ x ∈ xs, x < 2 ^ 32) (hb2 : b < 2 ^ 32) :
    Calls Try.prog 50 #[.agg #[.int .i64 p, .int .i64 q, v], .int .i64 l, .float .f32 b] w (RetQu p q xs l b w) := by
  obtain ⟨A, c, hv, hnc, hcm, hcell⟩ := id h
  rw [fl_len] at hv hnc hcell
  subst hv
  obtain ⟨w0, hw0⟩ : ∃ w0, (((w.alloc (.cells #[.int .i64 p, .int .i64 q, .slice A xs.length c] 50)).alloc (.cells #[.float .f32 b] 23)).alloc (.cells #[.int .i64 0, .int .i64 0, .slice none 0 0] 50)) = w0 := ⟨_, rfl⟩
  have hb0 : Below w.heap.size w w0 := by rw [← hw0]; exact ((((Below.refl _ _).alloc (Nat.le_refl _) _).alloc (by simp) _).alloc (by simp; try omega) _)
  have hz : w0.heap.size = w.heap.size + 3 := by rw [← hw0]; simp
  have hlt : w.heap.size < w0.heap.size := by omega
  have hltr : w.heap.size + 2 < w0.heap.size := by omega
  have hlt5 : w.heap.size + 1 < w0.heap.size := by omega
  have k5 : w0.cell? ⟨w.heap.size + 1, 0, none⟩ = some (.float .f32 b) := by rw [← hw0]; simp [go_sem]
  clear hz
  have x0 : w0.cell? ⟨w.heap.size, 0, none⟩ = some (.int .i64 p) := by rw [← hw0]; simp [go_sem]
  have x1 : w0.cell? ⟨w.heap.size, 1, none⟩ = some (.int .i64 q) := by rw [← hw0]; simp [go_sem]
  have x2 : w0.cell? ⟨w.heap.size, 2, none⟩ = some (.slice A xs.length c) := by rw [← hw0]; simp [go_sem]
  have r0 : w0.cell? ⟨w.heap.size + 2, 0, none⟩ = some (.int .i64 0) := by rw [← hw0]; simp [go_sem]
  have r1 : w0.cell? ⟨w.heap.size + 2, 1, none⟩ = some (.int .i64 0) := by rw [← hw0]; simp [go_sem]
  have r2 : w0.cell? ⟨w.heap.size + 2, 2, none⟩ = some (.slice none 0 0) := by rw [← hw0]; simp [go_sem]
  have e0 : w0.frozen? ⟨w.heap.size + 2, 0, none⟩ = false := by rw [← hw0]; simp [go_sem]
  have e1 : w0.frozen? ⟨w.heap.size + 2, 1, none⟩ = false := by rw [← hw0]; simp [go_sem]
  have e2 : w0.frozen? ⟨w.heap.size + 2, 2, none⟩ = false := by rw [← hw0]; simp [go_sem]
  have HV := Lib.hid (vpI_any (.slice A xs.length c) p q xs w0 (h.step hb0) hm hx)
  have HL := Lib.hid (fun W => (show Calls Try.prog 102 #[.int .i64 l] W fun e w' => e = .returned (.bool (lvB l)) ∧ W = w' from lvI_any l W))
  have HP := Lib.hid (fun W => lsI_any b W hb2)
  have HB0 := Lib.hid hb0
  have HC := Lib.hid hcell
  have HXX := Lib.hid hx
  have HH := Lib.hid h
  clear hb0 h hx hcell
  cases hs : vpcB p q xs with
  | false =>
    rw [retQu_no (by unfold sfB; rw [hs]; rfl)]
    rw [hs] at HV
    clear hs
    go_enter Try.func50, Try.ntmps50
    go_wp2_with fail
    with_reducible refine HV.out.mono ?_
    rintro e w1 ⟨rfl, hb1⟩
    have HB1 := Lib.hid (HB0.out.trans (hb1.mono HB0.out.size))
    replace x0 := (hb1.cell (p := ⟨w.heap.size, 0, none⟩) hlt).trans x0
    replace x1 := (hb1.cell (p := ⟨w.heap.size, 1, none⟩) hlt).trans x1
    replace x2 := (hb1.cell (p := ⟨w.heap.size, 2, none⟩) hlt).trans x2
    replace k5 := (hb1.cell (p := ⟨w.heap.size + 1, 0, none⟩) hlt5).trans k5
    replace r0 := (hb1.cell (p := ⟨w.heap.size + 2, 0, none⟩) hltr).trans r0
    replace r1 := (hb1.cell (p := ⟨w.heap.size + 2, 1, none⟩) hltr).trans r1
    replace r2 := (hb1.cell (p := ⟨w.heap.size + 2, 2, none⟩) hltr).trans r2
    replace e0 := (hb1.frozen (p := ⟨w.heap.size + 2, 0, none⟩) hltr).trans e0
    replace e1 := (hb1.frozen (p := ⟨w.heap.size + 2, 1, none⟩) hltr).trans e1
    replace e2 := (hb1.frozen (p := ⟨w.heap.size + 2, 2, none⟩) hltr).trans e2
    replace hlt := Nat.lt_of_lt_of_le hlt hb1.size
    replace hltr := Nat.lt_of_lt_of_le hltr hb1.size
    replace hlt5 := Nat.lt_of_lt_of_le hlt5 hb1.size
    clear hb1 hw0
    have HB := Lib.hid (((HB1.out.setCell (p := ⟨w.heap.size + 2, 0, none⟩) (by show w.heap.size ≤ w.heap.size + 2; omega) (.int .i64 0)).setCell (p := ⟨w.heap.size + 2, 1, none⟩) (by show w.heap.size ≤ w.heap.size + 2; omega) (.int .i64 0)).setCell (p := ⟨w.heap.size + 2, 2, none⟩) (by show w.heap.size ≤ w.heap.size + 2; omega) (.slice none 0 0))
    go_wp2_with fail
    exact bodyPost_ret (v := .tuple #[.agg #[.int .i64 0, .int .i64 0, .slice none 0 0], .int .i64 0, .bool false]) (by simp [results, Try.results50, go_sem, r0, r1, r2]) rfl (retPcN_no _ _ HB.out)
  | true =>
    rw [hs] at HV
    cases hll : lvB l with
    | false =>
      rw [retQu_no (by unfold sfB; rw [hll]; simp)]
      rw [hll] at HL
      clear hs hll
      go_enter Try.func50, Try.ntmps50
      go_wp2_with fail
      with_reducible refine HV.out.mono ?_
      rintro e w1 ⟨rfl, hb1⟩
      have HB1 := Lib.hid (HB0.out.trans (hb1.mono HB0.out.size))
      replace x0 := (hb1.cell (p := ⟨w.heap.size, 0, none⟩) hlt).trans x0
      replace x1 := (hb1.cell (p := ⟨w.heap.size, 1, none⟩) hlt).trans x1
      replace x2 := (hb1.cell (p := ⟨w.heap.size, 2, none⟩) hlt).trans x2
      replace k5 := (hb1.cell (p := ⟨w.heap.size + 1, 0, none⟩) hlt5).trans k5
      replace r0 := (hb1.cell (p := ⟨w.heap.size + 2, 0, none⟩) hltr).trans r0
      replace r1 := (hb1.cell (p := ⟨w.heap.size + 2, 1, none⟩) hltr).trans r1
      replace r2 := (hb1.cell (p := ⟨w.heap.size + 2, 2, none⟩) hltr).trans r2
      replace e0 := (hb1.frozen (p := ⟨w.heap.size + 2, 0, none⟩) hltr).trans e0
      replace e1 := (hb1.frozen (p := ⟨w.heap.size + 2, 1, none⟩) hltr).trans e1
      replace e2 := (hb1.frozen (p := ⟨w.heap.size + 2, 2, none⟩) hltr).trans e2
      replace hlt := Nat.lt_of_lt_of_le hlt hb1.size
      replace hltr := Nat.lt_of_lt_of_le hltr hb1.size
      replace hlt5 := Nat.lt_of_lt_of_le hlt5 hb1.size
      clear hb1 hw0
      go_wp2_with fail
      with_reducible refine (HL.out _).mono ?_
      rintro e w2 ⟨rfl, hw2⟩
      subst hw2
      have HB := Lib.hid (((HB1.out.setCell (p := ⟨w.heap.size + 2, 0, none⟩) (by show w.heap.size ≤ w.heap.size + 2; omega) (.int .i64 0)).setCell (p := ⟨w.heap.size + 2, 1, none⟩) (by show w.heap.size ≤ w.heap.size + 2; omega) (.int .i64 0)).setCell (p := ⟨w.heap.size + 2, 2, none⟩) (by show w.heap.size ≤ w.heap.size + 2; omega) (.slice none 0 0))
      go_wp2_with fail
      exact bodyPost_ret (v := .tuple #[.agg #[.int .i64 0, .int .i64 0, .slice none 0 0], .int .i64 0, .bool false]) (by simp [results, Try.results50, go_sem, r0, r1, r2]) rfl (retPcN_no _ _ HB.out)
    | true =>
      rw [hll] at HL
      cases hls : lsB b with
      | false =>
        rw [retQu_no (by unfold sfB; rw [hls]; simp)]
        rw [hls] at HP
        clear hs hll hls
        go_enter Try.func50, Try.ntmps50
        go_wp2_with fail
        with_reducible refine HV.out.mono ?_
        rintro e w1 ⟨rfl, hb1⟩
        have HB1 := Lib.hid (HB0.out.trans (hb1.mono HB0.out.size))
        replace x0 := (hb1.cell (p := ⟨w.heap.size, 0, none⟩) hlt).trans x0
        replace x1 := (hb1.cell (p := ⟨w.heap.size, 1, none⟩) hlt).trans x1
        replace x2 := (hb1.cell (p := ⟨w.heap.size, 2, none⟩) hlt).trans x2
        replace k5 := (hb1.cell (p := ⟨w.heap.size + 1, 0, none⟩) hlt5).trans k5
        replace r0 := (hb1.cell (p := ⟨w.heap.size + 2, 0, none⟩) hltr).trans r0
        replace r1 := (hb1.cell (p := ⟨w.heap.size + 2, 1, none⟩) hltr).trans r1
        replace r2 := (hb1.cell (p := ⟨w.heap.size + 2, 2, none⟩) hltr).trans r2
        replace e0 := (hb1.frozen (p := ⟨w.heap.size + 2, 0, none⟩) hltr).trans e0
        replace e1 := (hb1.frozen (p := ⟨w.heap.size + 2, 1, none⟩) hltr).trans e1
        replace e2 := (hb1.frozen (p := ⟨w.heap.size + 2, 2, none⟩) hltr).trans e2
        replace hlt := Nat.lt_of_lt_of_le hlt hb1.size
        replace hltr := Nat.lt_of_lt_of_le hltr hb1.size
        replace hlt5 := Nat.lt_of_lt_of_le hlt5 hb1.size
        clear hb1 hw0
        go_wp2_with fail
        with_reducible refine (HL.out _).mono ?_
        rintro e w2 ⟨rfl, hw2⟩
        subst hw2
        go_wp2_with fail
        with_reducible refine (HP.out _).mono ?_
        rintro e w3 ⟨rfl, n3, rfl⟩
        have HB3 := Lib.hid (below_drawn HB1.out n3)
        have HB := Lib.hid (((HB3.out.setCell (p := ⟨w.heap.size + 2, 0, none⟩) (by show w.heap.size ≤ w.heap.size + 2; omega) (.int .i64 0)).setCell (p := ⟨w.heap.size + 2, 1, none⟩) (by show w.heap.size ≤ w.heap.size + 2; omega) (.int .i64 0)).setCell (p := ⟨w.heap.size + 2, 2, none⟩) (by show w.heap.size ≤ w.heap.size + 2; omega) (.slice none 0 0))
        go_wp2_with fail
        exact bodyPost_ret (v := .tuple #[.agg #[.int .i64 0, .int .i64 0, .slice none 0 0], .int .i64 0, .bool false]) (by simp [results, Try.results50, go_sem, r0, r1, r2]) rfl (retPcN_no _ _ HB.out)
      | true =>
        rw [hls] at HP
        obtain ⟨b1, b2, hl, hfin⟩ := vpcB_out hs
        have hbd := mul_bd b1 b2
        have hl4 := of_decide_eq_true hll
        obtain ⟨L, rfl⟩ : ∃ L : Nat, l = (L : Int) := ⟨l.toNat, by omega⟩
        have hbf := lsB_fin hls
        rw [retQu_yes (by unfold sfB; rw [hs, hll, hls]; rfl)]
        have hrp : rpL p q (L : Int) = fiN (csB p q L) xs.length := by unfold rpL; rw [show (p * q).toNat = xs.length by omega]; rfl
        rw [hrp]
        have hx256 : xs.length ≤ 256 := by omega
        have hx1 : 1 ≤ xs.length := by omega
        obtain ⟨bk, off, rfl, hbw, hcells⟩ := HC.out (by omega)
        have HSRC := Lib.hid (show ∀ (i : Nat) (h : i < xs.length), w.cell? ⟨bk, off + i, none⟩ = some (.float .f32 (xs.getD i 0)) from fun i hi => by have := hcells i _ (fl_get xs i hi); simpa [List.getD, hi] using this)
        clear hcells HC
        have HCF := Lib.hid (fun (W : World) (k9 : Nat) (hb : Below w.heap.size w W) (k5 : W.cell? ⟨w.heap.size + 1, 0, none⟩ = some (.float .f32 b)) (hlt5 : w.heap.size + 1 < W.heap.size) (h9 : k9 < W.heap.size) (hc9 : W.cell? ⟨k9, 0, none⟩ = some (.int .i64 0)) (hf9 : W.frozen? ⟨k9, 0, none⟩ = false) (hn1 : ¬ bk = k9) (hn2 : ¬ w.heap.size + 1 = k9) => cfQ_any p q L (w.heap.size + 1) b bk off c xs W b1 b2 (by omega) hl hbd ((HH.out).step hb) hfin hlt5 k5 hbf k9 h9 hc9 hf9 hn1 hn2)
        obtain ⟨R, hR⟩ : ∃ R, R = chK (quiF b) xs (fiN (csB p q L) xs.length) := ⟨_, rfl⟩
        obtain ⟨cn, hcn⟩ : ∃ cn, cn = ((quN b xs (fiN (csB p q L) xs.length) : Nat) : Int) := ⟨_, rfl⟩
        rw [← hR, ← hcn] at HCF ⊢
        clear hR hcn hl hbd hs hll hls hrp
        go_enter Try.func50, Try.ntmps50
        go_wp2_with fail
        with_reducible refine HV.out.mono ?_
        rintro e w1 ⟨rfl, hb1⟩
        have HB1 := Lib.hid (HB0.out.trans (hb1.mono HB0.out.size))
        replace x0 := (hb1.cell (p := ⟨w.heap.size, 0, none⟩) hlt).trans x0
        replace x1 := (hb1.cell (p := ⟨w.heap.size, 1, none⟩) hlt).trans x1
        replace x2 := (hb1.cell (p := ⟨w.heap.size, 2, none⟩) hlt).trans x2
        replace k5 := (hb1.cell (p := ⟨w.heap.size + 1, 0, none⟩) hlt5).trans k5
        replace r0 := (hb1.cell (p := ⟨w.heap.size + 2, 0, none⟩) hltr).trans r0
        replace r1 := (hb1.cell (p := ⟨w.heap.size + 2, 1, none⟩) hltr).trans r1
        replace r2 := (hb1.cell (p := ⟨w.heap.size + 2, 2, none⟩) hltr).trans r2
        replace e0 := (hb1.frozen (p := ⟨w.heap.size + 2, 0, none⟩) hltr).trans e0
        replace e1 := (hb1.frozen (p := ⟨w.heap.size + 2, 1, none⟩) hltr).trans e1
        replace e2 := (hb1.frozen (p := ⟨w.heap.size + 2, 2, none⟩) hltr).trans e2
        replace hlt := Nat.lt_of_lt_of_le hlt hb1.size
        replace hltr := Nat.lt_of_lt_of_le hltr hb1.size
        replace hlt5 := Nat.lt_of_lt_of_le hlt5 hb1.size
        clear hb1 hw0
        go_wp2_with fail
        with_reducible refine (HL.out _).mono ?_
        rintro e w2 ⟨rfl, hw2⟩
        subst hw2
        go_wp2_with fail
        with_reducible refine (HP.out _).mono ?_
        rintro e w3 ⟨rfl, n3, rfl⟩
        have HB3 := Lib.hid (below_drawn HB1.out n3)
        obtain ⟨wc, hwc⟩ : ∃ wc, (w1.drewN n3).alloc (.cells #[.int .i64 0] 2) = wc := ⟨_, rfl⟩
        have hbc : Below w1.heap.size w1 wc := by rw [← hwc]; exact (below_drawn (Below.refl _ _) n3).alloc (Nat.le_refl _) _
        have hc9 : wc.cell? ⟨w1.heap.size, 0, none⟩ = some (.int .i64 0) := by rw [← hwc]; exact ((bx_new (w1.drewN n3) [.int .i64 0] _).2 0 _ rfl).1
        have hf9 : wc.frozen? ⟨w1.heap.size, 0, none⟩ = false := by rw [← hwc]; exact ((bx_new (w1.drewN n3) [.int .i64 0] _).2 0 _ rfl).2
        have hz9 : w1.heap.size < wc.heap.size := by rw [← hwc]; simp
        replace x0 := (hbc.cell (p := ⟨w.heap.size, 0, none⟩) hlt).trans x0
        replace x1 := (hbc.cell (p := ⟨w.heap.size, 1, none⟩) hlt).trans x1
        replace x2 := (hbc.cell (p := ⟨w.heap.size, 2, none⟩) hlt).trans x2
        replace k5 := (hbc.cell (p := ⟨w.heap.size + 1, 0, none⟩) hlt5).trans k5
        replace r0 := (hbc.cell (p := ⟨w.heap.size + 2, 0, none⟩) hltr).trans r0
        replace r1 := (hbc.cell (p := ⟨w.heap.size + 2, 1, none⟩) hltr).trans r1
        replace r2 := (hbc.cell (p := ⟨w.heap.size + 2, 2, none⟩) hltr).trans r2
        replace e0 := (hbc.frozen (p := ⟨w.heap.size + 2, 0, none⟩) hltr).trans e0
        replace e1 := (hbc.frozen (p := ⟨w.heap.size + 2, 1, none⟩) hltr).trans e1
        replace e2 := (hbc.frozen (p := ⟨w.heap.size + 2, 2, none⟩) hltr).trans e2
        have HBC := Lib.hid (HB1.out.trans (hbc.mono HB1.out.size))
        have hszc := hbc.size
        have HT := Lib.hid (HCF.out wc w1.heap.size HBC.out k5 (Nat.lt_of_lt_of_le hlt5 hbc.size) hz9 hc9 hf9 (by have := HB1.out.size; omega) (by omega))
        clear hbc hc9 hf9
        go_wp2_with fail
        with_reducible refine HT.out.mono ?_
        rintro e w5 ⟨v, rfl, ho5, htx, hcn9⟩
        obtain ⟨A5, c5, hv5, _, _, _⟩ := id ho5
        subst hv5
        replace r0 := (htx.cell (b := w.heap.size + 2) (o := 0) (by omega) (by simp; omega)).trans r0
        replace r1 := (htx.cell (b := w.heap.size + 2) (o := 1) (by omega) (by simp; omega)).trans r1
        replace r2 := (htx.cell (b := w.heap.size + 2) (o := 2) (by omega) (by simp; omega)).trans r2
        replace e0 := (htx.frozen (b := w.heap.size + 2) (o := 0) (by omega) (by simp; omega)).trans e0
        replace e1 := (htx.frozen (b := w.heap.size + 2) (o := 1) (by omega) (by simp; omega)).trans e1
        replace e2 := (htx.frozen (b := w.heap.size + 2) (o := 2) (by omega) (by simp; omega)).trans e2
        have HB5 := Lib.hid (HBC.out.trans (htx.below HBC.out.size (fun k hk => by simp at hk; subst hk; exact HB1.out.size)))
        have hz5 := htx.size
        obtain ⟨W, hW⟩ : ∃ W, w5.alloc (.cells #[.int .i64 p, .int .i64 q, .slice A5 (fl R).length c5] 50) = W := ⟨_, rfl⟩
        have hbW : Below w5.heap.size w5 W := by rw [← hW]; exact (Below.refl _ _).alloc (Nat.le_refl _) _
        have hBX : Bx W w5.heap.size [.int .i64 p, .int .i64 q, .slice A5 (fl R).length c5] := by rw [← hW]; exact bx_new w5 [.int .i64 p, .int .i64 q, .slice A5 (fl R).length c5] _
        obtain ⟨t0, t1, t2, -, -, -⟩ := bx_three hBX
        have hltc : w.heap.size + 2 < wc.heap.size := by omega
        have hlt5w : w.heap.size + 2 < w5.heap.size := by omega
        replace r0 := (hbW.cell (p := ⟨w.heap.size + 2, 0, none⟩) hlt5w).trans r0
        replace r1 := (hbW.cell (p := ⟨w.heap.size + 2, 1, none⟩) hlt5w).trans r1
        replace r2 := (hbW.cell (p := ⟨w.heap.size + 2, 2, none⟩) hlt5w).trans r2
        replace e0 := (hbW.frozen (p := ⟨w.heap.size + 2, 0, none⟩) hlt5w).trans e0
        replace e1 := (hbW.frozen (p := ⟨w.heap.size + 2, 1, none⟩) hlt5w).trans e1
        replace e2 := (hbW.frozen (p := ⟨w.heap.size + 2, 2, none⟩) hlt5w).trans e2
        have HBW := Lib.hid (HB5.out.trans (hbW.mono HB5.out.size))
        have hk9W : W.cell? ⟨w1.heap.size, 0, none⟩ = some (.int .i64 cn) := (hbW.cell (p := ⟨w1.heap.size, 0, none⟩) (by show w1.heap.size < _; omega)).trans hcn9
        have HOW := Lib.hid ((show Own w5 wc.heap.size _ _ from ho5).below hbW)
        have HOF := Lib.hid ((((HOW.out.setLess (a := ⟨w.heap.size + 2, 0, none⟩) hltc (.int .i64 p)).setLess (a := ⟨w.heap.size + 2, 1, none⟩) hltc (.int .i64 q)).setLess (a := ⟨w.heap.size + 2, 2, none⟩) hltc (.slice A5 (fl R).length c5)).less (lo' := w.heap.size) HBC.out.size)
        have HB := Lib.hid (((HBW.out.setCell (p := ⟨w.heap.size + 2, 0, none⟩) (by show w.heap.size ≤ w.heap.size + 2; omega) (.int .i64 p)).setCell (p := ⟨w.heap.size + 2, 1, none⟩) (by show w.heap.size ≤ w.heap.size + 2; omega) (.int .i64 q)).setCell (p := ⟨w.heap.size + 2, 2, none⟩) (by show w.heap.size ≤ w.heap.size + 2; omega) (.slice A5 (fl R).length c5))
        clear ho5 htx hbW hcn9 hBX hwc
        go_wp2_with fail
        have hq1 : ¬ w5.heap.size = w.heap.size + 2 := by omega
        have hq2 : ¬ w1.heap.size = w.heap.size + 2 := by omega
        go_region_held3 (fun w' => w'.cell? ⟨w5.heap.size, 0, none⟩ = some (.int .i64 p) ∧ w'.cell? ⟨w5.heap.size, 1, none⟩ = some (.int .i64 q) ∧ w'.cell? ⟨w5.heap.size, 2, none⟩ = some (.slice A5 (fl R).length c5) ∧ w'.cell? ⟨w1.heap.size, 0, none⟩ = some (.int .i64 cn)) (first | exact ⟨t0, t1, t2, hk9W⟩ | exact ⟨ei_farO hq1 (ei_farO hq1 (ei_farO hq1 t0)), ei_farO hq1 (ei_farO hq1 (ei_farO hq1 t1)), ei_farO hq1 (ei_farO hq1 (ei_farO hq1 t2)), ei_farO hq2 (ei_farO hq2 (ei_farO hq2 hk9W))⟩) ((fail))
        go_wp2_with fail
        exact bodyPost_ret (v := .tuple #[.agg #[.int .i64 p, .int .i64 q, .slice A5 (fl R).length c5], .int .i64 cn, .bool true]) (by simp [results, Try.results50, go_sem, r0, r1, r2]) rfl ⟨_, rfl, HOF.out, below_drawn HB.out 1⟩
end Go.Proofs.Ytfbdmhkmkmbipaa
namespace Go.Proofs.Ytfbdmhkmkmbipaa
open Go.RowKit Fl
set_option linter.unusedVariables false
set_option maxRecDepth 100000
def QmR (w5 : World) (lo b2 o2 c3 b : Nat) (xs : List Nat) (cc : Nat → Bool) (n i : Value) (wr : World) : Prop := ∃ k : Nat, k ≤ xs.length ∧ i = .int .i64 k ∧ n = .int .i64 ((quN b xs (fiN cc k) : Nat) : Int) ∧ Tx [b2] w5 wr ∧ Own wr lo (.slice (some ⟨b2, o2, none⟩) xs.length c3) (fl (chK (quiF b) xs (fiN cc k)))
set_option maxHeartbeats 8000000 in
theorem quietS_any (v : Value) (p q : Int) (xs : List Nat) (l : Int) (b : Nat) (w : World) (h : Rd w w.heap.size v (fl xs)) (hm : xs.length ≤ 1048576) (hx : ∀ x ∈ xs, x < 2 ^ 32) (hb2 : b < 2 ^ 32) :
    Calls Try.prog 49 #[.agg #[.int .i64 p, .int .i64 q, v], .int .i64 l, .float .f32 b] w (RetQu p q xs l b w) := by
  obtain ⟨A, c, hv, hnc, hcm, hcell⟩ := id h
  rw [fl_len] at hv hnc hcell
  subst hv
  obtain ⟨w0, hw0⟩ : ∃ w0, ((w.alloc (.cells #[.int .i64 p, .int .i64 q, .slice A xs.length c] 50)).alloc (.cells #[.int .i64 0, .int .i64 0, .slice none 0 0] 50)) = w0 := ⟨_, rfl⟩
  have hb0 : Below w.heap.size w w0 := by rw [← hw0]; exact (((Below.refl _ _).alloc (Nat.le_refl _) _).alloc (by simp; try omega) _)
  have hz : w0.heap.size = w.heap.size + 2 := by rw [← hw0]; simp
  have hlt : w.heap.size < w0.heap.size := by omega
  have hltr : w.heap.size + 1 < w0.heap.size := by omega
  clear hz
  have x0 : w0.cell? ⟨w.heap.size, 0, none⟩ = some (.int .i64 p) := by rw [← hw0]; simp [go_sem]
  have x1 : w0.cell? ⟨w.heap.size, 1, none⟩ = some (.int .i64 q) := by rw [← hw0]; simp [go_sem]
  have x2 : w0.cell? ⟨w.heap.size, 2, none⟩ = some (.slice A xs.length c) := by rw [← hw0]; simp [go_sem]
  have r0 : w0.cell? ⟨w.heap.size + 1, 0, none⟩ = some (.int .i64 0) := by rw [← hw0]; simp [go_sem]
  have r1 : w0.cell? ⟨w.heap.size + 1, 1, none⟩ = some (.int .i64 0) := by rw [← hw0]; simp [go_sem]
  have r2 : w0.cell? ⟨w.heap.size + 1, 2, none⟩ = some (.slice none 0 0) := by rw [← hw0]; simp [go_sem]
  have e0 : w0.frozen? ⟨w.heap.size + 1, 0, none⟩ = false := by rw [← hw0]; simp [go_sem]
  have e1 : w0.frozen? ⟨w.heap.size + 1, 1, none⟩ = false := by rw [← hw0]; simp [go_sem]
  have e2 : w0.frozen? ⟨w.heap.size + 1, 2, none⟩ = false := by rw [← hw0]; simp [go_sem]
  have HV := Lib.hid (vpP_any w.heap.size (.slice A xs.length c) p q xs w0 w.heap.size (h.below hb0) x0 x1 x2 hm hx)
  have HL := Lib.hid (fun W => (show Calls Try.prog 95 #[.int .i64 l] W fun e w' => e = .returned (.bool (lvB l)) ∧ W = w' from lvS_any l W))
  have HP := Lib.hid (fun W => lsS_any b W hb2)
  have HB0 := Lib.hid hb0
  have HC := Lib.hid hcell
  have HXX := Lib.hid hx
  have HH := Lib.hid h
  clear hb0 h hx hcell
  cases hs : vpcB p q xs with
  | false =>
    rw [retQu_no (by unfold sfB; rw [hs]; rfl)]
    rw [hs] at HV
    clear hs
    go_enter Try.func49, Try.ntmps49
    go_wp2_with fail
    with_reducible refine HV.out.mono ?_
    rintro e w1 ⟨rfl, n1, hw1⟩
    have hb1 : Below w0.heap.size w0 w1 := by rw [hw1]; exact below_drawn (Below.refl _ _) _
    have HB1 := Lib.hid (HB0.out.trans (hb1.mono HB0.out.size))
    replace x0 := (hb1.cell (p := ⟨w.heap.size, 0, none⟩) hlt).trans x0
    replace x1 := (hb1.cell (p := ⟨w.heap.size, 1, none⟩) hlt).trans x1
    replace x2 := (hb1.cell (p := ⟨w.heap.size, 2, none⟩) hlt).trans x2
    replace r0 := (hb1.cell (p := ⟨w.heap.size + 1, 0, none⟩) hltr).trans r0
    replace r1 := (hb1.cell (p := ⟨w.heap.size + 1, 1, none⟩) hltr).trans r1
    replace r2 := (hb1.cell (p := ⟨w.heap.size + 1, 2, none⟩) hltr).trans r2
    replace e0 := (hb1.frozen (p := ⟨w.heap.size + 1, 0, none⟩) hltr).trans e0
    replace e1 := (hb1.frozen (p := ⟨w.heap.size + 1, 1, none⟩) hltr).trans e1
    replace e2 := (hb1.frozen (p := ⟨w.heap.size + 1, 2, none⟩) hltr).trans e2
    replace hlt := Nat.lt_of_lt_of_le hlt hb1.size
    replace hltr := Nat.lt_of_lt_of_le hltr hb1.size
    clear hb1 hw0 hw1
    have HB := Lib.hid (((HB1.out.setCell (p := ⟨w.heap.size + 1, 0, none⟩) (by show w.heap.size ≤ w.heap.size + 1; omega) (.int .i64 0)).setCell (p := ⟨w.heap.size + 1, 1, none⟩) (by show w.heap.size ≤ w.heap.size + 1; omega) (.int .i64 0)).setCell (p := ⟨w.heap.size + 1, 2, none⟩) (by show w.heap.size ≤ w.heap.size + 1; omega) (.slice none 0 0))
    go_wp2_with fail
    exact bodyPost_ret (v := .tuple #[.agg #[.int .i64 0, .int .i64 0, .slice none 0 0], .int .i64 0, .bool false]) (by simp [results, Try.results49, go_sem, r0, r1, r2]) rfl (retPcN_no _ _ HB.out)
  | true =>
    rw [hs] at HV
    cases hll : lvB l with
    | false =>
      rw [retQu_no (by unfold sfB; rw [hll]; simp)]
      rw [hll] at HL
      clear hs hll
      go_enter Try.func49, Try.ntmps49
      go_wp2_with fail
      with_reducible refine HV.out.mono ?_
      rintro e w1 ⟨rfl, n1, hw1⟩
      have hb1 : Below w0.heap.size w0 w1 := by rw [hw1]; exact below_drawn (Below.refl _ _) _
      have HB1 := Lib.hid (HB0.out.trans (hb1.mono HB0.out.size))
      replace x0 := (hb1.cell (p := ⟨w.heap.size, 0, none⟩) hlt).trans x0
      replace x1 := (hb1.cell (p := ⟨w.heap.size, 1, none⟩) hlt).trans x1
      replace x2 := (hb1.cell (p := ⟨w.heap.size, 2, none⟩) hlt).trans x2
      replace r0 := (hb1.cell (p := ⟨w.heap.size + 1, 0, none⟩) hltr).trans r0
      replace r1 := (hb1.cell (p := ⟨w.heap.size + 1, 1, none⟩) hltr).trans r1
      replace r2 := (hb1.cell (p := ⟨w.heap.size + 1, 2, none⟩) hltr).trans r2
      replace e0 := (hb1.frozen (p := ⟨w.heap.size + 1, 0, none⟩) hltr).trans e0
      replace e1 := (hb1.frozen (p := ⟨w.heap.size + 1, 1, none⟩) hltr).trans e1
      replace e2 := (hb1.frozen (p := ⟨w.heap.size + 1, 2, none⟩) hltr).trans e2
      replace hlt := Nat.lt_of_lt_of_le hlt hb1.size
      replace hltr := Nat.lt_of_lt_of_le hltr hb1.size
      clear hb1 hw0 hw1
      go_wp2_with fail
      with_reducible refine (HL.out _).mono ?_
      rintro e w2 ⟨rfl, hw2⟩
      subst hw2
      have HB := Lib.hid (((HB1.out.setCell (p := ⟨w.heap.size + 1, 0, none⟩) (by show w.heap.size ≤ w.heap.size + 1; omega) (.int .i64 0)).setCell (p := ⟨w.heap.size + 1, 1, none⟩) (by show w.heap.size ≤ w.heap.size + 1; omega) (.int .i64 0)).setCell (p := ⟨w.heap.size + 1, 2, none⟩) (by show w.heap.size ≤ w.heap.size + 1; omega) (.slice none 0 0))
      go_wp2_with fail
      exact bodyPost_ret (v := .tuple #[.agg #[.int .i64 0, .int .i64 0, .slice none 0 0], .int .i64 0, .bool false]) (by simp [results, Try.results49, go_sem, r0, r1, r2]) rfl (retPcN_no _ _ HB.out)
    | true =>
      rw [hll] at HL
      cases hls : lsB b with
      | false =>
        rw [retQu_no (by unfold sfB; rw [hls]; simp)]
        rw [hls] at HP
        clear hs hll hls
        go_enter Try.func49, Try.ntmps49
        go_wp2_with fail
        with_reducible refine HV.out.mono ?_
        rintro e w1 ⟨rfl, n1, hw1⟩
        have hb1 : Below w0.heap.size w0 w1 := by rw [hw1]; exact below_drawn (Below.refl _ _) _
        have HB1 := Lib.hid (HB0.out.trans (hb1.mono HB0.out.size))
        replace x0 := (hb1.cell (p := ⟨w.heap.size, 0, none⟩) hlt).trans x0
        replace x1 := (hb1.cell (p := ⟨w.heap.size, 1, none⟩) hlt).trans x1
        replace x2 := (hb1.cell (p := ⟨w.heap.size, 2, none⟩) hlt).trans x2
        replace r0 := (hb1.cell (p := ⟨w.heap.size + 1, 0, none⟩) hltr).trans r0
        replace r1 := (hb1.cell (p := ⟨w.heap.size + 1, 1, none⟩) hltr).trans r1
        replace r2 := (hb1.cell (p := ⟨w.heap.size + 1, 2, none⟩) hltr).trans r2
        replace e0 := (hb1.frozen (p := ⟨w.heap.size + 1, 0, none⟩) hltr).trans e0
        replace e1 := (hb1.frozen (p := ⟨w.heap.size + 1, 1, none⟩) hltr).trans e1
        replace e2 := (hb1.frozen (p := ⟨w.heap.size + 1, 2, none⟩) hltr).trans e2
        replace hlt := Nat.lt_of_lt_of_le hlt hb1.size
        replace hltr := Nat.lt_of_lt_of_le hltr hb1.size
        clear hb1 hw0 hw1
        go_wp2_with fail
        with_reducible refine (HL.out _).mono ?_
        rintro e w2 ⟨rfl, hw2⟩
        subst hw2
        go_wp2_with fail
        with_reducible refine (HP.out _).mono ?_
        rintro e w3 ⟨rfl, n3, rfl⟩
        have HB3 := Lib.hid (below_drawn HB1.out n3)
        have HB := Lib.hid (((HB3.out.setCell (p := ⟨w.heap.size + 1, 0, none⟩) (by show w.heap.size ≤ w.heap.size + 1; omega) (.int .i64 0)).setCell (p := ⟨w.heap.size + 1, 1, none⟩) (by show w.heap.size ≤ w.heap.size + 1; omega) (.int .i64 0)).setCell (p := ⟨w.heap.size + 1, 2, none⟩) (by show w.heap.size ≤ w.heap.size + 1; omega) (.slice none 0 0))
        go_wp2_with fail
        exact bodyPost_ret (v := .tuple #[.agg #[.int .i64 0, .int .i64 0, .slice none 0 0], .int .i64 0, .bool false]) (by simp [results, Try.results49, go_sem, r0, r1, r2]) rfl (retPcN_no _ _ HB.out)
      | true =>
        rw [hls] at HP
        obtain ⟨b1, b2, hl, hfin⟩ := vpcB_out hs
        have hbd := mul_bd b1 b2
        have hl4 := of_decide_eq_true hll
        obtain ⟨L, rfl⟩ : ∃ L : Nat, l = (L : Int) := ⟨l.toNat, by omega⟩
        have hbf := lsB_fin hls
        rw [retQu_yes (by unfold sfB; rw [hs, hll, hls]; rfl)]
        have hrp : rpL p q (L : Int) = fiN (csB p q L) xs.length := by unfold rpL; rw [show (p * q).toNat = xs.length by omega]; rfl
        rw [hrp]
        have hx256 : xs.length ≤ 256 := by omega
        have hx1 : 1 ≤ xs.length := by omega
        obtain ⟨bk, off, rfl, hbw, hcells⟩ := HC.out (by omega)
        have HSRC := Lib.hid (show ∀ (i : Nat) (h : i < xs.length), w.cell? ⟨bk, off + i, none⟩ = some (.float .f32 (xs.getD i 0)) from fun i hi => by have := hcells i _ (fl_get xs i hi); simpa [List.getD, hi] using this)
        clear hcells HC
        have HCS := Lib.hid (fun (W : World) (k : Nat) (hk : k < xs.length) (h0 : W.cell? ⟨w.heap.size, 0, none⟩ = some (.int .i64 p)) (h1 : W.cell? ⟨w.heap.size, 1, none⟩ = some (.int .i64 q)) => csS_any w.heap.size p q L k W b1 b2 (by omega) (by omega) h0 h1)
        have HFX := Lib.hid (fun i => getD_finR hfin i)
        have HGX := Lib.hid (fun i => getD_ltR HXX.out i)
        have hpq : p * q = (xs.length : Int) := hl.symm
        have hpqw : IntKind.i64.wrap (p * q) = (xs.length : Int) := by rw [hpq, IntKind.wrap_i64]; omega
        generalize hcc : csB p q L = cc at *
        clear hcc hl hbd hs hll hls hrp hfin hpq
        have hsf : ∀ (a : Addr) (x : Nat) (w : World), (store a (.float .f32 x)).run Try.prog w = stored Try.prog w a (.float .f32 x) .plain := fun a x w => run_store _ w a _ _ rfl
        go_enter Try.func49, Try.ntmps49
        go_wp2_with fail
        with_reducible refine HV.out.mono ?_
        rintro e w1 ⟨rfl, n1, hw1⟩
        have hb1 : Below w0.heap.size w0 w1 := by rw [hw1]; exact below_drawn (Below.refl _ _) _
        have HB1 := Lib.hid (HB0.out.trans (hb1.mono HB0.out.size))
        replace x0 := (hb1.cell (p := ⟨w.heap.size, 0, none⟩) hlt).trans x0
        replace x1 := (hb1.cell (p := ⟨w.heap.size, 1, none⟩) hlt).trans x1
        replace x2 := (hb1.cell (p := ⟨w.heap.size, 2, none⟩) hlt).trans x2
        replace r0 := (hb1.cell (p := ⟨w.heap.size + 1, 0, none⟩) hltr).trans r0
        replace r1 := (hb1.cell (p := ⟨w.heap.size + 1, 1, none⟩) hltr).trans r1
        replace r2 := (hb1.cell (p := ⟨w.heap.size + 1, 2, none⟩) hltr).trans r2
        replace e0 := (hb1.frozen (p := ⟨w.heap.size + 1, 0, none⟩) hltr).trans e0
        replace e1 := (hb1.frozen (p := ⟨w.heap.size + 1, 1, none⟩) hltr).trans e1
        replace e2 := (hb1.frozen (p := ⟨w.heap.size + 1, 2, none⟩) hltr).trans e2
        replace hlt := Nat.lt_of_lt_of_le hlt hb1.size
        replace hltr := Nat.lt_of_lt_of_le hltr hb1.size
        clear hb1 hw0 hw1
        go_wp2_with fail
        with_reducible refine (HL.out _).mono ?_
        rintro e w2 ⟨rfl, hw2⟩
        subst hw2
        go_wp2_with fail
        with_reducible refine (HP.out _).mono ?_
        rintro e w3 ⟨rfl, n3, rfl⟩
        have HB3 := Lib.hid (below_drawn HB1.out n3)
        have HLT1 := Lib.hid hltr
        have HOWN := Lib.hid (own4_any w.heap.size p q bk off c xs.length xs (w1.drewN n3) rfl ⟨hx1, hx256⟩ hlt (Nat.lt_of_lt_of_le hbw HB1.out.size) x0 x1 x2 (fun i hi => (HB1.out.cell (p := ⟨bk, off + i, none⟩) hbw).trans (HSRC.out i hi)))
        go_wp2_with fail
        with_reducible refine HOWN.out.mono ?_
        rintro e w4 ⟨v, rfl, ho4, hb4⟩
        obtain ⟨A4, c3, hv4, _, _, hc4⟩ := id ho4
        rw [fl_len] at hv4 hc4
        obtain ⟨b2, o2, rfl, _⟩ := hc4 (by omega)
        subst hv4
        clear hc4
        replace hb4 : Below w1.heap.size w1 w4 := (below_drawn (Below.refl _ _) n3).trans hb4
        have HCW := Lib.hid (chb_two (w0 := w1) (p := p) (q := q) (L := xs) (show Own w4 w1.heap.size _ _ from ho4) (by omega) hb4)
        clear ho4
        replace x0 := (hb4.cell (p := ⟨w.heap.size, 0, none⟩) hlt).trans x0
        replace x1 := (hb4.cell (p := ⟨w.heap.size, 1, none⟩) hlt).trans x1
        replace x2 := (hb4.cell (p := ⟨w.heap.size, 2, none⟩) hlt).trans x2
        replace r0 := (hb4.cell (p := ⟨w.heap.size + 1, 0, none⟩) hltr).trans r0
        replace r1 := (hb4.cell (p := ⟨w.heap.size + 1, 1, none⟩) hltr).trans r1
        replace r2 := (hb4.cell (p := ⟨w.heap.size + 1, 2, none⟩) hltr).trans r2
        replace e0 := (hb4.frozen (p := ⟨w.heap.size + 1, 0, none⟩) hltr).trans e0
        replace e1 := (hb4.frozen (p := ⟨w.heap.size + 1, 1, none⟩) hltr).trans e1
        replace e2 := (hb4.frozen (p := ⟨w.heap.size + 1, 2, none⟩) hltr).trans e2
        replace hlt := Nat.lt_of_lt_of_le hlt hb4.size
        replace hltr := Nat.lt_of_lt_of_le hltr hb4.size
        have HB4 := Lib.hid (HB1.out.trans (hb4.mono HB1.out.size))
        have hz4 := hb4.size
        clear hb4
        obtain ⟨W, hW⟩ : ∃ W, w4.alloc (.cells #[.int .i64 p, .int .i64 q, .slice (some ⟨b2, o2, none⟩) xs.length c3] 50) = W := ⟨_, rfl⟩
        have hbW : Below w4.heap.size w4 W := by rw [← hW]; exact (Below.refl _ _).alloc (Nat.le_refl _) _
        rw [hW] at HCW
        replace x0 := (hbW.cell (p := ⟨w.heap.size, 0, none⟩) hlt).trans x0
        replace x1 := (hbW.cell (p := ⟨w.heap.size, 1, none⟩) hlt).trans x1
        replace x2 := (hbW.cell (p := ⟨w.heap.size, 2, none⟩) hlt).trans x2
        replace r0 := (hbW.cell (p := ⟨w.heap.size + 1, 0, none⟩) hltr).trans r0
        replace r1 := (hbW.cell (p := ⟨w.heap.size + 1, 1, none⟩) hltr).trans r1
        replace r2 := (hbW.cell (p := ⟨w.heap.size + 1, 2, none⟩) hltr).trans r2
        replace e0 := (hbW.frozen (p := ⟨w.heap.size + 1, 0, none⟩) hltr).trans e0
        replace e1 := (hbW.frozen (p := ⟨w.heap.size + 1, 1, none⟩) hltr).trans e1
        replace e2 := (hbW.frozen (p := ⟨w.heap.size + 1, 2, none⟩) hltr).trans e2
        replace hlt := Nat.lt_of_lt_of_le hlt hbW.size
        replace hltr := Nat.lt_of_lt_of_le hltr hbW.size
        have HBW := Lib.hid (HB4.out.trans (hbW.mono HB4.out.size))
        clear hbW
        obtain ⟨hBXg, hOW, hg0, hb20, hne, hb2W, -⟩ := id HCW.out
        have HBG := Lib.hid hBXg
        have HOW := Lib.hid hOW
        have hgW := hBXg.1
        clear hBXg hOW
        generalize hgd : w4.heap.size = g at *
        have HGD := Lib.hid hgd
        clear hgd
        have hbkW : bk < W.heap.size := Nat.lt_of_lt_of_le hbw HBW.out.size
        have hgb : ¬ g = b2 := fun e => hne e.symm
        have hbb : ¬ bk = b2 := by have := HB1.out.size; omega
        have hwb : ¬ w.heap.size = b2 := by have := HLT1.out; omega
        have hrb : ¬ w.heap.size + 1 = b2 := by have := HLT1.out; omega
        have X0 := Lib.hid x0
        have X1 := Lib.hid x1
        have X2 := Lib.hid x2
        have R0 := Lib.hid r0
        have R1 := Lib.hid r1
        have R2 := Lib.hid r2
        have E0 := Lib.hid e0
        have E1 := Lib.hid e1
        have E2 := Lib.hid e2
        clear r0 r1 r2 e0 e1 e2
        go_wp2_with fail
        rw [HGD.out]
        clear x0 x1 x2
        go_loopw [10, 11] (QmR W w1.heap.size b2 o2 c3 b xs cc) (fun _ i _ => xs.length - (intOf i).toNat)
        case atStart => exact ⟨0, Nat.zero_le _, rfl, rfl, Tx.refl _ _, HOW.out⟩
        case round =>
          obtain ⟨k, hk, rfl, rfl, htx, ho⟩ := hrel
          have x0 := (htx.cell hlt (by simp; exact hwb)).trans X0.out
          have x1 := (htx.cell hlt (by simp; exact hwb)).trans X1.out
          have x2 := (htx.cell hlt (by simp; exact hwb)).trans X2.out
          have g2 : wr.cell? ⟨g, 2, none⟩ = some (.slice (some ⟨b2, o2, none⟩) xs.length c3) := (htx.cell hgW (by simp; exact hgb)).trans (HBG.out.2 2 _ rfl).1
          by_cases hkn : k < xs.length
          · have HQ := Lib.hid (HCS.out wr k hkn x0 x1)
            have hkni : (k : Int) < (xs.length : Int) := by omega
            have hk0 : (0 : Int) ≤ (k : Int) := by omega
            have HO := Lib.hid ho
            have HTX := Lib.hid htx
            have HNA := Lib.hid (quN_app b xs (fiN cc k) k)
            have hnb : quN b xs (fiN cc k) ≤ 256 := Nat.le_trans (quN_le _ _ _) (Nat.le_trans (fiN_len _ _) (by omega))
            obtain ⟨m, hmd⟩ : ∃ m, m = quN b xs (fiN cc k) := ⟨_, rfl⟩
            rw [← hmd] at HNA hnb ⊢
            have HMD := Lib.hid hmd
            clear hmd
            cases hck : cc k with
            | true =>
              have HCK := Lib.hid hck
              have HF := Lib.hid (fiN_yes hck)
              clear hck ho htx
              go_wp2_with fail
              with_reducible refine HQ.out.mono ?_
              rintro e w6 ⟨rfl, N, rfl⟩
              rw [HCK.out]
              go_wp2_with fail
              go_roundw
              case rel => exact ⟨k + 1, by omega, by go_num, by rw [HF.out, ← HMD.out], HTX.out.drewN _, by rw [HF.out]; exact HO.out⟩
              case measure => simp [intOf]; omega
            | false =>
              have HCK := Lib.hid hck
              have HF := Lib.hid (fiN_no hck)
              clear hck
              have hs : wr.cell? ⟨bk, off + k, none⟩ = some (.float .f32 (xs.getD k 0)) := (htx.cell hbkW (by simp; exact hbb)).trans ((HBW.out.cell (p := ⟨bk, off + k, none⟩) hbw).trans (HSRC.out _ hkn))
              obtain ⟨hlo, hbw2, hcc2, hff⟩ := ho.cells' (by omega)
              have hcl : (chK (quiF b) xs (fiN cc k)).length = xs.length := chK_len _ _ _
              have hdst : wr.cell? ⟨b2, o2 + k, none⟩ = some (.float .f32 ((chK (quiF b) xs (fiN cc k)).getD k 0)) := by rw [hcc2 k _ (fl_get _ k (by omega))]; simp [List.getD, show k < (chK (quiF b) xs (fiN cc k)).length by omega]
              have hfz := hff k hkn
              have HT := Lib.hid (chK_app (quiF b) xs (fiN cc k) k)
              have HSM := Lib.hid (fun hf => chK_same (quiF b) xs (fiN cc k) k fiN_not hf)
              have HFu := Lib.hid (HFX.out k)
              have HGu := Lib.hid (HGX.out k)
              generalize chK (quiF b) xs (fiN cc k) = cur at *
              generalize cur.getD k 0 = old at *
              generalize xs.getD k 0 = u at *
              clear hcc2 hff htx ho hcl
              have HSZ := Lib.hid (fun N => siz2_any u (wr.drewN N) HGu.out HFu.out)
              have HLE := Lib.hid (le_notgt (abs_fin HFu.out) hbf)
              have HO1 := Lib.hid (fun x => Own.putT (w := wr) HO.out k hkn (.float .f32 x))
              have HT1 := Lib.hid (fun x => HTX.out.set (g := b2) (o := o2 + k) (by simp) (.float .f32 x))
              cases hg : gt32 (u % 2 ^ 31) b with
              | true =>
                rw [hg] at HLE
                have HV2 := Lib.hid (quiF_gt hg)
                rw [quN_gt hg] at HNA
                generalize u % 2 ^ 31 = X at *
                have hle : (FloatKind.f32.format.order X b == some .lt || FloatKind.f32.format.order X b == some .eq) = false := HLE.out
                clear hg
                go_wp2_with fail
                with_reducible refine HQ.out.mono ?_
                rintro e w6 ⟨rfl, N, rfl⟩
                rw [HCK.out]
                go_wp2_with fail
                with_reducible refine (HSZ.out N).mono ?_
                rintro e w7 ⟨rfl, N7, rfl⟩
                go_wp2_with fail
                go_roundw
                case rel => exact ⟨k + 1, by omega, by go_num, by rw [HF.out, HNA.out], ⟨HTX.out.os, HTX.out.tape, HTX.out.output, HTX.out.size, HTX.out.block⟩, by rw [HF.out, HSM.out HV2.out]; exact HO.out⟩
                case measure => simp [intOf]; omega
              | false =>
                rw [hg] at HLE
                have HV2 := Lib.hid (quiF_le hg)
                rw [quN_le1 hg] at HNA
                generalize u % 2 ^ 31 = X at *
                have hle : (FloatKind.f32.format.order X b == some .lt || FloatKind.f32.format.order X b == some .eq) = true := HLE.out
                have hmw : IntKind.i64.wrap ((m : Int) + 1) = ((m : Int) + 1) := by rw [IntKind.wrap_i64]; omega
                clear hg
                go_wp2_with fail
                with_reducible refine HQ.out.mono ?_
                rintro e w6 ⟨rfl, N, rfl⟩
                rw [HCK.out]
                go_wp2_with fail
                with_reducible refine (HSZ.out N).mono ?_
                rintro e w7 ⟨rfl, N7, rfl⟩
                go_wp2_with fail
                go_roundw
                case rel => exact ⟨k + 1, by omega, by go_num, by rw [HF.out, HNA.out]; go_num, ⟨(HT1.out 0).os, (HT1.out 0).tape, (HT1.out 0).output, (HT1.out 0).size, (HT1.out 0).block⟩, by rw [HF.out, HT.out, HV2.out, ← fl_set]; exact HO1.out 0⟩
                case measure => simp [intOf]; omega
          · obtain rfl : k = xs.length := by omega
            have r0 := (htx.cell hltr (by simp; exact hrb)).trans R0.out
            have r1 := (htx.cell hltr (by simp; exact hrb)).trans R1.out
            have r2 := (htx.cell hltr (by simp; exact hrb)).trans R2.out
            have e0 := (htx.frozen hltr (by simp; exact hrb)).trans E0.out
            have e1 := (htx.frozen hltr (by simp; exact hrb)).trans E1.out
            have e2 := (htx.frozen hltr (by simp; exact hrb)).trans E2.out
            have g0' : wr.cell? ⟨g, 0, none⟩ = some (.int .i64 p) := (htx.cell hgW (by simp; exact hgb)).trans (HBG.out.2 0 _ rfl).1
            have g1' : wr.cell? ⟨g, 1, none⟩ = some (.int .i64 q) := (htx.cell hgW (by simp; exact hgb)).trans (HBG.out.2 1 _ rfl).1
            have HOF := Lib.hid ((((ho.setLess (a := ⟨w.heap.size + 1, 0, none⟩) HLT1.out (.int .i64 p)).setLess (a := ⟨w.heap.size + 1, 1, none⟩) HLT1.out (.int .i64 q)).setLess (a := ⟨w.heap.size + 1, 2, none⟩) HLT1.out (.slice (some ⟨b2, o2, none⟩) xs.length c3)).less (lo' := w.heap.size) HB1.out.size)
            have HBE := Lib.hid (HBW.out.trans (htx.below HBW.out.size (fun k hk => by simp at hk; subst hk; exact Nat.le_trans HB1.out.size hb20)))
            have HB := Lib.hid (((HBE.out.setCell (p := ⟨w.heap.size + 1, 0, none⟩) (by show w.heap.size ≤ w.heap.size + 1; omega) (.int .i64 p)).setCell (p := ⟨w.heap.size + 1, 1, none⟩) (by show w.heap.size ≤ w.heap.size + 1; omega) (.int .i64 q)).setCell (p := ⟨w.heap.size + 1, 2, none⟩) (by show w.heap.size ≤ w.heap.size + 1; omega) (.slice (some ⟨b2, o2, none⟩) xs.length c3))
            generalize quN b xs (fiN cc xs.length) = cn at *
            clear ho htx
            go_wp2_with fail
            exact bodyPost_ret (v := .tuple #[.agg #[.int .i64 p, .int .i64 q, .slice (some ⟨b2, o2, none⟩) xs.length c3], .int .i64 (cn : Int), .bool true]) (by simp [results, Try.results49, go_sem, r0, r1, r2]) rfl ⟨_, rfl, HOF.out, HB.out⟩
end Go.Proofs.Ytfbdmhkmkmbipaa
