/-
  Contract: LiftOnce, by the program.
-/
import Derived.Test.YtfbdmhkmkmbipaaLtK
import Derived.Test.YtfbdmhkmkmbipaaLsi
namespace Go.Proofs.Ytfbdmhkmkmbipaa
open Go.RowKit Fl
set_option linter.unusedVariables false
set_option maxRecDepth 100000
open Sf (vsB vsI_any vsP_any RetBB)

set_option maxHeartbeats 8000000 in
theorem ltI_any (s : Nat) (ws xs : List Nat) (vw vx : Value) (w : World) (hrw : Rd w w.heap.size vw (fl ws)) (hrx : Rd w w.heap.size vx (fl xs)) (hmw : ws.length ≤ 1048576) (hmx : xs.length ≤ 1048576) (hwx : ∀ x ∈ ws, x < 2 ^ 32) (hx : ∀ x ∈ xs, x < 2 ^ 32) (hs : s < 2 ^ 32) :
    Calls Try.prog 19 #[.agg #[vw, .float .f32 s], vx] w (RetL2 ws s xs w) := by
  obtain ⟨w1, hw1⟩ : ∃ w1, w1 = (w.alloc (Obj.cells #[vw, .float .f32 s] 29)) := ⟨_, rfl⟩
  have hb01 : Below w.heap.size w w1 := by rw [hw1]; exact (Below.refl _ _).alloc (Nat.le_refl _) _
  have HB01 := Lib.hid hb01
  have hg : w.heap.size < w1.heap.size := by rw [hw1]; simp
  have K0 := Lib.hid (show w1.cell? ⟨w.heap.size, 0, none⟩ = some vw by rw [hw1]; exact (cell_of_row _ _ _ _ _ _ (heap_alloc_new w _)).trans rfl)
  have K1 := Lib.hid (show w1.cell? ⟨w.heap.size, 1, none⟩ = some (.float .f32 s) by rw [hw1]; exact (cell_of_row _ _ _ _ _ _ (heap_alloc_new w _)).trans rfl)
  have HRW := Lib.hid ((hrw.below hb01).more (Nat.le_of_lt hg))
  have HRX := Lib.hid ((hrx.below hb01).more (Nat.le_of_lt hg))
  have HW1 := Lib.hid hw1
  clear hw1 hb01 hrw hrx
  obtain h1 | h1 : vsB ws s = false ∨ vsB ws s = true := by cases vsB ws s <;> simp
  · have HVB := Lib.hid h1
    have HOK := Lib.hid (show loB ws s xs = false by unfold loB; rw [h1]; rfl)
    clear h1
    go_enter Try.func19, Try.ntmps19
    go_wp2_with (go_at_call 60; rw [← HW1.out]; refine (vsI_any vw ws s w1 HRW.out hmw hwx hs).mono ?_; rintro e w2 ⟨rfl, hb2⟩; rw [HVB.out]; have k0 := (hb2.cell (p := ⟨w.heap.size, 0, none⟩) hg).trans K0.out; have k1 := (hb2.cell (p := ⟨w.heap.size, 1, none⟩) hg).trans K1.out; have HB2 := Lib.hid hb2; clear hb2)
    exact bodyPost_ret (v := .tuple #[.slice none 0 0, .slice none 0 0, .bool false]) (by simp [results, Try.results19, go_sem]) rfl (retL2_no HOK.out (HB01.out.trans (HB2.out.mono (Nat.le_of_lt hg))))
  · have HVB := Lib.hid h1
    obtain h2 | h2 : isL xs = false ∨ isL xs = true := by cases isL xs <;> simp
    · have HIB := Lib.hid h2
      have HOK := Lib.hid (show loB ws s xs = false by unfold loB; rw [h1, h2]; rfl)
      clear h1 h2
      go_enter Try.func19, Try.ntmps19
      go_wp2_with (first | (go_at_call 60; rw [← HW1.out]; refine (vsI_any vw ws s w1 HRW.out hmw hwx hs).mono ?_; rintro e w2 ⟨rfl, hb2⟩; rw [HVB.out]; have k0 := (hb2.cell (p := ⟨w.heap.size, 0, none⟩) hg).trans K0.out; have k1 := (hb2.cell (p := ⟨w.heap.size, 1, none⟩) hg).trans K1.out; have HB2 := Lib.hid hb2; clear hb2) | (go_at_call 61; refine (isI_any vx xs w2 _ (HRX.out.below HB2.out) hmx hx).mono ?_; rintro e w3 ⟨rfl, n3, rfl⟩; rw [HIB.out]))
      exact bodyPost_ret (v := .tuple #[.slice none 0 0, .slice none 0 0, .bool false]) (by simp [results, Try.results19, go_sem]) rfl (retL2_no HOK.out (below_drawn (HB01.out.trans (HB2.out.mono (Nat.le_of_lt hg))) _))
    · have HIB := Lib.hid h2
      obtain ⟨hw8, hfw, hfs⟩ := vsB_out h1
      obtain ⟨hx8, hfx⟩ := isL_out h2
      have HLS := Lib.hid (fun (w' : World) (q1 : Rd w' w'.heap.size vw (fl ws)) (q2 : Rd w' w'.heap.size vx (fl xs)) => lsI_any s ws xs vw vx w' q1 q2 hw8 hx8.1 hx8.2 hfw hwx hfx hx hfs hs)
      obtain h3 | h3 : finA (loE ws s xs) = false ∨ finA (loE ws s xs) = true := by cases finA (loE ws s xs) <;> simp
      · have HFE := Lib.hid h3
        have HOK := Lib.hid (show loB ws s xs = false by unfold loB; rw [h1, h2, h3]; rfl)
        clear h1 h2 h3
        go_enter Try.func19, Try.ntmps19
        go_wp2_with (first | (go_at_call 60; rw [← HW1.out]; refine (vsI_any vw ws s w1 HRW.out hmw hwx hs).mono ?_; rintro e w2 ⟨rfl, hb2⟩; rw [HVB.out]; have k0 := (hb2.cell (p := ⟨w.heap.size, 0, none⟩) hg).trans K0.out; have k1 := (hb2.cell (p := ⟨w.heap.size, 1, none⟩) hg).trans K1.out; have HB2 := Lib.hid hb2; clear hb2) | (go_at_call 61; refine (isI_any vx xs w2 _ (HRX.out.below HB2.out) hmx hx).mono ?_; rintro e w3 ⟨rfl, n3, rfl⟩; rw [HIB.out]) | (go_at_call 62; refine (HLS.out (w2.drewN n3) (HRW.out.step (below_drawn HB2.out n3)) (HRX.out.step (below_drawn HB2.out n3))).mono ?_; rintro e w4 ⟨v, u, cE, cO, rfl, o1, i1, o2, i2, ap, b4⟩; have O1 := Lib.hid o1; have I1 := Lib.hid i1; have O2 := Lib.hid o2; have I2 := Lib.hid i2; have AP := Lib.hid ap; have B4 := Lib.hid b4; clear o1 i1 o2 i2 ap b4) | (go_at_call 63; (with_reducible refine (finI_any v cE w4 _ O1.out.rd (by rw [isLo_len I1.out, (lo_lens ws s xs).1]; omega) (isL_lt I1.out)).mono ?_); rintro e w5 ⟨rfl, n5, rfl⟩; rw [isLs_fin (isL_isLs I1.out), HFE.out]))
        exact bodyPost_ret (v := .tuple #[.slice none 0 0, .slice none 0 0, .bool false]) (by simp [results, Try.results19, go_sem]) rfl (retL2_no HOK.out (below_drawn ((below_drawn (HB01.out.trans (HB2.out.mono (Nat.le_of_lt hg))) _).trans (B4.out.mono (Nat.le_trans (Nat.le_of_lt hg) HB2.out.size))) _))
      · have HFE := Lib.hid h3
        obtain h4 | h4 : finA (loO ws s xs) = false ∨ finA (loO ws s xs) = true := by cases finA (loO ws s xs) <;> simp
        · have HFO := Lib.hid h4
          have HOK := Lib.hid (show loB ws s xs = false by unfold loB; rw [h1, h2, h3, h4]; rfl)
          clear h1 h2 h3 h4
          go_enter Try.func19, Try.ntmps19
          go_wp2_with (first | (go_at_call 60; rw [← HW1.out]; refine (vsI_any vw ws s w1 HRW.out hmw hwx hs).mono ?_; rintro e w2 ⟨rfl, hb2⟩; rw [HVB.out]; have k0 := (hb2.cell (p := ⟨w.heap.size, 0, none⟩) hg).trans K0.out; have k1 := (hb2.cell (p := ⟨w.heap.size, 1, none⟩) hg).trans K1.out; have HB2 := Lib.hid hb2; clear hb2) | (go_at_call 61; refine (isI_any vx xs w2 _ (HRX.out.below HB2.out) hmx hx).mono ?_; rintro e w3 ⟨rfl, n3, rfl⟩; rw [HIB.out]) | (go_at_call 62; refine (HLS.out (w2.drewN n3) (HRW.out.step (below_drawn HB2.out n3)) (HRX.out.step (below_drawn HB2.out n3))).mono ?_; rintro e w4 ⟨v, u, cE, cO, rfl, o1, i1, o2, i2, ap, b4⟩; have O1 := Lib.hid o1; have I1 := Lib.hid i1; have O2 := Lib.hid o2; have I2 := Lib.hid i2; have AP := Lib.hid ap; have B4 := Lib.hid b4; clear o1 i1 o2 i2 ap b4) | (go_at_call 63; (with_reducible refine (finI_any u cO (w4.drewN n5) _ (O2.out.drewN _).rd (by rw [isLo_len I2.out, (lo_lens ws s xs).2]; omega) (isL_lt I2.out)).mono ?_); rintro e w6 ⟨rfl, n6, rfl⟩; rw [isLs_fin (isL_isLs I2.out), HFO.out]) | (go_at_call 63; (with_reducible refine (finI_any v cE w4 _ O1.out.rd (by rw [isLo_len I1.out, (lo_lens ws s xs).1]; omega) (isL_lt I1.out)).mono ?_); rintro e w5 ⟨rfl, n5, rfl⟩; rw [isLs_fin (isL_isLs I1.out), HFE.out]))
          exact bodyPost_ret (v := .tuple #[.slice none 0 0, .slice none 0 0, .bool false]) (by simp [results, Try.results19, go_sem]) rfl (retL2_no HOK.out (by first | exact below_drawn ((below_drawn (HB01.out.trans (HB2.out.mono (Nat.le_of_lt hg))) _).trans (B4.out.mono (Nat.le_trans (Nat.le_of_lt hg) HB2.out.size))) _ | exact below_drawn (below_drawn ((below_drawn (HB01.out.trans (HB2.out.mono (Nat.le_of_lt hg))) _).trans (B4.out.mono (Nat.le_trans (Nat.le_of_lt hg) HB2.out.size))) _) _))
        · have HFO := Lib.hid h4
          have HOK := Lib.hid (show loB ws s xs = true by unfold loB; rw [h1, h2, h3, h4]; rfl)
          clear h1 h2 h3 h4
          go_enter Try.func19, Try.ntmps19
          go_wp2_with (first | (go_at_call 60; rw [← HW1.out]; refine (vsI_any vw ws s w1 HRW.out hmw hwx hs).mono ?_; rintro e w2 ⟨rfl, hb2⟩; rw [HVB.out]; have k0 := (hb2.cell (p := ⟨w.heap.size, 0, none⟩) hg).trans K0.out; have k1 := (hb2.cell (p := ⟨w.heap.size, 1, none⟩) hg).trans K1.out; have HB2 := Lib.hid hb2; clear hb2) | (go_at_call 61; refine (isI_any vx xs w2 _ (HRX.out.below HB2.out) hmx hx).mono ?_; rintro e w3 ⟨rfl, n3, rfl⟩; rw [HIB.out]) | (go_at_call 62; refine (HLS.out (w2.drewN n3) (HRW.out.step (below_drawn HB2.out n3)) (HRX.out.step (below_drawn HB2.out n3))).mono ?_; rintro e w4 ⟨v, u, cE, cO, rfl, o1, i1, o2, i2, ap, b4⟩; have O1 := Lib.hid o1; have I1 := Lib.hid i1; have O2 := Lib.hid o2; have I2 := Lib.hid i2; have AP := Lib.hid ap; have B4 := Lib.hid b4; clear o1 i1 o2 i2 ap b4) | (go_at_call 63; (with_reducible refine (finI_any u cO (w4.drewN n5) _ (O2.out.drewN _).rd (by rw [isLo_len I2.out, (lo_lens ws s xs).2]; omega) (isL_lt I2.out)).mono ?_); rintro e w6 ⟨rfl, n6, rfl⟩; rw [isLs_fin (isL_isLs I2.out), HFO.out]) | (go_at_call 63; (with_reducible refine (finI_any v cE w4 _ O1.out.rd (by rw [isLo_len I1.out, (lo_lens ws s xs).1]; omega) (isL_lt I1.out)).mono ?_); rintro e w5 ⟨rfl, n5, rfl⟩; rw [isLs_fin (isL_isLs I1.out), HFE.out]))
          exact bodyPost_ret (v := .tuple #[v, u, .bool true]) (by simp [results, Try.results19, go_sem]) rfl (retL2_yes HOK.out ((O1.out.less (Nat.le_trans (Nat.le_of_lt hg) HB2.out.size)).drewN _) I1.out ((O2.out.less (Nat.le_trans (Nat.le_of_lt hg) HB2.out.size)).drewN _) I2.out AP.out (by first | exact below_drawn ((below_drawn (HB01.out.trans (HB2.out.mono (Nat.le_of_lt hg))) _).trans (B4.out.mono (Nat.le_trans (Nat.le_of_lt hg) HB2.out.size))) _ | exact below_drawn (below_drawn ((below_drawn (HB01.out.trans (HB2.out.mono (Nat.le_of_lt hg))) _).trans (B4.out.mono (Nat.le_trans (Nat.le_of_lt hg) HB2.out.size))) _) _))
end Go.Proofs.Ytfbdmhkmkmbipaa
