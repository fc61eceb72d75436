/-
  Contract: LiftOnce, by the model.
-/
import Derived.Test.YtfbdmhkmkmbipaaLtK
import Derived.Test.YtfbdmhkmkmbipaaLon
namespace Go.Proofs.Ytfbdmhkmkmbipaa
open Go.RowKit Fl
set_option linter.unusedVariables false
set_option maxRecDepth 100000
open Sf (vsB vsI_any vsP_any RetBB)

set_option maxHeartbeats 8000000 in
theorem ltS_any (s : Nat) (ws xs : List Nat) (vw vx : Value) (w : World) (hrw : Rd w w.heap.size vw (fl ws)) (hrx : Rd w w.heap.size vx (fl xs)) (hmw : ws.length ≤ 1048576) (hmx : xs.length ≤ 1048576) (hwx : ∀ x ∈ ws, x < 2 ^ 32) (hx : ∀ x ∈ xs, x < 2 ^ 32) (hs : s < 2 ^ 32) :
    Calls Try.prog 16 #[.agg #[vw, .float .f32 s], vx] w (RetL2 ws s xs w) := by
  obtain ⟨w1, hw1⟩ : ∃ w1, w1 = (w.alloc (Obj.cells #[vw, .float .f32 s] 29)) := ⟨_, rfl⟩
  have hb01 : Below w.heap.size w w1 := by rw [hw1]; exact (Below.refl _ _).alloc (Nat.le_refl _) _
  have HB01 := Lib.hid hb01
  have hg : w.heap.size < w1.heap.size := by rw [hw1]; simp
  have K0 := Lib.hid (show w1.cell? ⟨w.heap.size, 0, none⟩ = some vw by rw [hw1]; exact (cell_of_row _ _ _ _ _ _ (heap_alloc_new w _)).trans rfl)
  have K1 := Lib.hid (show w1.cell? ⟨w.heap.size, 1, none⟩ = some (.float .f32 s) by rw [hw1]; exact (cell_of_row _ _ _ _ _ _ (heap_alloc_new w _)).trans rfl)
  have HRW := Lib.hid ((hrw.below hb01).more (Nat.le_of_lt hg))
  have HRX := Lib.hid ((hrx.below hb01).more (Nat.le_of_lt hg))
  have HW1 := Lib.hid hw1
  clear hw1 hb01 hrw hrx
  obtain h1 | h1 : vsB ws s = false ∨ vsB ws s = true := by cases vsB ws s <;> simp
  · have HVB := Lib.hid h1
    have HOK := Lib.hid (show loB ws s xs = false by unfold loB; rw [h1]; rfl)
    clear h1
    go_enter Try.func16, Try.ntmps16
    go_wp2_with (go_at_call 57; rw [← HW1.out]; refine (vsP_any w.heap.size vw ws s w1 _ HRW.out K0.out K1.out hmw hwx hs).mono ?_; rintro e w2 ⟨rfl, n2, rfl⟩; rw [HVB.out])
    exact bodyPost_ret (v := .tuple #[.slice none 0 0, .slice none 0 0, .bool false]) (by simp [results, Try.results16, go_sem]) rfl (retL2_no HOK.out (below_drawn HB01.out _))
  · have HVB := Lib.hid h1
    obtain h2 | h2 : isL xs = false ∨ isL xs = true := by cases isL xs <;> simp
    · have HIB := Lib.hid h2
      have HOK := Lib.hid (show loB ws s xs = false by unfold loB; rw [h1, h2]; rfl)
      clear h1 h2
      go_enter Try.func16, Try.ntmps16
      go_wp2_with (first | (go_at_call 57; rw [← HW1.out]; refine (vsP_any w.heap.size vw ws s w1 _ HRW.out K0.out K1.out hmw hwx hs).mono ?_; rintro e w2 ⟨rfl, n2, rfl⟩; rw [HVB.out]) | (go_at_call 58; refine (islS_any vx xs (w1.drewN n2) _ (HRX.out.drewN _) hmx hx).mono ?_; rintro e w3 ⟨rfl, n3, rfl⟩; rw [HIB.out]))
      exact bodyPost_ret (v := .tuple #[.slice none 0 0, .slice none 0 0, .bool false]) (by simp [results, Try.results16, go_sem]) rfl (retL2_no HOK.out (by first | exact below_drawn HB01.out _ | exact below_drawn (below_drawn HB01.out _) _))
    · have HIB := Lib.hid h2
      obtain ⟨hw8, hfw, hfs⟩ := vsB_out h1
      obtain ⟨hx8, hfx⟩ := isL_out h2
      have HLS := Lib.hid (fun (n : Nat) => lonS_any w.heap.size s ws xs vw vx (w1.drewN n) hg K0.out K1.out (HRW.out.drewN n) (HRX.out.drewN n) hw8 hx8.1 hx8.2 hfw hwx hfx hx hfs hs)
      obtain h3 | h3 : (finA (loE ws s xs) && finA (loO ws s xs)) = false ∨ (finA (loE ws s xs) && finA (loO ws s xs)) = true := by cases (finA (loE ws s xs) && finA (loO ws s xs)) <;> simp
      · have HFF := Lib.hid h3
        have HOK := Lib.hid (show loB ws s xs = false by unfold loB; rw [h1, h2, h3]; rfl)
        clear h1 h2 h3
        go_enter Try.func16, Try.ntmps16
        go_wp2_with (first | (go_at_call 57; rw [← HW1.out]; refine (vsP_any w.heap.size vw ws s w1 _ HRW.out K0.out K1.out hmw hwx hs).mono ?_; rintro e w2 ⟨rfl, n2, rfl⟩; rw [HVB.out]) | (go_at_call 58; refine (islS_any vx xs (w1.drewN n2) _ (HRX.out.drewN _) hmx hx).mono ?_; rintro e w3 ⟨rfl, n3, rfl⟩; rw [HIB.out]) | (go_at_call 59; refine (HLS.out _).mono ?_; rintro e w4 ⟨v, u, cE, cO, rfl, o1, i1, o2, i2, ap, b4⟩; rw [HFF.out]; have O1 := Lib.hid o1; have I1 := Lib.hid i1; have O2 := Lib.hid o2; have I2 := Lib.hid i2; have AP := Lib.hid ap; have B4 := Lib.hid b4; clear o1 i1 o2 i2 ap b4))
        exact bodyPost_ret (v := .tuple #[.slice none 0 0, .slice none 0 0, .bool false]) (by simp [results, Try.results16, go_sem]) rfl (retL2_no HOK.out (by first | exact ((below_drawn HB01.out _).trans (B4.out.mono (Nat.le_of_lt hg))) | exact ((below_drawn (below_drawn HB01.out _) _).trans (B4.out.mono (Nat.le_of_lt hg)))))
      · have HFF := Lib.hid h3
        have HOK := Lib.hid (show loB ws s xs = true by unfold loB; rw [h1, h2, h3]; rfl)
        clear h1 h2 h3
        go_enter Try.func16, Try.ntmps16
        go_wp2_with (first | (go_at_call 57; rw [← HW1.out]; refine (vsP_any w.heap.size vw ws s w1 _ HRW.out K0.out K1.out hmw hwx hs).mono ?_; rintro e w2 ⟨rfl, n2, rfl⟩; rw [HVB.out]) | (go_at_call 58; refine (islS_any vx xs (w1.drewN n2) _ (HRX.out.drewN _) hmx hx).mono ?_; rintro e w3 ⟨rfl, n3, rfl⟩; rw [HIB.out]) | (go_at_call 59; refine (HLS.out _).mono ?_; rintro e w4 ⟨v, u, cE, cO, rfl, o1, i1, o2, i2, ap, b4⟩; rw [HFF.out]; have O1 := Lib.hid o1; have I1 := Lib.hid i1; have O2 := Lib.hid o2; have I2 := Lib.hid i2; have AP := Lib.hid ap; have B4 := Lib.hid b4; clear o1 i1 o2 i2 ap b4))
        exact bodyPost_ret (v := .tuple #[v, u, .bool true]) (by simp [results, Try.results16, go_sem]) rfl (retL2_yes HOK.out (O1.out.less (Nat.le_of_lt hg)) I1.out (O2.out.less (Nat.le_of_lt hg)) I2.out AP.out (by first | exact ((below_drawn HB01.out _).trans (B4.out.mono (Nat.le_of_lt hg))) | exact ((below_drawn (below_drawn HB01.out _) _).trans (B4.out.mono (Nat.le_of_lt hg)))))
end Go.Proofs.Ytfbdmhkmkmbipaa
