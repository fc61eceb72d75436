/-
  At any line and step, SolveLine answers as its model does, in memory of its own, and leaves the line as it was.
-/
import Derived.Test.YtfcegkighjnmeaaRows
import Derived.ProofKit
import Derived.OpenShut
import Derived.WalkLawsBesides
import Derived.KernelRfl
import Derived.Test.YtfcegkighjnmeaaSli
import Derived.Test.YtfcegkighjnmeaaMkF
import Derived.Test.YtfcegkighjnmeaaTw
import Derived.Test.YtfcegkighjnmeaaBls
namespace Go.Proofs.Ytfcegkighjnmeaa
open Go.RowKit Fl
set_option linter.unusedVariables false
set_option maxRecDepth 100000 in
set_option maxHeartbeats 8000000 in
theorem fnExactSolveLine.walk (w : World) (v0 : Value) (a0 : List Nat) (h0 : Rd w w.heap.size v0 (a0.map (.float .f32))) (w0 : ∀ x ∈ a0, x < 2 ^ 32) (a1 : Nat) (w1 : (Lit.float .f32 a1).wf = true) :
    Calls Try.prog 11 #[v0, .float .f32 a1] w fun e w' => e = .returned (.bool true) ∧ Below w.heap.size w w' := by
  have hle0 := h0.le
  rw [show (a0.map (.float .f32)) = fl a0 from rfl, fl_len] at hle0
  replace h0 : Rd w w.heap.size v0 (fl a0) := h0
  unfold maxLen at hle0
  obtain ⟨A0, c0, hv0, hc01, hc02, hcell0⟩ := id h0
  rw [fl_len] at hv0
  clear hcell0 hc01 hc02
  subst hv0
  have HX0 := Lib.hid w0
  clear w0
  have hx1 : a1 < 2 ^ 32 := wf_lt w1
  clear w1
  by_cases hbig0 : 1048576 < a0.length
  · go_enter Try.func11, Try.ntmps11
    go_wp2_with fail
    go_ret
    exact ⟨rfl, Below.refl _ _⟩
  have hm0 : a0.length ≤ 1048576 := by omega
  clear hbig0
  obtain ⟨L0, hL0e⟩ : ∃ L, L = slV a0 a1 := ⟨_, rfl⟩
  have hL0 : L0.length ≤ 1048576 := by rw [hL0e]; exact slV_len _ _
  obtain ⟨b, hbe⟩ : ∃ x, x = slB a0 a1 := ⟨_, rfl⟩
  have HS := Lib.hid (fun (w' : World) (u0 : Value) (hr0 : Rd w' w'.heap.size u0 (fl a0)) => (show Calls Try.prog 43 #[u0, .float .f32 a1] w' (RetLF L0 b w') by rw [hL0e, hbe]; exact (sloS_any u0 a0 a1 w' hr0 hm0 HX0.out hx1)))
  have HI := Lib.hid (fun (w' : World) (u0 : Value) (hr0 : Rd w' w'.heap.size u0 (fl a0)) => (show Calls Try.prog 44 #[u0, .float .f32 a1] w' (RetLF L0 b w') by rw [hL0e, hbe]; exact (sloI_any u0 a0 a1 w' hr0 hm0 HX0.out hx1)))
  clear hL0e hbe
  go_enter Try.func11, Try.ntmps11
  have F_a0_w : Rd w w.heap.size (.slice A0 a0.length c0) (fl a0) := h0
  have B_w : Below w.heap.size w w := Below.refl _ _
  clear h0
  go_wp2_with fail
  refine (toF_any _ a0 _ _ (F_a0_w.more B_w.size) (Nat.le_refl _) hm0).mono ?_
  rintro e w1 ⟨g1, rfl, P1, hb1⟩
  have O1 := Own.row P1
  clear P1
  have F_a0_w1 : Rd w1 w.heap.size (.slice A0 a0.length c0) (fl a0) := F_a0_w.below (hb1.mono B_w.size)
  have B_w1 : Below w.heap.size w w1 := B_w.trans (hb1.mono B_w.size)
  have S_c0 : w.heap.size ≤ w.heap.size := B_w.size
  clear F_a0_w B_w
  have F_c0_w1 : In w1 w.heap.size w1.heap.size (.slice (some ⟨g1, 0, none⟩) a0.length a0.length) (fl a0) := In.made O1
  have T_c0_w1 : w1.heap.size ≤ w1.heap.size := Nat.le_refl _
  clear O1
  clear hb1
  go_wp2_with fail
  refine (HS.out _ _ F_c0_w1.rd).mono ?_
  rintro e w2 ⟨r0, rfl, O2x0, hb2⟩
  have F_a0_w2 : Rd w2 w.heap.size (.slice A0 a0.length c0) (fl a0) := F_a0_w1.below (hb2.mono B_w1.size)
  have F_c0_w2 : In w2 w.heap.size w1.heap.size (.slice (some ⟨g1, 0, none⟩) a0.length a0.length) (fl a0) := F_c0_w1.step hb2
  have T_c0_w2 : w1.heap.size ≤ w2.heap.size := Nat.le_trans T_c0_w1 hb2.size
  have B_w2 : Below w.heap.size w w2 := B_w1.trans (hb2.mono B_w1.size)
  have S_r0 : w.heap.size ≤ w1.heap.size := B_w1.size
  have D_c0_r0 : w1.heap.size ≤ w1.heap.size := T_c0_w1
  clear F_a0_w1 F_c0_w1 T_c0_w1 B_w1
  have F_r0_w2 : In w2 w1.heap.size w2.heap.size r0 (fl L0) := In.made O2x0
  have T_r0_w2 : w2.heap.size ≤ w2.heap.size := Nat.le_refl _
  clear O2x0
  clear hb2
  clear F_c0_w2 T_c0_w2
  go_wp2_with fail
  refine (toF_any _ a0 _ _ (F_a0_w2.more B_w2.size) (Nat.le_refl _) hm0).mono ?_
  rintro e w3 ⟨g3, rfl, P3, hb3⟩
  have O3 := Own.row P3
  clear P3
  have F_a0_w3 : Rd w3 w.heap.size (.slice A0 a0.length c0) (fl a0) := F_a0_w2.below (hb3.mono B_w2.size)
  have F_r0_w3 : In w3 w1.heap.size w2.heap.size r0 (fl L0) := F_r0_w2.step hb3
  have T_r0_w3 : w2.heap.size ≤ w3.heap.size := Nat.le_trans T_r0_w2 hb3.size
  have B_w3 : Below w.heap.size w w3 := B_w2.trans (hb3.mono B_w2.size)
  have S_x0 : w.heap.size ≤ w2.heap.size := B_w2.size
  have D_r0_x0 : w2.heap.size ≤ w2.heap.size := T_r0_w2
  clear F_a0_w2 F_r0_w2 T_r0_w2 B_w2
  have F_x0_w3 : In w3 w2.heap.size w3.heap.size (.slice (some ⟨g3, 0, none⟩) a0.length a0.length) (fl a0) := In.made O3
  have T_x0_w3 : w3.heap.size ≤ w3.heap.size := Nat.le_refl _
  clear O3
  clear hb3
  go_wp2_with fail
  refine (HI.out _ _ F_x0_w3.rd).mono ?_
  rintro e w4 ⟨g0, rfl, O4x0, hb4⟩
  have F_a0_w4 : Rd w4 w.heap.size (.slice A0 a0.length c0) (fl a0) := F_a0_w3.below (hb4.mono B_w3.size)
  have F_r0_w4 : In w4 w1.heap.size w2.heap.size r0 (fl L0) := F_r0_w3.step hb4
  have T_r0_w4 : w2.heap.size ≤ w4.heap.size := Nat.le_trans T_r0_w3 hb4.size
  have F_x0_w4 : In w4 w2.heap.size w3.heap.size (.slice (some ⟨g3, 0, none⟩) a0.length a0.length) (fl a0) := F_x0_w3.step hb4
  have T_x0_w4 : w3.heap.size ≤ w4.heap.size := Nat.le_trans T_x0_w3 hb4.size
  have B_w4 : Below w.heap.size w w4 := B_w3.trans (hb4.mono B_w3.size)
  have S_g0 : w.heap.size ≤ w3.heap.size := B_w3.size
  have D_r0_g0 : w2.heap.size ≤ w3.heap.size := T_r0_w3
  have D_x0_g0 : w3.heap.size ≤ w3.heap.size := T_x0_w3
  clear F_a0_w3 F_r0_w3 T_r0_w3 F_x0_w3 T_x0_w3 B_w3
  have F_g0_w4 : In w4 w3.heap.size w4.heap.size g0 (fl L0) := In.made O4x0
  have T_g0_w4 : w4.heap.size ≤ w4.heap.size := Nat.le_refl _
  clear O4x0
  clear hb4
  go_wp2_with fail
  refine (eqF_any _ _ L0 L0 _ _ F_g0_w4.rd F_r0_w4.rd (Worth.refl _) hL0).mono ?_
  rintro e w5 ⟨rfl, q5, hw5⟩
  have hb5 : Below w4.heap.size w4 w5 := by rw [hw5]; exact below_drawn (Below.refl _ _) _
  clear hw5
  have F_a0_w5 : Rd w5 w.heap.size (.slice A0 a0.length c0) (fl a0) := F_a0_w4.below (hb5.mono B_w4.size)
  have F_r0_w5 : In w5 w1.heap.size w2.heap.size r0 (fl L0) := F_r0_w4.step hb5
  have T_r0_w5 : w2.heap.size ≤ w5.heap.size := Nat.le_trans T_r0_w4 hb5.size
  have F_x0_w5 : In w5 w2.heap.size w3.heap.size (.slice (some ⟨g3, 0, none⟩) a0.length a0.length) (fl a0) := F_x0_w4.step hb5
  have T_x0_w5 : w3.heap.size ≤ w5.heap.size := Nat.le_trans T_x0_w4 hb5.size
  have F_g0_w5 : In w5 w3.heap.size w4.heap.size g0 (fl L0) := F_g0_w4.step hb5
  have T_g0_w5 : w4.heap.size ≤ w5.heap.size := Nat.le_trans T_g0_w4 hb5.size
  have B_w5 : Below w.heap.size w w5 := B_w4.trans (hb5.mono B_w4.size)
  clear F_a0_w4 F_r0_w4 T_r0_w4 F_x0_w4 T_x0_w4 F_g0_w4 T_g0_w4 B_w4
  clear hb5
  go_wp2_with fail
  refine (toF_any _ a0 _ _ (F_a0_w5.more B_w5.size) (Nat.le_refl _) hm0).mono ?_
  rintro e w6 ⟨g6, rfl, P6, hb6⟩
  have O6 := Own.row P6
  clear P6
  have F_a0_w6 : Rd w6 w.heap.size (.slice A0 a0.length c0) (fl a0) := F_a0_w5.below (hb6.mono B_w5.size)
  have F_r0_w6 : In w6 w1.heap.size w2.heap.size r0 (fl L0) := F_r0_w5.step hb6
  have T_r0_w6 : w2.heap.size ≤ w6.heap.size := Nat.le_trans T_r0_w5 hb6.size
  have F_x0_w6 : In w6 w2.heap.size w3.heap.size (.slice (some ⟨g3, 0, none⟩) a0.length a0.length) (fl a0) := F_x0_w5.step hb6
  have T_x0_w6 : w3.heap.size ≤ w6.heap.size := Nat.le_trans T_x0_w5 hb6.size
  have F_g0_w6 : In w6 w3.heap.size w4.heap.size g0 (fl L0) := F_g0_w5.step hb6
  have T_g0_w6 : w4.heap.size ≤ w6.heap.size := Nat.le_trans T_g0_w5 hb6.size
  have B_w6 : Below w.heap.size w w6 := B_w5.trans (hb6.mono B_w5.size)
  have S_d0 : w.heap.size ≤ w5.heap.size := B_w5.size
  have D_r0_d0 : w2.heap.size ≤ w5.heap.size := T_r0_w5
  have D_x0_d0 : w3.heap.size ≤ w5.heap.size := T_x0_w5
  have D_g0_d0 : w4.heap.size ≤ w5.heap.size := T_g0_w5
  clear F_a0_w5 F_r0_w5 T_r0_w5 F_x0_w5 T_x0_w5 F_g0_w5 T_g0_w5 B_w5
  have F_d0_w6 : In w6 w5.heap.size w6.heap.size (.slice (some ⟨g6, 0, none⟩) a0.length a0.length) (fl a0) := In.made O6
  have T_d0_w6 : w6.heap.size ≤ w6.heap.size := Nat.le_refl _
  clear O6
  clear hb6
  go_wp2_with fail
  refine (eqF_any _ _ a0 a0 _ _ F_x0_w6.rd F_d0_w6.rd (Worth.refl _) hm0).mono ?_
  rintro e w7 ⟨rfl, q7, hw7⟩
  have hb7 : Below w6.heap.size w6 w7 := by rw [hw7]; exact below_drawn (Below.refl _ _) _
  clear hw7
  have F_a0_w7 : Rd w7 w.heap.size (.slice A0 a0.length c0) (fl a0) := F_a0_w6.below (hb7.mono B_w6.size)
  have F_r0_w7 : In w7 w1.heap.size w2.heap.size r0 (fl L0) := F_r0_w6.step hb7
  have T_r0_w7 : w2.heap.size ≤ w7.heap.size := Nat.le_trans T_r0_w6 hb7.size
  have F_x0_w7 : In w7 w2.heap.size w3.heap.size (.slice (some ⟨g3, 0, none⟩) a0.length a0.length) (fl a0) := F_x0_w6.step hb7
  have T_x0_w7 : w3.heap.size ≤ w7.heap.size := Nat.le_trans T_x0_w6 hb7.size
  have F_g0_w7 : In w7 w3.heap.size w4.heap.size g0 (fl L0) := F_g0_w6.step hb7
  have T_g0_w7 : w4.heap.size ≤ w7.heap.size := Nat.le_trans T_g0_w6 hb7.size
  have F_d0_w7 : In w7 w5.heap.size w6.heap.size (.slice (some ⟨g6, 0, none⟩) a0.length a0.length) (fl a0) := F_d0_w6.step hb7
  have T_d0_w7 : w6.heap.size ≤ w7.heap.size := Nat.le_trans T_d0_w6 hb7.size
  have B_w7 : Below w.heap.size w w7 := B_w6.trans (hb7.mono B_w6.size)
  clear F_a0_w6 F_r0_w6 T_r0_w6 F_x0_w6 T_x0_w6 F_g0_w6 T_g0_w6 F_d0_w6 T_d0_w6 B_w6
  clear hb7
  clear F_d0_w7 T_d0_w7
  go_wp2_with fail
  refine (markF_any _ a0 _ _ _ F_x0_w7.1 hm0 (by omega) (by omega)).mono ?_
  rintro e w8 ⟨rfl, hw8⟩
  have ht8 : Tw w2.heap.size w3.heap.size w7 w8 := by rw [hw8]; exact over_tw F_x0_w7.1 F_x0_w7.2 _
  have NF8 : In w8 w2.heap.size w3.heap.size (.slice (some ⟨g3, 0, none⟩) a0.length a0.length) ((List.range a0.length).map (mkF (1))) := by rw [hw8]; have := F_x0_w7.over (mkF (1)); rw [fl_len] at this; exact this
  clear hw8
  have F_a0_w8 : Rd w8 w.heap.size (.slice A0 a0.length c0) (fl a0) := F_a0_w7.tw ht8 S_x0 B_w7.size
  have F_r0_w8 : In w8 w1.heap.size w2.heap.size r0 (fl L0) := F_r0_w7.tw ht8 (.inl D_r0_x0)
  have T_r0_w8 : w2.heap.size ≤ w8.heap.size := Nat.le_trans T_r0_w7 ht8.size
  have F_x0_w8 : In w8 w2.heap.size w3.heap.size (.slice (some ⟨g3, 0, none⟩) a0.length a0.length) ((List.range a0.length).map (mkF (1))) := NF8
  have T_x0_w8 : w3.heap.size ≤ w8.heap.size := Nat.le_trans T_x0_w7 ht8.size
  have F_g0_w8 : In w8 w3.heap.size w4.heap.size g0 (fl L0) := F_g0_w7.tw ht8 (.inr D_x0_g0)
  have T_g0_w8 : w4.heap.size ≤ w8.heap.size := Nat.le_trans T_g0_w7 ht8.size
  have B_w8 : Below w.heap.size w w8 := B_w7.trans (ht8.below S_x0 B_w7.size)
  clear F_a0_w7 F_r0_w7 T_r0_w7 F_x0_w7 T_x0_w7 F_g0_w7 T_g0_w7 B_w7
  clear ht8 NF8
  go_wp2_with fail
  refine (eqF_any _ _ L0 L0 _ _ F_g0_w8.rd F_r0_w8.rd (Worth.refl _) hL0).mono ?_
  rintro e w9 ⟨rfl, q9, hw9⟩
  have hb9 : Below w8.heap.size w8 w9 := by rw [hw9]; exact below_drawn (Below.refl _ _) _
  clear hw9
  have F_a0_w9 : Rd w9 w.heap.size (.slice A0 a0.length c0) (fl a0) := F_a0_w8.below (hb9.mono B_w8.size)
  have F_r0_w9 : In w9 w1.heap.size w2.heap.size r0 (fl L0) := F_r0_w8.step hb9
  have T_r0_w9 : w2.heap.size ≤ w9.heap.size := Nat.le_trans T_r0_w8 hb9.size
  have F_x0_w9 : In w9 w2.heap.size w3.heap.size (.slice (some ⟨g3, 0, none⟩) a0.length a0.length) ((List.range a0.length).map (mkF (1))) := F_x0_w8.step hb9
  have T_x0_w9 : w3.heap.size ≤ w9.heap.size := Nat.le_trans T_x0_w8 hb9.size
  have F_g0_w9 : In w9 w3.heap.size w4.heap.size g0 (fl L0) := F_g0_w8.step hb9
  have T_g0_w9 : w4.heap.size ≤ w9.heap.size := Nat.le_trans T_g0_w8 hb9.size
  have B_w9 : Below w.heap.size w w9 := B_w8.trans (hb9.mono B_w8.size)
  clear F_a0_w8 F_r0_w8 T_r0_w8 F_x0_w8 T_x0_w8 F_g0_w8 T_g0_w8 B_w8
  clear hb9
  go_wp2_with fail
  refine (markF_any _ L0 _ _ _ F_g0_w9.1 hL0 (by omega) (by omega)).mono ?_
  rintro e w10 ⟨rfl, hw10⟩
  have ht10 : Tw w3.heap.size w4.heap.size w9 w10 := by rw [hw10]; exact over_tw F_g0_w9.1 F_g0_w9.2 _
  have NF10 : In w10 w3.heap.size w4.heap.size g0 ((List.range L0.length).map (mkF (1))) := by rw [hw10]; have := F_g0_w9.over (mkF (1)); rw [fl_len] at this; exact this
  clear hw10
  have F_a0_w10 : Rd w10 w.heap.size (.slice A0 a0.length c0) (fl a0) := F_a0_w9.tw ht10 S_g0 B_w9.size
  have F_r0_w10 : In w10 w1.heap.size w2.heap.size r0 (fl L0) := F_r0_w9.tw ht10 (.inl D_r0_g0)
  have T_r0_w10 : w2.heap.size ≤ w10.heap.size := Nat.le_trans T_r0_w9 ht10.size
  have F_x0_w10 : In w10 w2.heap.size w3.heap.size (.slice (some ⟨g3, 0, none⟩) a0.length a0.length) ((List.range a0.length).map (mkF (1))) := F_x0_w9.tw ht10 (.inl D_x0_g0)
  have T_x0_w10 : w3.heap.size ≤ w10.heap.size := Nat.le_trans T_x0_w9 ht10.size
  have F_g0_w10 : In w10 w3.heap.size w4.heap.size g0 ((List.range L0.length).map (mkF (1))) := NF10
  have T_g0_w10 : w4.heap.size ≤ w10.heap.size := Nat.le_trans T_g0_w9 ht10.size
  have B_w10 : Below w.heap.size w w10 := B_w9.trans (ht10.below S_g0 B_w9.size)
  clear F_a0_w9 F_r0_w9 T_r0_w9 F_x0_w9 T_x0_w9 F_g0_w9 T_g0_w9 B_w9
  clear ht10 NF10
  go_wp2_with fail
  refine (heldF_any _ L0.length _ _ _ F_g0_w10.rd hL0 (by omega) (by omega)).mono ?_
  rintro e w' ⟨rfl, rfl⟩
  go_wp2_with fail
  refine (toF_any _ a0 _ _ (F_a0_w10.more B_w10.size) (Nat.le_refl _) hm0).mono ?_
  rintro e w11 ⟨g11, rfl, P11, hb11⟩
  have O11 := Own.row P11
  clear P11
  have F_a0_w11 : Rd w11 w.heap.size (.slice A0 a0.length c0) (fl a0) := F_a0_w10.below (hb11.mono B_w10.size)
  have F_r0_w11 : In w11 w1.heap.size w2.heap.size r0 (fl L0) := F_r0_w10.step hb11
  have T_r0_w11 : w2.heap.size ≤ w11.heap.size := Nat.le_trans T_r0_w10 hb11.size
  have F_x0_w11 : In w11 w2.heap.size w3.heap.size (.slice (some ⟨g3, 0, none⟩) a0.length a0.length) ((List.range a0.length).map (mkF (1))) := F_x0_w10.step hb11
  have T_x0_w11 : w3.heap.size ≤ w11.heap.size := Nat.le_trans T_x0_w10 hb11.size
  have F_g0_w11 : In w11 w3.heap.size w4.heap.size g0 ((List.range L0.length).map (mkF (1))) := F_g0_w10.step hb11
  have T_g0_w11 : w4.heap.size ≤ w11.heap.size := Nat.le_trans T_g0_w10 hb11.size
  have B_w11 : Below w.heap.size w w11 := B_w10.trans (hb11.mono B_w10.size)
  have S_y0 : w.heap.size ≤ w10.heap.size := B_w10.size
  have D_r0_y0 : w2.heap.size ≤ w10.heap.size := T_r0_w10
  have D_x0_y0 : w3.heap.size ≤ w10.heap.size := T_x0_w10
  have D_g0_y0 : w4.heap.size ≤ w10.heap.size := T_g0_w10
  clear F_a0_w10 F_r0_w10 T_r0_w10 F_x0_w10 T_x0_w10 F_g0_w10 T_g0_w10 B_w10
  have F_y0_w11 : In w11 w10.heap.size w11.heap.size (.slice (some ⟨g11, 0, none⟩) a0.length a0.length) (fl a0) := In.made O11
  have T_y0_w11 : w11.heap.size ≤ w11.heap.size := Nat.le_refl _
  clear O11
  clear hb11
  go_wp2_with fail
  refine (HI.out _ _ F_y0_w11.rd).mono ?_
  rintro e w12 ⟨h0, rfl, O12x0, hb12⟩
  have F_a0_w12 : Rd w12 w.heap.size (.slice A0 a0.length c0) (fl a0) := F_a0_w11.below (hb12.mono B_w11.size)
  have F_r0_w12 : In w12 w1.heap.size w2.heap.size r0 (fl L0) := F_r0_w11.step hb12
  have T_r0_w12 : w2.heap.size ≤ w12.heap.size := Nat.le_trans T_r0_w11 hb12.size
  have F_x0_w12 : In w12 w2.heap.size w3.heap.size (.slice (some ⟨g3, 0, none⟩) a0.length a0.length) ((List.range a0.length).map (mkF (1))) := F_x0_w11.step hb12
  have T_x0_w12 : w3.heap.size ≤ w12.heap.size := Nat.le_trans T_x0_w11 hb12.size
  have F_g0_w12 : In w12 w3.heap.size w4.heap.size g0 ((List.range L0.length).map (mkF (1))) := F_g0_w11.step hb12
  have T_g0_w12 : w4.heap.size ≤ w12.heap.size := Nat.le_trans T_g0_w11 hb12.size
  have F_y0_w12 : In w12 w10.heap.size w11.heap.size (.slice (some ⟨g11, 0, none⟩) a0.length a0.length) (fl a0) := F_y0_w11.step hb12
  have T_y0_w12 : w11.heap.size ≤ w12.heap.size := Nat.le_trans T_y0_w11 hb12.size
  have B_w12 : Below w.heap.size w w12 := B_w11.trans (hb12.mono B_w11.size)
  have S_h0 : w.heap.size ≤ w11.heap.size := B_w11.size
  have D_r0_h0 : w2.heap.size ≤ w11.heap.size := T_r0_w11
  have D_x0_h0 : w3.heap.size ≤ w11.heap.size := T_x0_w11
  have D_g0_h0 : w4.heap.size ≤ w11.heap.size := T_g0_w11
  have D_y0_h0 : w11.heap.size ≤ w11.heap.size := T_y0_w11
  clear F_a0_w11 F_r0_w11 T_r0_w11 F_x0_w11 T_x0_w11 F_g0_w11 T_g0_w11 F_y0_w11 T_y0_w11 B_w11
  have F_h0_w12 : In w12 w11.heap.size w12.heap.size h0 (fl L0) := In.made O12x0
  have T_h0_w12 : w12.heap.size ≤ w12.heap.size := Nat.le_refl _
  clear O12x0
  clear hb12
  clear F_y0_w12 T_y0_w12
  go_wp2_with fail
  refine (eqF_any _ _ L0 L0 _ _ F_h0_w12.rd F_r0_w12.rd (Worth.refl _) hL0).mono ?_
  rintro e w13 ⟨rfl, q13, hw13⟩
  have hb13 : Below w12.heap.size w12 w13 := by rw [hw13]; exact below_drawn (Below.refl _ _) _
  clear hw13
  have F_a0_w13 : Rd w13 w.heap.size (.slice A0 a0.length c0) (fl a0) := F_a0_w12.below (hb13.mono B_w12.size)
  have F_r0_w13 : In w13 w1.heap.size w2.heap.size r0 (fl L0) := F_r0_w12.step hb13
  have T_r0_w13 : w2.heap.size ≤ w13.heap.size := Nat.le_trans T_r0_w12 hb13.size
  have F_x0_w13 : In w13 w2.heap.size w3.heap.size (.slice (some ⟨g3, 0, none⟩) a0.length a0.length) ((List.range a0.length).map (mkF (1))) := F_x0_w12.step hb13
  have T_x0_w13 : w3.heap.size ≤ w13.heap.size := Nat.le_trans T_x0_w12 hb13.size
  have F_g0_w13 : In w13 w3.heap.size w4.heap.size g0 ((List.range L0.length).map (mkF (1))) := F_g0_w12.step hb13
  have T_g0_w13 : w4.heap.size ≤ w13.heap.size := Nat.le_trans T_g0_w12 hb13.size
  have F_h0_w13 : In w13 w11.heap.size w12.heap.size h0 (fl L0) := F_h0_w12.step hb13
  have T_h0_w13 : w12.heap.size ≤ w13.heap.size := Nat.le_trans T_h0_w12 hb13.size
  have B_w13 : Below w.heap.size w w13 := B_w12.trans (hb13.mono B_w12.size)
  clear F_a0_w12 F_r0_w12 T_r0_w12 F_x0_w12 T_x0_w12 F_g0_w12 T_g0_w12 F_h0_w12 T_h0_w12 B_w12
  clear hb13
  go_wp2_with fail
  refine (heldF_any _ L0.length _ _ _ F_g0_w13.rd hL0 (by omega) (by omega)).mono ?_
  rintro e w' ⟨rfl, rfl⟩
  go_wp2_with fail
  go_ret
  exact ⟨rfl, B_w13⟩

namespace fnExactSolveLine
open Go.ChangeShapes Go.WideShapes Go.ChangeAt Go.RowKit
open Go.ChangeMaps (open_string)
set_option linter.unusedVariables false
theorem own : ownKnob Try.prog.godebug = none := by kernel_rfl
theorem laidOut : laidOutB Try.prog = true := by kernel_rfl
set_option maxRecDepth 100000 in
theorem lifted (os : Os) (started : os.Started) (H : Type) (enc : TypeId × Value → H) :
    ReturnsInHanded {} Try.checked os 11 .any (Rows.fnExactSolveLineSpec.pre6 enc Try.prog Try.f11 Rows.fnExactSolveLineRow.domain false) (Rows.fnExactSolveLineSpec.post enc Try.prog Try.f11 false true false false) := by
  refine returnsInHanded_of_change (C := Try.checked) own started (by kernel_rfl) Try.func11
    (ChangeSpec.witness6 (enc := enc) (C := Try.checked) false ⟨#[], #[.slice none 0 0, .float .f32 0], []⟩ 8 (by kernel_rfl) (by kernel_rfl) (by kernel_rfl) (by kernel_rfl)) ?_
  intro W base args ds gs before hval0 hW hcnd _
  have hval : ∀ (j : Nat) t v, Try.f11.params[j]? = some t → args[j]? = some v → Value.okWide Try.prog W .any base t v := hval0
  have hW' := hW
  have hlt0 := hW.lt
  obtain ⟨p, q, hA0, hV, rfl, hfz, hnd⟩ := hW
  have hA : DataW.TrodAll enc Try.prog W 0 (fun _ => true) true Try.f11.params.toList args.toList ds p := hA0
  have hAk := hA
  have hltp : ∀ x ∈ p, x.block < W.heap.size := fun x hx => hlt0 x (List.mem_append_left _ hx)
  have hread : ∀ t ∈ Try.f11.params.toList, Try.prog.readableRec t = true ∧ t < Try.prog.types.size := by
    rw [Try.params11]
    intro t ht
    simp only [List.mem_cons, List.not_mem_nil, or_false] at ht
    rcases ht with rfl | rfl <;> exact ⟨by kernel_rfl, of_decide_eq_true (by kernel_rfl)⟩
  rw [Try.params11] at hA hval
  obtain ⟨v0, vs0, d0, ds0, p0, q0, hargs, rfl, rfl, h0, r0⟩ := trodAll_cons hA
  obtain ⟨v1, vs1, d1, ds1, p1, q1, rfl, rfl, rfl, h1, r1⟩ := trodAll_cons r0
  obtain ⟨rfl, rfl, rfl⟩ := trodAll_nil r1
  obtain rfl : args = #[v0, v1] := by cases args; simp_all
  obtain ⟨rfl, rfl⟩ := trodVars_none hV
  obtain ⟨a0, g0, w0⟩ := open_floats Try.underlying35 Try.underlying47 (by kernel_rfl) (hval 0 35 v0 rfl rfl) h0 (fun x hx => hltp x (by simp [hx]))
  obtain ⟨a1, rfl, rfl, rfl, w1⟩ := open_float Try.underlying47 (hval 1 47 v1 rfl rfl) h1
  clear hA0 hval0
  refine (walk W v0 a0 g0 w0 a1 w1).mono fun e W' ⟨he, hg⟩ => ?_
  subst he
  exact ⟨_, rfl, post_grown (pv := []) hW' hg (fun _ _ _ => (trodAll_cons_mk (shut_bool Try.underlying4 _) trodAll_mk0)) (trodAll_low laidOut hg _ _ _ _ hread hltp hAk) rfl rfl⟩

theorem over : Rows.fnExactSolveLineRow.holds Try.pinned (OpenSpec.ofChange Rows.fnExactSolveLineSpec) :=
  OpenClaim.holds_of_wide 11 Try.f11 rfl rfl rfl rfl rfl rfl rfl ⟨rfl, rfl, rfl, rfl, rfl⟩ rfl rfl rfl rfl rfl (by kernel_rfl) Try.func11 (by kernel_rfl)
    (of_decide_eq_true (by kernel_rfl)) (by unfold Func.isWrapper; first | (rw [if_pos (by decide +kernel)]; kernel_rfl) | (rw [if_neg (by decide +kernel)]; exact ⟨rfl, rfl⟩))
    (fun os started H enc _ => lifted os started H enc)

theorem proved : Rows.FnExactSolveLineSaid := over
end fnExactSolveLine
end Go.Proofs.Ytfcegkighjnmeaa
