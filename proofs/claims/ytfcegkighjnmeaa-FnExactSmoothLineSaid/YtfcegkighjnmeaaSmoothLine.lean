/-
  At any two lists, step and number of times, SmoothLine answers as its model does, in memory of its own, and leaves the lists as they were.
-/
import Derived.Test.YtfcegkighjnmeaaRows
import Derived.ProofKit
import Derived.OpenShut
import Derived.WalkLawsBesides
import Derived.KernelRfl
import Derived.Test.YtfcegkighjnmeaaSml
import Derived.Test.YtfcegkighjnmeaaMkF
import Derived.Test.YtfcegkighjnmeaaTw
import Derived.Test.YtfcegkighjnmeaaBls
namespace Go.Proofs.Ytfcegkighjnmeaa
open Go.RowKit Fl
set_option linter.unusedVariables false
set_option maxRecDepth 100000 in
set_option maxHeartbeats 8000000 in
theorem fnExactSmoothLine.walk (w : World) (v0 : Value) (a0 : List Nat) (h0 : Rd w w.heap.size v0 (a0.map (.float .f32))) (w0 : ∀ x ∈ a0, x < 2 ^ 32) (v1 : Value) (a1 : List Nat) (h1 : Rd w w.heap.size v1 (a1.map (.float .f32))) (w1 : ∀ x ∈ a1, x < 2 ^ 32) (a2 : Nat) (w2 : (Lit.float .f32 a2).wf = true) (a3 : Int) (w3 : (Lit.int .i64 a3).wf = true) :
    Calls Try.prog 10 #[v0, v1, .float .f32 a2, .int .i64 a3] w fun e w' => e = .returned (.bool true) ∧ Below w.heap.size w w' := by
  have hle0 := h0.le
  rw [show (a0.map (.float .f32)) = fl a0 from rfl, fl_len] at hle0
  replace h0 : Rd w w.heap.size v0 (fl a0) := h0
  unfold maxLen at hle0
  obtain ⟨A0, c0, hv0, hc01, hc02, hcell0⟩ := id h0
  rw [fl_len] at hv0
  clear hcell0 hc01 hc02
  subst hv0
  have HX0 := Lib.hid w0
  clear w0
  have hle1 := h1.le
  rw [show (a1.map (.float .f32)) = fl a1 from rfl, fl_len] at hle1
  replace h1 : Rd w w.heap.size v1 (fl a1) := h1
  unfold maxLen at hle1
  obtain ⟨A1, c1, hv1, hc11, hc12, hcell1⟩ := id h1
  rw [fl_len] at hv1
  clear hcell1 hc11 hc12
  subst hv1
  have HX1 := Lib.hid w1
  clear w1
  have hx2 : a2 < 2 ^ 32 := wf_lt w2
  clear w2
  have hi3 := Lib.hid w3
  clear w3
  by_cases hbig0 : 1048576 < a0.length
  · go_enter Try.func10, Try.ntmps10
    go_wp2_with fail
    go_ret
    exact ⟨rfl, Below.refl _ _⟩
  have hm0 : a0.length ≤ 1048576 := by omega
  clear hbig0
  by_cases hbig1 : 1048576 < a1.length
  · go_enter Try.func10, Try.ntmps10
    go_wp2_with fail
    go_ret
    exact ⟨rfl, Below.refl _ _⟩
  have hm1 : a1.length ≤ 1048576 := by omega
  clear hbig1
  obtain ⟨L0, hL0e⟩ : ∃ L, L = smlV a0 a1 a2 a3 := ⟨_, rfl⟩
  have hL0 : L0.length ≤ 1048576 := by rw [hL0e]; exact smlV_len _ _ _ _ hm0
  obtain ⟨b, hbe⟩ : ∃ x, x = smlB a0 a1 a2 a3 := ⟨_, rfl⟩
  have HS := Lib.hid (fun (w' : World) (u0 : Value) (u1 : Value) (hr0 : Rd w' w'.heap.size u0 (fl a0)) (hr1 : Rd w' w'.heap.size u1 (fl a1)) => (show Calls Try.prog 41 #[u0, u1, .float .f32 a2, .int .i64 a3] w' (RetLF L0 b w') by rw [hL0e, hbe]; exact (smlS_any u0 u1 a0 a1 a2 a3 w' hr0 hr1 hm0 hm1 HX0.out HX1.out hx2)))
  have HI := Lib.hid (fun (w' : World) (u0 : Value) (u1 : Value) (hr0 : Rd w' w'.heap.size u0 (fl a0)) (hr1 : Rd w' w'.heap.size u1 (fl a1)) => (show Calls Try.prog 42 #[u0, u1, .float .f32 a2, .int .i64 a3] w' (RetLF L0 b w') by rw [hL0e, hbe]; exact (smlI_any u0 u1 a0 a1 a2 a3 w' hr0 hr1 hm0 hm1 HX0.out HX1.out hx2)))
  clear hL0e hbe
  go_enter Try.func10, Try.ntmps10
  have F_a0_w : Rd w w.heap.size (.slice A0 a0.length c0) (fl a0) := h0
  have F_a1_w : Rd w w.heap.size (.slice A1 a1.length c1) (fl a1) := h1
  have B_w : Below w.heap.size w w := Below.refl _ _
  clear h0 h1
  go_wp2_with fail
  refine (toF_any _ a0 _ _ (F_a0_w.more B_w.size) (Nat.le_refl _) hm0).mono ?_
  rintro e w1 ⟨g1, rfl, P1, hb1⟩
  have O1 := Own.row P1
  clear P1
  have F_a0_w1 : Rd w1 w.heap.size (.slice A0 a0.length c0) (fl a0) := F_a0_w.below (hb1.mono B_w.size)
  have F_a1_w1 : Rd w1 w.heap.size (.slice A1 a1.length c1) (fl a1) := F_a1_w.below (hb1.mono B_w.size)
  have B_w1 : Below w.heap.size w w1 := B_w.trans (hb1.mono B_w.size)
  have S_c0 : w.heap.size ≤ w.heap.size := B_w.size
  clear F_a0_w F_a1_w B_w
  have F_c0_w1 : In w1 w.heap.size w1.heap.size (.slice (some ⟨g1, 0, none⟩) a0.length a0.length) (fl a0) := In.made O1
  have T_c0_w1 : w1.heap.size ≤ w1.heap.size := Nat.le_refl _
  clear O1
  clear hb1
  go_wp2_with fail
  refine (toF_any _ a1 _ _ (F_a1_w1.more B_w1.size) (Nat.le_refl _) hm1).mono ?_
  rintro e w2 ⟨g2, rfl, P2, hb2⟩
  have O2 := Own.row P2
  clear P2
  have F_a0_w2 : Rd w2 w.heap.size (.slice A0 a0.length c0) (fl a0) := F_a0_w1.below (hb2.mono B_w1.size)
  have F_a1_w2 : Rd w2 w.heap.size (.slice A1 a1.length c1) (fl a1) := F_a1_w1.below (hb2.mono B_w1.size)
  have F_c0_w2 : In w2 w.heap.size w1.heap.size (.slice (some ⟨g1, 0, none⟩) a0.length a0.length) (fl a0) := F_c0_w1.step hb2
  have T_c0_w2 : w1.heap.size ≤ w2.heap.size := Nat.le_trans T_c0_w1 hb2.size
  have B_w2 : Below w.heap.size w w2 := B_w1.trans (hb2.mono B_w1.size)
  have S_c1 : w.heap.size ≤ w1.heap.size := B_w1.size
  have D_c0_c1 : w1.heap.size ≤ w1.heap.size := T_c0_w1
  clear F_a0_w1 F_a1_w1 F_c0_w1 T_c0_w1 B_w1
  have F_c1_w2 : In w2 w1.heap.size w2.heap.size (.slice (some ⟨g2, 0, none⟩) a1.length a1.length) (fl a1) := In.made O2
  have T_c1_w2 : w2.heap.size ≤ w2.heap.size := Nat.le_refl _
  clear O2
  clear hb2
  go_wp2_with fail
  refine (HS.out _ _ _ F_c0_w2.rd F_c1_w2.rd).mono ?_
  rintro e w3 ⟨r0, rfl, O3x0, hb3⟩
  have F_a0_w3 : Rd w3 w.heap.size (.slice A0 a0.length c0) (fl a0) := F_a0_w2.below (hb3.mono B_w2.size)
  have F_a1_w3 : Rd w3 w.heap.size (.slice A1 a1.length c1) (fl a1) := F_a1_w2.below (hb3.mono B_w2.size)
  have F_c0_w3 : In w3 w.heap.size w1.heap.size (.slice (some ⟨g1, 0, none⟩) a0.length a0.length) (fl a0) := F_c0_w2.step hb3
  have T_c0_w3 : w1.heap.size ≤ w3.heap.size := Nat.le_trans T_c0_w2 hb3.size
  have F_c1_w3 : In w3 w1.heap.size w2.heap.size (.slice (some ⟨g2, 0, none⟩) a1.length a1.length) (fl a1) := F_c1_w2.step hb3
  have T_c1_w3 : w2.heap.size ≤ w3.heap.size := Nat.le_trans T_c1_w2 hb3.size
  have B_w3 : Below w.heap.size w w3 := B_w2.trans (hb3.mono B_w2.size)
  have S_r0 : w.heap.size ≤ w2.heap.size := B_w2.size
  have D_c0_r0 : w1.heap.size ≤ w2.heap.size := T_c0_w2
  have D_c1_r0 : w2.heap.size ≤ w2.heap.size := T_c1_w2
  clear F_a0_w2 F_a1_w2 F_c0_w2 T_c0_w2 F_c1_w2 T_c1_w2 B_w2
  have F_r0_w3 : In w3 w2.heap.size w3.heap.size r0 (fl L0) := In.made O3x0
  have T_r0_w3 : w3.heap.size ≤ w3.heap.size := Nat.le_refl _
  clear O3x0
  clear hb3
  clear F_c0_w3 T_c0_w3 F_c1_w3 T_c1_w3
  go_wp2_with fail
  refine (toF_any _ a0 _ _ (F_a0_w3.more B_w3.size) (Nat.le_refl _) hm0).mono ?_
  rintro e w4 ⟨g4, rfl, P4, hb4⟩
  have O4 := Own.row P4
  clear P4
  have F_a0_w4 : Rd w4 w.heap.size (.slice A0 a0.length c0) (fl a0) := F_a0_w3.below (hb4.mono B_w3.size)
  have F_a1_w4 : Rd w4 w.heap.size (.slice A1 a1.length c1) (fl a1) := F_a1_w3.below (hb4.mono B_w3.size)
  have F_r0_w4 : In w4 w2.heap.size w3.heap.size r0 (fl L0) := F_r0_w3.step hb4
  have T_r0_w4 : w3.heap.size ≤ w4.heap.size := Nat.le_trans T_r0_w3 hb4.size
  have B_w4 : Below w.heap.size w w4 := B_w3.trans (hb4.mono B_w3.size)
  have S_x0 : w.heap.size ≤ w3.heap.size := B_w3.size
  have D_r0_x0 : w3.heap.size ≤ w3.heap.size := T_r0_w3
  clear F_a0_w3 F_a1_w3 F_r0_w3 T_r0_w3 B_w3
  have F_x0_w4 : In w4 w3.heap.size w4.heap.size (.slice (some ⟨g4, 0, none⟩) a0.length a0.length) (fl a0) := In.made O4
  have T_x0_w4 : w4.heap.size ≤ w4.heap.size := Nat.le_refl _
  clear O4
  clear hb4
  go_wp2_with fail
  refine (toF_any _ a1 _ _ (F_a1_w4.more B_w4.size) (Nat.le_refl _) hm1).mono ?_
  rintro e w5 ⟨g5, rfl, P5, hb5⟩
  have O5 := Own.row P5
  clear P5
  have F_a0_w5 : Rd w5 w.heap.size (.slice A0 a0.length c0) (fl a0) := F_a0_w4.below (hb5.mono B_w4.size)
  have F_a1_w5 : Rd w5 w.heap.size (.slice A1 a1.length c1) (fl a1) := F_a1_w4.below (hb5.mono B_w4.size)
  have F_r0_w5 : In w5 w2.heap.size w3.heap.size r0 (fl L0) := F_r0_w4.step hb5
  have T_r0_w5 : w3.heap.size ≤ w5.heap.size := Nat.le_trans T_r0_w4 hb5.size
  have F_x0_w5 : In w5 w3.heap.size w4.heap.size (.slice (some ⟨g4, 0, none⟩) a0.length a0.length) (fl a0) := F_x0_w4.step hb5
  have T_x0_w5 : w4.heap.size ≤ w5.heap.size := Nat.le_trans T_x0_w4 hb5.size
  have B_w5 : Below w.heap.size w w5 := B_w4.trans (hb5.mono B_w4.size)
  have S_x1 : w.heap.size ≤ w4.heap.size := B_w4.size
  have D_r0_x1 : w3.heap.size ≤ w4.heap.size := T_r0_w4
  have D_x0_x1 : w4.heap.size ≤ w4.heap.size := T_x0_w4
  clear F_a0_w4 F_a1_w4 F_r0_w4 T_r0_w4 F_x0_w4 T_x0_w4 B_w4
  have F_x1_w5 : In w5 w4.heap.size w5.heap.size (.slice (some ⟨g5, 0, none⟩) a1.length a1.length) (fl a1) := In.made O5
  have T_x1_w5 : w5.heap.size ≤ w5.heap.size := Nat.le_refl _
  clear O5
  clear hb5
  go_wp2_with fail
  refine (HI.out _ _ _ F_x0_w5.rd F_x1_w5.rd).mono ?_
  rintro e w6 ⟨g0, rfl, O6x0, hb6⟩
  have F_a0_w6 : Rd w6 w.heap.size (.slice A0 a0.length c0) (fl a0) := F_a0_w5.below (hb6.mono B_w5.size)
  have F_a1_w6 : Rd w6 w.heap.size (.slice A1 a1.length c1) (fl a1) := F_a1_w5.below (hb6.mono B_w5.size)
  have F_r0_w6 : In w6 w2.heap.size w3.heap.size r0 (fl L0) := F_r0_w5.step hb6
  have T_r0_w6 : w3.heap.size ≤ w6.heap.size := Nat.le_trans T_r0_w5 hb6.size
  have F_x0_w6 : In w6 w3.heap.size w4.heap.size (.slice (some ⟨g4, 0, none⟩) a0.length a0.length) (fl a0) := F_x0_w5.step hb6
  have T_x0_w6 : w4.heap.size ≤ w6.heap.size := Nat.le_trans T_x0_w5 hb6.size
  have F_x1_w6 : In w6 w4.heap.size w5.heap.size (.slice (some ⟨g5, 0, none⟩) a1.length a1.length) (fl a1) := F_x1_w5.step hb6
  have T_x1_w6 : w5.heap.size ≤ w6.heap.size := Nat.le_trans T_x1_w5 hb6.size
  have B_w6 : Below w.heap.size w w6 := B_w5.trans (hb6.mono B_w5.size)
  have S_g0 : w.heap.size ≤ w5.heap.size := B_w5.size
  have D_r0_g0 : w3.heap.size ≤ w5.heap.size := T_r0_w5
  have D_x0_g0 : w4.heap.size ≤ w5.heap.size := T_x0_w5
  have D_x1_g0 : w5.heap.size ≤ w5.heap.size := T_x1_w5
  clear F_a0_w5 F_a1_w5 F_r0_w5 T_r0_w5 F_x0_w5 T_x0_w5 F_x1_w5 T_x1_w5 B_w5
  have F_g0_w6 : In w6 w5.heap.size w6.heap.size g0 (fl L0) := In.made O6x0
  have T_g0_w6 : w6.heap.size ≤ w6.heap.size := Nat.le_refl _
  clear O6x0
  clear hb6
  go_wp2_with fail
  refine (eqF_any _ _ L0 L0 _ _ F_g0_w6.rd F_r0_w6.rd (Worth.refl _) hL0).mono ?_
  rintro e w7 ⟨rfl, q7, hw7⟩
  have hb7 : Below w6.heap.size w6 w7 := by rw [hw7]; exact below_drawn (Below.refl _ _) _
  clear hw7
  have F_a0_w7 : Rd w7 w.heap.size (.slice A0 a0.length c0) (fl a0) := F_a0_w6.below (hb7.mono B_w6.size)
  have F_a1_w7 : Rd w7 w.heap.size (.slice A1 a1.length c1) (fl a1) := F_a1_w6.below (hb7.mono B_w6.size)
  have F_r0_w7 : In w7 w2.heap.size w3.heap.size r0 (fl L0) := F_r0_w6.step hb7
  have T_r0_w7 : w3.heap.size ≤ w7.heap.size := Nat.le_trans T_r0_w6 hb7.size
  have F_x0_w7 : In w7 w3.heap.size w4.heap.size (.slice (some ⟨g4, 0, none⟩) a0.length a0.length) (fl a0) := F_x0_w6.step hb7
  have T_x0_w7 : w4.heap.size ≤ w7.heap.size := Nat.le_trans T_x0_w6 hb7.size
  have F_x1_w7 : In w7 w4.heap.size w5.heap.size (.slice (some ⟨g5, 0, none⟩) a1.length a1.length) (fl a1) := F_x1_w6.step hb7
  have T_x1_w7 : w5.heap.size ≤ w7.heap.size := Nat.le_trans T_x1_w6 hb7.size
  have F_g0_w7 : In w7 w5.heap.size w6.heap.size g0 (fl L0) := F_g0_w6.step hb7
  have T_g0_w7 : w6.heap.size ≤ w7.heap.size := Nat.le_trans T_g0_w6 hb7.size
  have B_w7 : Below w.heap.size w w7 := B_w6.trans (hb7.mono B_w6.size)
  clear F_a0_w6 F_a1_w6 F_r0_w6 T_r0_w6 F_x0_w6 T_x0_w6 F_x1_w6 T_x1_w6 F_g0_w6 T_g0_w6 B_w6
  clear hb7
  go_wp2_with fail
  refine (toF_any _ a0 _ _ (F_a0_w7.more B_w7.size) (Nat.le_refl _) hm0).mono ?_
  rintro e w8 ⟨g8, rfl, P8, hb8⟩
  have O8 := Own.row P8
  clear P8
  have F_a0_w8 : Rd w8 w.heap.size (.slice A0 a0.length c0) (fl a0) := F_a0_w7.below (hb8.mono B_w7.size)
  have F_a1_w8 : Rd w8 w.heap.size (.slice A1 a1.length c1) (fl a1) := F_a1_w7.below (hb8.mono B_w7.size)
  have F_r0_w8 : In w8 w2.heap.size w3.heap.size r0 (fl L0) := F_r0_w7.step hb8
  have T_r0_w8 : w3.heap.size ≤ w8.heap.size := Nat.le_trans T_r0_w7 hb8.size
  have F_x0_w8 : In w8 w3.heap.size w4.heap.size (.slice (some ⟨g4, 0, none⟩) a0.length a0.length) (fl a0) := F_x0_w7.step hb8
  have T_x0_w8 : w4.heap.size ≤ w8.heap.size := Nat.le_trans T_x0_w7 hb8.size
  have F_x1_w8 : In w8 w4.heap.size w5.heap.size (.slice (some ⟨g5, 0, none⟩) a1.length a1.length) (fl a1) := F_x1_w7.step hb8
  have T_x1_w8 : w5.heap.size ≤ w8.heap.size := Nat.le_trans T_x1_w7 hb8.size
  have F_g0_w8 : In w8 w5.heap.size w6.heap.size g0 (fl L0) := F_g0_w7.step hb8
  have T_g0_w8 : w6.heap.size ≤ w8.heap.size := Nat.le_trans T_g0_w7 hb8.size
  have B_w8 : Below w.heap.size w w8 := B_w7.trans (hb8.mono B_w7.size)
  have S_d0 : w.heap.size ≤ w7.heap.size := B_w7.size
  have D_r0_d0 : w3.heap.size ≤ w7.heap.size := T_r0_w7
  have D_x0_d0 : w4.heap.size ≤ w7.heap.size := T_x0_w7
  have D_x1_d0 : w5.heap.size ≤ w7.heap.size := T_x1_w7
  have D_g0_d0 : w6.heap.size ≤ w7.heap.size := T_g0_w7
  clear F_a0_w7 F_a1_w7 F_r0_w7 T_r0_w7 F_x0_w7 T_x0_w7 F_x1_w7 T_x1_w7 F_g0_w7 T_g0_w7 B_w7
  have F_d0_w8 : In w8 w7.heap.size w8.heap.size (.slice (some ⟨g8, 0, none⟩) a0.length a0.length) (fl a0) := In.made O8
  have T_d0_w8 : w8.heap.size ≤ w8.heap.size := Nat.le_refl _
  clear O8
  clear hb8
  go_wp2_with fail
  refine (eqF_any _ _ a0 a0 _ _ F_x0_w8.rd F_d0_w8.rd (Worth.refl _) hm0).mono ?_
  rintro e w9 ⟨rfl, q9, hw9⟩
  have hb9 : Below w8.heap.size w8 w9 := by rw [hw9]; exact below_drawn (Below.refl _ _) _
  clear hw9
  have F_a0_w9 : Rd w9 w.heap.size (.slice A0 a0.length c0) (fl a0) := F_a0_w8.below (hb9.mono B_w8.size)
  have F_a1_w9 : Rd w9 w.heap.size (.slice A1 a1.length c1) (fl a1) := F_a1_w8.below (hb9.mono B_w8.size)
  have F_r0_w9 : In w9 w2.heap.size w3.heap.size r0 (fl L0) := F_r0_w8.step hb9
  have T_r0_w9 : w3.heap.size ≤ w9.heap.size := Nat.le_trans T_r0_w8 hb9.size
  have F_x0_w9 : In w9 w3.heap.size w4.heap.size (.slice (some ⟨g4, 0, none⟩) a0.length a0.length) (fl a0) := F_x0_w8.step hb9
  have T_x0_w9 : w4.heap.size ≤ w9.heap.size := Nat.le_trans T_x0_w8 hb9.size
  have F_x1_w9 : In w9 w4.heap.size w5.heap.size (.slice (some ⟨g5, 0, none⟩) a1.length a1.length) (fl a1) := F_x1_w8.step hb9
  have T_x1_w9 : w5.heap.size ≤ w9.heap.size := Nat.le_trans T_x1_w8 hb9.size
  have F_g0_w9 : In w9 w5.heap.size w6.heap.size g0 (fl L0) := F_g0_w8.step hb9
  have T_g0_w9 : w6.heap.size ≤ w9.heap.size := Nat.le_trans T_g0_w8 hb9.size
  have F_d0_w9 : In w9 w7.heap.size w8.heap.size (.slice (some ⟨g8, 0, none⟩) a0.length a0.length) (fl a0) := F_d0_w8.step hb9
  have T_d0_w9 : w8.heap.size ≤ w9.heap.size := Nat.le_trans T_d0_w8 hb9.size
  have B_w9 : Below w.heap.size w w9 := B_w8.trans (hb9.mono B_w8.size)
  clear F_a0_w8 F_a1_w8 F_r0_w8 T_r0_w8 F_x0_w8 T_x0_w8 F_x1_w8 T_x1_w8 F_g0_w8 T_g0_w8 F_d0_w8 T_d0_w8 B_w8
  clear hb9
  clear F_d0_w9 T_d0_w9
  go_wp2_with fail
  refine (toF_any _ a1 _ _ (F_a1_w9.more B_w9.size) (Nat.le_refl _) hm1).mono ?_
  rintro e w10 ⟨g10, rfl, P10, hb10⟩
  have O10 := Own.row P10
  clear P10
  have F_a0_w10 : Rd w10 w.heap.size (.slice A0 a0.length c0) (fl a0) := F_a0_w9.below (hb10.mono B_w9.size)
  have F_a1_w10 : Rd w10 w.heap.size (.slice A1 a1.length c1) (fl a1) := F_a1_w9.below (hb10.mono B_w9.size)
  have F_r0_w10 : In w10 w2.heap.size w3.heap.size r0 (fl L0) := F_r0_w9.step hb10
  have T_r0_w10 : w3.heap.size ≤ w10.heap.size := Nat.le_trans T_r0_w9 hb10.size
  have F_x0_w10 : In w10 w3.heap.size w4.heap.size (.slice (some ⟨g4, 0, none⟩) a0.length a0.length) (fl a0) := F_x0_w9.step hb10
  have T_x0_w10 : w4.heap.size ≤ w10.heap.size := Nat.le_trans T_x0_w9 hb10.size
  have F_x1_w10 : In w10 w4.heap.size w5.heap.size (.slice (some ⟨g5, 0, none⟩) a1.length a1.length) (fl a1) := F_x1_w9.step hb10
  have T_x1_w10 : w5.heap.size ≤ w10.heap.size := Nat.le_trans T_x1_w9 hb10.size
  have F_g0_w10 : In w10 w5.heap.size w6.heap.size g0 (fl L0) := F_g0_w9.step hb10
  have T_g0_w10 : w6.heap.size ≤ w10.heap.size := Nat.le_trans T_g0_w9 hb10.size
  have B_w10 : Below w.heap.size w w10 := B_w9.trans (hb10.mono B_w9.size)
  have S_d1 : w.heap.size ≤ w9.heap.size := B_w9.size
  have D_r0_d1 : w3.heap.size ≤ w9.heap.size := T_r0_w9
  have D_x0_d1 : w4.heap.size ≤ w9.heap.size := T_x0_w9
  have D_x1_d1 : w5.heap.size ≤ w9.heap.size := T_x1_w9
  have D_g0_d1 : w6.heap.size ≤ w9.heap.size := T_g0_w9
  clear F_a0_w9 F_a1_w9 F_r0_w9 T_r0_w9 F_x0_w9 T_x0_w9 F_x1_w9 T_x1_w9 F_g0_w9 T_g0_w9 B_w9
  have F_d1_w10 : In w10 w9.heap.size w10.heap.size (.slice (some ⟨g10, 0, none⟩) a1.length a1.length) (fl a1) := In.made O10
  have T_d1_w10 : w10.heap.size ≤ w10.heap.size := Nat.le_refl _
  clear O10
  clear hb10
  go_wp2_with fail
  refine (eqF_any _ _ a1 a1 _ _ F_x1_w10.rd F_d1_w10.rd (Worth.refl _) hm1).mono ?_
  rintro e w11 ⟨rfl, q11, hw11⟩
  have hb11 : Below w10.heap.size w10 w11 := by rw [hw11]; exact below_drawn (Below.refl _ _) _
  clear hw11
  have F_a0_w11 : Rd w11 w.heap.size (.slice A0 a0.length c0) (fl a0) := F_a0_w10.below (hb11.mono B_w10.size)
  have F_a1_w11 : Rd w11 w.heap.size (.slice A1 a1.length c1) (fl a1) := F_a1_w10.below (hb11.mono B_w10.size)
  have F_r0_w11 : In w11 w2.heap.size w3.heap.size r0 (fl L0) := F_r0_w10.step hb11
  have T_r0_w11 : w3.heap.size ≤ w11.heap.size := Nat.le_trans T_r0_w10 hb11.size
  have F_x0_w11 : In w11 w3.heap.size w4.heap.size (.slice (some ⟨g4, 0, none⟩) a0.length a0.length) (fl a0) := F_x0_w10.step hb11
  have T_x0_w11 : w4.heap.size ≤ w11.heap.size := Nat.le_trans T_x0_w10 hb11.size
  have F_x1_w11 : In w11 w4.heap.size w5.heap.size (.slice (some ⟨g5, 0, none⟩) a1.length a1.length) (fl a1) := F_x1_w10.step hb11
  have T_x1_w11 : w5.heap.size ≤ w11.heap.size := Nat.le_trans T_x1_w10 hb11.size
  have F_g0_w11 : In w11 w5.heap.size w6.heap.size g0 (fl L0) := F_g0_w10.step hb11
  have T_g0_w11 : w6.heap.size ≤ w11.heap.size := Nat.le_trans T_g0_w10 hb11.size
  have F_d1_w11 : In w11 w9.heap.size w10.heap.size (.slice (some ⟨g10, 0, none⟩) a1.length a1.length) (fl a1) := F_d1_w10.step hb11
  have T_d1_w11 : w10.heap.size ≤ w11.heap.size := Nat.le_trans T_d1_w10 hb11.size
  have B_w11 : Below w.heap.size w w11 := B_w10.trans (hb11.mono B_w10.size)
  clear F_a0_w10 F_a1_w10 F_r0_w10 T_r0_w10 F_x0_w10 T_x0_w10 F_x1_w10 T_x1_w10 F_g0_w10 T_g0_w10 F_d1_w10 T_d1_w10 B_w10
  clear hb11
  clear F_d1_w11 T_d1_w11
  go_wp2_with fail
  refine (markF_any _ a0 _ _ _ F_x0_w11.1 hm0 (by omega) (by omega)).mono ?_
  rintro e w12 ⟨rfl, hw12⟩
  have ht12 : Tw w3.heap.size w4.heap.size w11 w12 := by rw [hw12]; exact over_tw F_x0_w11.1 F_x0_w11.2 _
  have NF12 : In w12 w3.heap.size w4.heap.size (.slice (some ⟨g4, 0, none⟩) a0.length a0.length) ((List.range a0.length).map (mkF (1))) := by rw [hw12]; have := F_x0_w11.over (mkF (1)); rw [fl_len] at this; exact this
  clear hw12
  have F_a0_w12 : Rd w12 w.heap.size (.slice A0 a0.length c0) (fl a0) := F_a0_w11.tw ht12 S_x0 B_w11.size
  have F_a1_w12 : Rd w12 w.heap.size (.slice A1 a1.length c1) (fl a1) := F_a1_w11.tw ht12 S_x0 B_w11.size
  have F_r0_w12 : In w12 w2.heap.size w3.heap.size r0 (fl L0) := F_r0_w11.tw ht12 (.inl D_r0_x0)
  have T_r0_w12 : w3.heap.size ≤ w12.heap.size := Nat.le_trans T_r0_w11 ht12.size
  have F_x0_w12 : In w12 w3.heap.size w4.heap.size (.slice (some ⟨g4, 0, none⟩) a0.length a0.length) ((List.range a0.length).map (mkF (1))) := NF12
  have T_x0_w12 : w4.heap.size ≤ w12.heap.size := Nat.le_trans T_x0_w11 ht12.size
  have F_x1_w12 : In w12 w4.heap.size w5.heap.size (.slice (some ⟨g5, 0, none⟩) a1.length a1.length) (fl a1) := F_x1_w11.tw ht12 (.inr D_x0_x1)
  have T_x1_w12 : w5.heap.size ≤ w12.heap.size := Nat.le_trans T_x1_w11 ht12.size
  have F_g0_w12 : In w12 w5.heap.size w6.heap.size g0 (fl L0) := F_g0_w11.tw ht12 (.inr D_x0_g0)
  have T_g0_w12 : w6.heap.size ≤ w12.heap.size := Nat.le_trans T_g0_w11 ht12.size
  have B_w12 : Below w.heap.size w w12 := B_w11.trans (ht12.below S_x0 B_w11.size)
  clear F_a0_w11 F_a1_w11 F_r0_w11 T_r0_w11 F_x0_w11 T_x0_w11 F_x1_w11 T_x1_w11 F_g0_w11 T_g0_w11 B_w11
  clear ht12 NF12
  go_wp2_with fail
  refine (markF_any _ a1 _ _ _ F_x1_w12.1 hm1 (by omega) (by omega)).mono ?_
  rintro e w13 ⟨rfl, hw13⟩
  have ht13 : Tw w4.heap.size w5.heap.size w12 w13 := by rw [hw13]; exact over_tw F_x1_w12.1 F_x1_w12.2 _
  have NF13 : In w13 w4.heap.size w5.heap.size (.slice (some ⟨g5, 0, none⟩) a1.length a1.length) ((List.range a1.length).map (mkF (1 + a0.length))) := by rw [hw13]; have := F_x1_w12.over (mkF (1 + a0.length)); rw [fl_len] at this; exact this
  clear hw13
  have F_a0_w13 : Rd w13 w.heap.size (.slice A0 a0.length c0) (fl a0) := F_a0_w12.tw ht13 S_x1 B_w12.size
  have F_a1_w13 : Rd w13 w.heap.size (.slice A1 a1.length c1) (fl a1) := F_a1_w12.tw ht13 S_x1 B_w12.size
  have F_r0_w13 : In w13 w2.heap.size w3.heap.size r0 (fl L0) := F_r0_w12.tw ht13 (.inl D_r0_x1)
  have T_r0_w13 : w3.heap.size ≤ w13.heap.size := Nat.le_trans T_r0_w12 ht13.size
  have F_x0_w13 : In w13 w3.heap.size w4.heap.size (.slice (some ⟨g4, 0, none⟩) a0.length a0.length) ((List.range a0.length).map (mkF (1))) := F_x0_w12.tw ht13 (.inl D_x0_x1)
  have T_x0_w13 : w4.heap.size ≤ w13.heap.size := Nat.le_trans T_x0_w12 ht13.size
  have F_x1_w13 : In w13 w4.heap.size w5.heap.size (.slice (some ⟨g5, 0, none⟩) a1.length a1.length) ((List.range a1.length).map (mkF (1 + a0.length))) := NF13
  have T_x1_w13 : w5.heap.size ≤ w13.heap.size := Nat.le_trans T_x1_w12 ht13.size
  have F_g0_w13 : In w13 w5.heap.size w6.heap.size g0 (fl L0) := F_g0_w12.tw ht13 (.inr D_x1_g0)
  have T_g0_w13 : w6.heap.size ≤ w13.heap.size := Nat.le_trans T_g0_w12 ht13.size
  have B_w13 : Below w.heap.size w w13 := B_w12.trans (ht13.below S_x1 B_w12.size)
  clear F_a0_w12 F_a1_w12 F_r0_w12 T_r0_w12 F_x0_w12 T_x0_w12 F_x1_w12 T_x1_w12 F_g0_w12 T_g0_w12 B_w12
  clear ht13 NF13
  go_wp2_with fail
  refine (eqF_any _ _ L0 L0 _ _ F_g0_w13.rd F_r0_w13.rd (Worth.refl _) hL0).mono ?_
  rintro e w14 ⟨rfl, q14, hw14⟩
  have hb14 : Below w13.heap.size w13 w14 := by rw [hw14]; exact below_drawn (Below.refl _ _) _
  clear hw14
  have F_a0_w14 : Rd w14 w.heap.size (.slice A0 a0.length c0) (fl a0) := F_a0_w13.below (hb14.mono B_w13.size)
  have F_a1_w14 : Rd w14 w.heap.size (.slice A1 a1.length c1) (fl a1) := F_a1_w13.below (hb14.mono B_w13.size)
  have F_r0_w14 : In w14 w2.heap.size w3.heap.size r0 (fl L0) := F_r0_w13.step hb14
  have T_r0_w14 : w3.heap.size ≤ w14.heap.size := Nat.le_trans T_r0_w13 hb14.size
  have F_x0_w14 : In w14 w3.heap.size w4.heap.size (.slice (some ⟨g4, 0, none⟩) a0.length a0.length) ((List.range a0.length).map (mkF (1))) := F_x0_w13.step hb14
  have T_x0_w14 : w4.heap.size ≤ w14.heap.size := Nat.le_trans T_x0_w13 hb14.size
  have F_x1_w14 : In w14 w4.heap.size w5.heap.size (.slice (some ⟨g5, 0, none⟩) a1.length a1.length) ((List.range a1.length).map (mkF (1 + a0.length))) := F_x1_w13.step hb14
  have T_x1_w14 : w5.heap.size ≤ w14.heap.size := Nat.le_trans T_x1_w13 hb14.size
  have F_g0_w14 : In w14 w5.heap.size w6.heap.size g0 (fl L0) := F_g0_w13.step hb14
  have T_g0_w14 : w6.heap.size ≤ w14.heap.size := Nat.le_trans T_g0_w13 hb14.size
  have B_w14 : Below w.heap.size w w14 := B_w13.trans (hb14.mono B_w13.size)
  clear F_a0_w13 F_a1_w13 F_r0_w13 T_r0_w13 F_x0_w13 T_x0_w13 F_x1_w13 T_x1_w13 F_g0_w13 T_g0_w13 B_w13
  clear hb14
  go_wp2_with fail
  refine (markF_any _ L0 _ _ _ F_g0_w14.1 hL0 (by omega) (by omega)).mono ?_
  rintro e w15 ⟨rfl, hw15⟩
  have ht15 : Tw w5.heap.size w6.heap.size w14 w15 := by rw [hw15]; exact over_tw F_g0_w14.1 F_g0_w14.2 _
  have NF15 : In w15 w5.heap.size w6.heap.size g0 ((List.range L0.length).map (mkF (1))) := by rw [hw15]; have := F_g0_w14.over (mkF (1)); rw [fl_len] at this; exact this
  clear hw15
  have F_a0_w15 : Rd w15 w.heap.size (.slice A0 a0.length c0) (fl a0) := F_a0_w14.tw ht15 S_g0 B_w14.size
  have F_a1_w15 : Rd w15 w.heap.size (.slice A1 a1.length c1) (fl a1) := F_a1_w14.tw ht15 S_g0 B_w14.size
  have F_r0_w15 : In w15 w2.heap.size w3.heap.size r0 (fl L0) := F_r0_w14.tw ht15 (.inl D_r0_g0)
  have T_r0_w15 : w3.heap.size ≤ w15.heap.size := Nat.le_trans T_r0_w14 ht15.size
  have F_x0_w15 : In w15 w3.heap.size w4.heap.size (.slice (some ⟨g4, 0, none⟩) a0.length a0.length) ((List.range a0.length).map (mkF (1))) := F_x0_w14.tw ht15 (.inl D_x0_g0)
  have T_x0_w15 : w4.heap.size ≤ w15.heap.size := Nat.le_trans T_x0_w14 ht15.size
  have F_x1_w15 : In w15 w4.heap.size w5.heap.size (.slice (some ⟨g5, 0, none⟩) a1.length a1.length) ((List.range a1.length).map (mkF (1 + a0.length))) := F_x1_w14.tw ht15 (.inl D_x1_g0)
  have T_x1_w15 : w5.heap.size ≤ w15.heap.size := Nat.le_trans T_x1_w14 ht15.size
  have F_g0_w15 : In w15 w5.heap.size w6.heap.size g0 ((List.range L0.length).map (mkF (1))) := NF15
  have T_g0_w15 : w6.heap.size ≤ w15.heap.size := Nat.le_trans T_g0_w14 ht15.size
  have B_w15 : Below w.heap.size w w15 := B_w14.trans (ht15.below S_g0 B_w14.size)
  clear F_a0_w14 F_a1_w14 F_r0_w14 T_r0_w14 F_x0_w14 T_x0_w14 F_x1_w14 T_x1_w14 F_g0_w14 T_g0_w14 B_w14
  clear ht15 NF15
  go_wp2_with fail
  refine (heldF_any _ L0.length _ _ _ F_g0_w15.rd hL0 (by omega) (by omega)).mono ?_
  rintro e w' ⟨rfl, rfl⟩
  go_wp2_with fail
  refine (toF_any _ a0 _ _ (F_a0_w15.more B_w15.size) (Nat.le_refl _) hm0).mono ?_
  rintro e w16 ⟨g16, rfl, P16, hb16⟩
  have O16 := Own.row P16
  clear P16
  have F_a0_w16 : Rd w16 w.heap.size (.slice A0 a0.length c0) (fl a0) := F_a0_w15.below (hb16.mono B_w15.size)
  have F_a1_w16 : Rd w16 w.heap.size (.slice A1 a1.length c1) (fl a1) := F_a1_w15.below (hb16.mono B_w15.size)
  have F_r0_w16 : In w16 w2.heap.size w3.heap.size r0 (fl L0) := F_r0_w15.step hb16
  have T_r0_w16 : w3.heap.size ≤ w16.heap.size := Nat.le_trans T_r0_w15 hb16.size
  have F_x0_w16 : In w16 w3.heap.size w4.heap.size (.slice (some ⟨g4, 0, none⟩) a0.length a0.length) ((List.range a0.length).map (mkF (1))) := F_x0_w15.step hb16
  have T_x0_w16 : w4.heap.size ≤ w16.heap.size := Nat.le_trans T_x0_w15 hb16.size
  have F_x1_w16 : In w16 w4.heap.size w5.heap.size (.slice (some ⟨g5, 0, none⟩) a1.length a1.length) ((List.range a1.length).map (mkF (1 + a0.length))) := F_x1_w15.step hb16
  have T_x1_w16 : w5.heap.size ≤ w16.heap.size := Nat.le_trans T_x1_w15 hb16.size
  have F_g0_w16 : In w16 w5.heap.size w6.heap.size g0 ((List.range L0.length).map (mkF (1))) := F_g0_w15.step hb16
  have T_g0_w16 : w6.heap.size ≤ w16.heap.size := Nat.le_trans T_g0_w15 hb16.size
  have B_w16 : Below w.heap.size w w16 := B_w15.trans (hb16.mono B_w15.size)
  have S_y0 : w.heap.size ≤ w15.heap.size := B_w15.size
  have D_r0_y0 : w3.heap.size ≤ w15.heap.size := T_r0_w15
  have D_x0_y0 : w4.heap.size ≤ w15.heap.size := T_x0_w15
  have D_x1_y0 : w5.heap.size ≤ w15.heap.size := T_x1_w15
  have D_g0_y0 : w6.heap.size ≤ w15.heap.size := T_g0_w15
  clear F_a0_w15 F_a1_w15 F_r0_w15 T_r0_w15 F_x0_w15 T_x0_w15 F_x1_w15 T_x1_w15 F_g0_w15 T_g0_w15 B_w15
  have F_y0_w16 : In w16 w15.heap.size w16.heap.size (.slice (some ⟨g16, 0, none⟩) a0.length a0.length) (fl a0) := In.made O16
  have T_y0_w16 : w16.heap.size ≤ w16.heap.size := Nat.le_refl _
  clear O16
  clear hb16
  go_wp2_with fail
  refine (toF_any _ a1 _ _ (F_a1_w16.more B_w16.size) (Nat.le_refl _) hm1).mono ?_
  rintro e w17 ⟨g17, rfl, P17, hb17⟩
  have O17 := Own.row P17
  clear P17
  have F_a0_w17 : Rd w17 w.heap.size (.slice A0 a0.length c0) (fl a0) := F_a0_w16.below (hb17.mono B_w16.size)
  have F_a1_w17 : Rd w17 w.heap.size (.slice A1 a1.length c1) (fl a1) := F_a1_w16.below (hb17.mono B_w16.size)
  have F_r0_w17 : In w17 w2.heap.size w3.heap.size r0 (fl L0) := F_r0_w16.step hb17
  have T_r0_w17 : w3.heap.size ≤ w17.heap.size := Nat.le_trans T_r0_w16 hb17.size
  have F_x0_w17 : In w17 w3.heap.size w4.heap.size (.slice (some ⟨g4, 0, none⟩) a0.length a0.length) ((List.range a0.length).map (mkF (1))) := F_x0_w16.step hb17
  have T_x0_w17 : w4.heap.size ≤ w17.heap.size := Nat.le_trans T_x0_w16 hb17.size
  have F_x1_w17 : In w17 w4.heap.size w5.heap.size (.slice (some ⟨g5, 0, none⟩) a1.length a1.length) ((List.range a1.length).map (mkF (1 + a0.length))) := F_x1_w16.step hb17
  have T_x1_w17 : w5.heap.size ≤ w17.heap.size := Nat.le_trans T_x1_w16 hb17.size
  have F_g0_w17 : In w17 w5.heap.size w6.heap.size g0 ((List.range L0.length).map (mkF (1))) := F_g0_w16.step hb17
  have T_g0_w17 : w6.heap.size ≤ w17.heap.size := Nat.le_trans T_g0_w16 hb17.size
  have F_y0_w17 : In w17 w15.heap.size w16.heap.size (.slice (some ⟨g16, 0, none⟩) a0.length a0.length) (fl a0) := F_y0_w16.step hb17
  have T_y0_w17 : w16.heap.size ≤ w17.heap.size := Nat.le_trans T_y0_w16 hb17.size
  have B_w17 : Below w.heap.size w w17 := B_w16.trans (hb17.mono B_w16.size)
  have S_y1 : w.heap.size ≤ w16.heap.size := B_w16.size
  have D_r0_y1 : w3.heap.size ≤ w16.heap.size := T_r0_w16
  have D_x0_y1 : w4.heap.size ≤ w16.heap.size := T_x0_w16
  have D_x1_y1 : w5.heap.size ≤ w16.heap.size := T_x1_w16
  have D_g0_y1 : w6.heap.size ≤ w16.heap.size := T_g0_w16
  have D_y0_y1 : w16.heap.size ≤ w16.heap.size := T_y0_w16
  clear F_a0_w16 F_a1_w16 F_r0_w16 T_r0_w16 F_x0_w16 T_x0_w16 F_x1_w16 T_x1_w16 F_g0_w16 T_g0_w16 F_y0_w16 T_y0_w16 B_w16
  have F_y1_w17 : In w17 w16.heap.size w17.heap.size (.slice (some ⟨g17, 0, none⟩) a1.length a1.length) (fl a1) := In.made O17
  have T_y1_w17 : w17.heap.size ≤ w17.heap.size := Nat.le_refl _
  clear O17
  clear hb17
  go_wp2_with fail
  refine (HI.out _ _ _ F_y0_w17.rd F_y1_w17.rd).mono ?_
  rintro e w18 ⟨h0, rfl, O18x0, hb18⟩
  have F_a0_w18 : Rd w18 w.heap.size (.slice A0 a0.length c0) (fl a0) := F_a0_w17.below (hb18.mono B_w17.size)
  have F_a1_w18 : Rd w18 w.heap.size (.slice A1 a1.length c1) (fl a1) := F_a1_w17.below (hb18.mono B_w17.size)
  have F_r0_w18 : In w18 w2.heap.size w3.heap.size r0 (fl L0) := F_r0_w17.step hb18
  have T_r0_w18 : w3.heap.size ≤ w18.heap.size := Nat.le_trans T_r0_w17 hb18.size
  have F_x0_w18 : In w18 w3.heap.size w4.heap.size (.slice (some ⟨g4, 0, none⟩) a0.length a0.length) ((List.range a0.length).map (mkF (1))) := F_x0_w17.step hb18
  have T_x0_w18 : w4.heap.size ≤ w18.heap.size := Nat.le_trans T_x0_w17 hb18.size
  have F_x1_w18 : In w18 w4.heap.size w5.heap.size (.slice (some ⟨g5, 0, none⟩) a1.length a1.length) ((List.range a1.length).map (mkF (1 + a0.length))) := F_x1_w17.step hb18
  have T_x1_w18 : w5.heap.size ≤ w18.heap.size := Nat.le_trans T_x1_w17 hb18.size
  have F_g0_w18 : In w18 w5.heap.size w6.heap.size g0 ((List.range L0.length).map (mkF (1))) := F_g0_w17.step hb18
  have T_g0_w18 : w6.heap.size ≤ w18.heap.size := Nat.le_trans T_g0_w17 hb18.size
  have F_y0_w18 : In w18 w15.heap.size w16.heap.size (.slice (some ⟨g16, 0, none⟩) a0.length a0.length) (fl a0) := F_y0_w17.step hb18
  have T_y0_w18 : w16.heap.size ≤ w18.heap.size := Nat.le_trans T_y0_w17 hb18.size
  have F_y1_w18 : In w18 w16.heap.size w17.heap.size (.slice (some ⟨g17, 0, none⟩) a1.length a1.length) (fl a1) := F_y1_w17.step hb18
  have T_y1_w18 : w17.heap.size ≤ w18.heap.size := Nat.le_trans T_y1_w17 hb18.size
  have B_w18 : Below w.heap.size w w18 := B_w17.trans (hb18.mono B_w17.size)
  have S_h0 : w.heap.size ≤ w17.heap.size := B_w17.size
  have D_r0_h0 : w3.heap.size ≤ w17.heap.size := T_r0_w17
  have D_x0_h0 : w4.heap.size ≤ w17.heap.size := T_x0_w17
  have D_x1_h0 : w5.heap.size ≤ w17.heap.size := T_x1_w17
  have D_g0_h0 : w6.heap.size ≤ w17.heap.size := T_g0_w17
  have D_y0_h0 : w16.heap.size ≤ w17.heap.size := T_y0_w17
  have D_y1_h0 : w17.heap.size ≤ w17.heap.size := T_y1_w17
  clear F_a0_w17 F_a1_w17 F_r0_w17 T_r0_w17 F_x0_w17 T_x0_w17 F_x1_w17 T_x1_w17 F_g0_w17 T_g0_w17 F_y0_w17 T_y0_w17 F_y1_w17 T_y1_w17 B_w17
  have F_h0_w18 : In w18 w17.heap.size w18.heap.size h0 (fl L0) := In.made O18x0
  have T_h0_w18 : w18.heap.size ≤ w18.heap.size := Nat.le_refl _
  clear O18x0
  clear hb18
  clear F_y0_w18 T_y0_w18 F_y1_w18 T_y1_w18
  go_wp2_with fail
  refine (eqF_any _ _ L0 L0 _ _ F_h0_w18.rd F_r0_w18.rd (Worth.refl _) hL0).mono ?_
  rintro e w19 ⟨rfl, q19, hw19⟩
  have hb19 : Below w18.heap.size w18 w19 := by rw [hw19]; exact below_drawn (Below.refl _ _) _
  clear hw19
  have F_a0_w19 : Rd w19 w.heap.size (.slice A0 a0.length c0) (fl a0) := F_a0_w18.below (hb19.mono B_w18.size)
  have F_a1_w19 : Rd w19 w.heap.size (.slice A1 a1.length c1) (fl a1) := F_a1_w18.below (hb19.mono B_w18.size)
  have F_r0_w19 : In w19 w2.heap.size w3.heap.size r0 (fl L0) := F_r0_w18.step hb19
  have T_r0_w19 : w3.heap.size ≤ w19.heap.size := Nat.le_trans T_r0_w18 hb19.size
  have F_x0_w19 : In w19 w3.heap.size w4.heap.size (.slice (some ⟨g4, 0, none⟩) a0.length a0.length) ((List.range a0.length).map (mkF (1))) := F_x0_w18.step hb19
  have T_x0_w19 : w4.heap.size ≤ w19.heap.size := Nat.le_trans T_x0_w18 hb19.size
  have F_x1_w19 : In w19 w4.heap.size w5.heap.size (.slice (some ⟨g5, 0, none⟩) a1.length a1.length) ((List.range a1.length).map (mkF (1 + a0.length))) := F_x1_w18.step hb19
  have T_x1_w19 : w5.heap.size ≤ w19.heap.size := Nat.le_trans T_x1_w18 hb19.size
  have F_g0_w19 : In w19 w5.heap.size w6.heap.size g0 ((List.range L0.length).map (mkF (1))) := F_g0_w18.step hb19
  have T_g0_w19 : w6.heap.size ≤ w19.heap.size := Nat.le_trans T_g0_w18 hb19.size
  have F_h0_w19 : In w19 w17.heap.size w18.heap.size h0 (fl L0) := F_h0_w18.step hb19
  have T_h0_w19 : w18.heap.size ≤ w19.heap.size := Nat.le_trans T_h0_w18 hb19.size
  have B_w19 : Below w.heap.size w w19 := B_w18.trans (hb19.mono B_w18.size)
  clear F_a0_w18 F_a1_w18 F_r0_w18 T_r0_w18 F_x0_w18 T_x0_w18 F_x1_w18 T_x1_w18 F_g0_w18 T_g0_w18 F_h0_w18 T_h0_w18 B_w18
  clear hb19
  go_wp2_with fail
  refine (heldF_any _ L0.length _ _ _ F_g0_w19.rd hL0 (by omega) (by omega)).mono ?_
  rintro e w' ⟨rfl, rfl⟩
  go_wp2_with fail
  go_ret
  exact ⟨rfl, B_w19⟩

namespace fnExactSmoothLine
open Go.ChangeShapes Go.WideShapes Go.ChangeAt Go.RowKit
open Go.ChangeMaps (open_string)
set_option linter.unusedVariables false
theorem own : ownKnob Try.prog.godebug = none := by kernel_rfl
theorem laidOut : laidOutB Try.prog = true := by kernel_rfl
set_option maxRecDepth 100000 in
theorem lifted (os : Os) (started : os.Started) (H : Type) (enc : TypeId × Value → H) :
    ReturnsInHanded {} Try.checked os 10 .any (Rows.fnExactSmoothLineSpec.pre6 enc Try.prog Try.f10 Rows.fnExactSmoothLineRow.domain false) (Rows.fnExactSmoothLineSpec.post enc Try.prog Try.f10 false true false false) := by
  refine returnsInHanded_of_change (C := Try.checked) own started (by kernel_rfl) Try.func10
    (ChangeSpec.witness6 (enc := enc) (C := Try.checked) false ⟨#[], #[.slice none 0 0, .slice none 0 0, .float .f32 0, .int .i64 0], []⟩ 8 (by kernel_rfl) (by kernel_rfl) (by kernel_rfl) (by kernel_rfl)) ?_
  intro W base args ds gs before hval0 hW hcnd _
  have hval : ∀ (j : Nat) t v, Try.f10.params[j]? = some t → args[j]? = some v → Value.okWide Try.prog W .any base t v := hval0
  have hW' := hW
  have hlt0 := hW.lt
  obtain ⟨p, q, hA0, hV, rfl, hfz, hnd⟩ := hW
  have hA : DataW.TrodAll enc Try.prog W 0 (fun _ => true) true Try.f10.params.toList args.toList ds p := hA0
  have hAk := hA
  have hltp : ∀ x ∈ p, x.block < W.heap.size := fun x hx => hlt0 x (List.mem_append_left _ hx)
  have hread : ∀ t ∈ Try.f10.params.toList, Try.prog.readableRec t = true ∧ t < Try.prog.types.size := by
    rw [Try.params10]
    intro t ht
    simp only [List.mem_cons, List.not_mem_nil, or_false] at ht
    rcases ht with rfl | rfl | rfl | rfl <;> exact ⟨by kernel_rfl, of_decide_eq_true (by kernel_rfl)⟩
  rw [Try.params10] at hA hval
  obtain ⟨v0, vs0, d0, ds0, p0, q0, hargs, rfl, rfl, h0, r0⟩ := trodAll_cons hA
  obtain ⟨v1, vs1, d1, ds1, p1, q1, rfl, rfl, rfl, h1, r1⟩ := trodAll_cons r0
  obtain ⟨v2, vs2, d2, ds2, p2, q2, rfl, rfl, rfl, h2, r2⟩ := trodAll_cons r1
  obtain ⟨v3, vs3, d3, ds3, p3, q3, rfl, rfl, rfl, h3, r3⟩ := trodAll_cons r2
  obtain ⟨rfl, rfl, rfl⟩ := trodAll_nil r3
  obtain rfl : args = #[v0, v1, v2, v3] := by cases args; simp_all
  obtain ⟨rfl, rfl⟩ := trodVars_none hV
  obtain ⟨a0, g0, w0⟩ := open_floats Try.underlying35 Try.underlying47 (by kernel_rfl) (hval 0 35 v0 rfl rfl) h0 (fun x hx => hltp x (by simp [hx]))
  obtain ⟨a1, g1, w1⟩ := open_floats Try.underlying35 Try.underlying47 (by kernel_rfl) (hval 1 35 v1 rfl rfl) h1 (fun x hx => hltp x (by simp [hx]))
  obtain ⟨a2, rfl, rfl, rfl, w2⟩ := open_float Try.underlying47 (hval 2 47 v2 rfl rfl) h2
  obtain ⟨a3, rfl, rfl, rfl, w3⟩ := open_int Try.underlying2 (hval 3 2 v3 rfl rfl) h3
  clear hA0 hval0
  refine (walk W v0 a0 g0 w0 v1 a1 g1 w1 a2 w2 a3 w3).mono fun e W' ⟨he, hg⟩ => ?_
  subst he
  exact ⟨_, rfl, post_grown (pv := []) hW' hg (fun _ _ _ => (trodAll_cons_mk (shut_bool Try.underlying4 _) trodAll_mk0)) (trodAll_low laidOut hg _ _ _ _ hread hltp hAk) rfl rfl⟩

theorem over : Rows.fnExactSmoothLineRow.holds Try.pinned (OpenSpec.ofChange Rows.fnExactSmoothLineSpec) :=
  OpenClaim.holds_of_wide 10 Try.f10 rfl rfl rfl rfl rfl rfl rfl ⟨rfl, rfl, rfl, rfl, rfl⟩ rfl rfl rfl rfl rfl (by kernel_rfl) Try.func10 (by kernel_rfl)
    (of_decide_eq_true (by kernel_rfl)) (by unfold Func.isWrapper; first | (rw [if_pos (by decide +kernel)]; kernel_rfl) | (rw [if_neg (by decide +kernel)]; exact ⟨rfl, rfl⟩))
    (fun os started H enc _ => lifted os started H enc)

theorem proved : Rows.FnExactSmoothLineSaid := over
end fnExactSmoothLine
end Go.Proofs.Ytfcegkighjnmeaa
