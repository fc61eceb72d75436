/-
  At any kind and any list, LiftIntegers answers as its model does, leaves the list as it was, and answers in memory of its own.
-/
import Derived.Test.YteogogcjndfkoaaRows
import Derived.ProofKit
import Derived.OpenShut
import Derived.WalkLawsBesides
import Derived.KernelRfl
import Derived.Test.YteogogcjndfkoaaLiftB
namespace Go.Proofs.Yteogogcjndfkoaa
open Go.RowKit
set_option linter.unusedVariables false
theorem fnExactLiftIntegers.walk (w : World) (a0 : Int) (w0 : (Lit.int .i64 a0).wf = true) (v1 : Value) (a1 : List Int) (h1 : Rd w w.heap.size v1 (il a1)) (w1 : ∀ x ∈ a1, (Lit.int .i64 x).wf = true) :
    Calls Try.prog 7 #[.int .i64 a0, v1] w fun e w' => e = .returned (.bool true) ∧ Below w.heap.size w w' := by
  have hle := h1.le
  rw [il_len] at hle
  unfold maxLen at hle
  by_cases hbig : 1048576 < a1.length
  · obtain ⟨A, c, hv, _, _, _⟩ := h1
    rw [il_len] at hv
    subst hv
    go_enter Try.func7, Try.ntmps7
    go_wp2_with fail
    go_ret
    exact ⟨rfl, Below.refl _ _⟩
  have hm : a1.length ≤ 1048576 := by omega
  have hm1 : (liE a0 a1).length ≤ 1048576 := by have := liE_len a0 a1; omega
  have hm2 : (liO a0 a1).length ≤ 1048576 := by have := liO_len a0 a1; omega
  obtain ⟨A1, c1, hv1, hc11, hc12, hcell1⟩ := id h1
  rw [il_len] at hv1
  clear hcell1
  subst hv1
  go_enter Try.func7, Try.ntmps7
  have B_0 : Below w.heap.size w w := Below.refl _ _
  go_wp2_with fail
  refine (toI_any _ a1 _ _ h1 (Nat.le_refl _) hm).mono ?_
  rintro e w1 ⟨g1, rfl, O1, hb1⟩
  have A1x0x0 : Apart (.slice (some ⟨g1, 0, none⟩) a1.length a1.length) (.slice A1 a1.length c1) := apart_of O1 h1 (Nat.le_refl _)
  have S1 : w.heap.size ≤ w.heap.size := B_0.size
  have h1_1 : Rd w1 w1.heap.size (.slice A1 a1.length c1) (il a1) := h1.step hb1
  have B_1 : Below w.heap.size w w1 := B_0.trans (hb1.mono B_0.size)
  clear h1 B_0
  clear hb1
  go_wp2_with fail
  refine (liS_any a0 _ _ _ O1.rd hm).mono ?_
  rintro e w2 ⟨v2, u2, rfl, O2v, O2u, Q2x1x0, hb2⟩
  have A2x0x2 : Apart v2 (.slice A1 a1.length c1) := apart_of O2v h1_1 (Nat.le_refl _)
  have A2x0x4 : Apart v2 (.slice (some ⟨g1, 0, none⟩) a1.length a1.length) := apart_of O2v O1.rd (Nat.le_refl _)
  have A2x1x6 : Apart u2 (.slice A1 a1.length c1) := apart_of O2u h1_1 (Nat.le_refl _)
  have A2x1x8 : Apart u2 (.slice (some ⟨g1, 0, none⟩) a1.length a1.length) := apart_of O2u O1.rd (Nat.le_refl _)
  have S2 : w.heap.size ≤ w1.heap.size := B_1.size
  have h1_2 : Rd w2 w2.heap.size (.slice A1 a1.length c1) (il a1) := h1_1.step hb2
  have O1_2 : Own w2 w.heap.size (.slice (some ⟨g1, 0, none⟩) a1.length a1.length) (il a1) := O1.below hb2
  have B_2 : Below w.heap.size w w2 := B_1.trans (hb2.mono B_1.size)
  clear h1_1 O1 B_1
  clear hb2
  go_wp2_with fail
  refine (toI_any _ a1 _ _ h1_2 (Nat.le_refl _) hm).mono ?_
  rintro e w3 ⟨g3, rfl, O3, hb3⟩
  have A3x0x12 : Apart (.slice (some ⟨g3, 0, none⟩) a1.length a1.length) (.slice A1 a1.length c1) := apart_of O3 h1_2 (Nat.le_refl _)
  have A3x0x14 : Apart (.slice (some ⟨g3, 0, none⟩) a1.length a1.length) (.slice (some ⟨g1, 0, none⟩) a1.length a1.length) := apart_of O3 O1_2.rd (Nat.le_refl _)
  have A3x0x16 : Apart (.slice (some ⟨g3, 0, none⟩) a1.length a1.length) v2 := apart_of O3 O2v.rd (Nat.le_refl _)
  have A3x0x18 : Apart (.slice (some ⟨g3, 0, none⟩) a1.length a1.length) u2 := apart_of O3 O2u.rd (Nat.le_refl _)
  have S3 : w.heap.size ≤ w2.heap.size := B_2.size
  have h1_3 : Rd w3 w3.heap.size (.slice A1 a1.length c1) (il a1) := h1_2.step hb3
  have O1_3 : Own w3 w.heap.size (.slice (some ⟨g1, 0, none⟩) a1.length a1.length) (il a1) := O1_2.below hb3
  have O2v_3 : Own w3 w1.heap.size v2 (il (liE a0 a1)) := O2v.below hb3
  have O2u_3 : Own w3 w1.heap.size u2 (il (liO a0 a1)) := O2u.below hb3
  have B_3 : Below w.heap.size w w3 := B_2.trans (hb3.mono B_2.size)
  clear h1_2 O1_2 O2v O2u B_2
  clear hb3
  go_wp2_with fail
  refine (liI_any a0 _ _ _ O3.rd hm).mono ?_
  rintro e w4 ⟨v4, u4, rfl, O4v, O4u, Q4x1x0, hb4⟩
  have A4x0x20 : Apart v4 (.slice A1 a1.length c1) := apart_of O4v h1_3 (Nat.le_refl _)
  have A4x0x22 : Apart v4 (.slice (some ⟨g1, 0, none⟩) a1.length a1.length) := apart_of O4v O1_3.rd (Nat.le_refl _)
  have A4x0x24 : Apart v4 v2 := apart_of O4v O2v_3.rd (Nat.le_refl _)
  have A4x0x26 : Apart v4 u2 := apart_of O4v O2u_3.rd (Nat.le_refl _)
  have A4x0x28 : Apart v4 (.slice (some ⟨g3, 0, none⟩) a1.length a1.length) := apart_of O4v O3.rd (Nat.le_refl _)
  have A4x1x30 : Apart u4 (.slice A1 a1.length c1) := apart_of O4u h1_3 (Nat.le_refl _)
  have A4x1x32 : Apart u4 (.slice (some ⟨g1, 0, none⟩) a1.length a1.length) := apart_of O4u O1_3.rd (Nat.le_refl _)
  have A4x1x34 : Apart u4 v2 := apart_of O4u O2v_3.rd (Nat.le_refl _)
  have A4x1x36 : Apart u4 u2 := apart_of O4u O2u_3.rd (Nat.le_refl _)
  have A4x1x38 : Apart u4 (.slice (some ⟨g3, 0, none⟩) a1.length a1.length) := apart_of O4u O3.rd (Nat.le_refl _)
  have S4 : w.heap.size ≤ w3.heap.size := B_3.size
  have h1_4 : Rd w4 w4.heap.size (.slice A1 a1.length c1) (il a1) := h1_3.step hb4
  have O1_4 : Own w4 w.heap.size (.slice (some ⟨g1, 0, none⟩) a1.length a1.length) (il a1) := O1_3.below hb4
  have O2v_4 : Own w4 w1.heap.size v2 (il (liE a0 a1)) := O2v_3.below hb4
  have O2u_4 : Own w4 w1.heap.size u2 (il (liO a0 a1)) := O2u_3.below hb4
  have O3_4 : Own w4 w2.heap.size (.slice (some ⟨g3, 0, none⟩) a1.length a1.length) (il a1) := O3.below hb4
  have B_4 : Below w.heap.size w w4 := B_3.trans (hb4.mono B_3.size)
  clear h1_3 O1_3 O2v_3 O2u_3 O3 B_3
  clear hb4
  go_wp2_with fail
  refine (eqI_any _ _ (liE a0 a1) _ _ _ O4v.rd O2v_4.rd hm1).mono ?_
  rintro e w5 ⟨rfl, n5, hw5⟩
  have h1_5 : Rd w5 w5.heap.size (.slice A1 a1.length c1) (il a1) := by subst hw5; exact h1_4
  have O1_5 : Own w5 w.heap.size (.slice (some ⟨g1, 0, none⟩) a1.length a1.length) (il a1) := by subst hw5; exact O1_4
  have O2v_5 : Own w5 w1.heap.size v2 (il (liE a0 a1)) := by subst hw5; exact O2v_4
  have O2u_5 : Own w5 w1.heap.size u2 (il (liO a0 a1)) := by subst hw5; exact O2u_4
  have O3_5 : Own w5 w2.heap.size (.slice (some ⟨g3, 0, none⟩) a1.length a1.length) (il a1) := by subst hw5; exact O3_4
  have O4v_5 : Own w5 w3.heap.size v4 (il (liE a0 a1)) := by subst hw5; exact O4v
  have O4u_5 : Own w5 w3.heap.size u4 (il (liO a0 a1)) := by subst hw5; exact O4u
  have B_5 : Below w.heap.size w w5 := by subst hw5; exact below_drawn B_4 _
  clear h1_4 O1_4 O2v_4 O2u_4 O3_4 O4v O4u B_4
  clear hw5
  go_wp2_with fail
  refine (eqI_any _ _ (liO a0 a1) _ _ _ O4u_5.rd O2u_5.rd hm2).mono ?_
  rintro e w6 ⟨rfl, n6, hw6⟩
  have h1_6 : Rd w6 w6.heap.size (.slice A1 a1.length c1) (il a1) := by subst hw6; exact h1_5
  have O1_6 : Own w6 w.heap.size (.slice (some ⟨g1, 0, none⟩) a1.length a1.length) (il a1) := by subst hw6; exact O1_5
  have O2v_6 : Own w6 w1.heap.size v2 (il (liE a0 a1)) := by subst hw6; exact O2v_5
  have O2u_6 : Own w6 w1.heap.size u2 (il (liO a0 a1)) := by subst hw6; exact O2u_5
  have O3_6 : Own w6 w2.heap.size (.slice (some ⟨g3, 0, none⟩) a1.length a1.length) (il a1) := by subst hw6; exact O3_5
  have O4v_6 : Own w6 w3.heap.size v4 (il (liE a0 a1)) := by subst hw6; exact O4v_5
  have O4u_6 : Own w6 w3.heap.size u4 (il (liO a0 a1)) := by subst hw6; exact O4u_5
  have B_6 : Below w.heap.size w w6 := by subst hw6; exact below_drawn B_5 _
  clear h1_5 O1_5 O2v_5 O2u_5 O3_5 O4v_5 O4u_5 B_5
  clear hw6
  go_wp2_with fail
  refine (toI_any _ a1 _ _ h1_6 (Nat.le_refl _) hm).mono ?_
  rintro e w7 ⟨g7, rfl, O7, hb7⟩
  have A7x0x42 : Apart (.slice (some ⟨g7, 0, none⟩) a1.length a1.length) (.slice A1 a1.length c1) := apart_of O7 h1_6 (Nat.le_refl _)
  have A7x0x44 : Apart (.slice (some ⟨g7, 0, none⟩) a1.length a1.length) (.slice (some ⟨g1, 0, none⟩) a1.length a1.length) := apart_of O7 O1_6.rd (Nat.le_refl _)
  have A7x0x46 : Apart (.slice (some ⟨g7, 0, none⟩) a1.length a1.length) v2 := apart_of O7 O2v_6.rd (Nat.le_refl _)
  have A7x0x48 : Apart (.slice (some ⟨g7, 0, none⟩) a1.length a1.length) u2 := apart_of O7 O2u_6.rd (Nat.le_refl _)
  have A7x0x50 : Apart (.slice (some ⟨g7, 0, none⟩) a1.length a1.length) (.slice (some ⟨g3, 0, none⟩) a1.length a1.length) := apart_of O7 O3_6.rd (Nat.le_refl _)
  have A7x0x52 : Apart (.slice (some ⟨g7, 0, none⟩) a1.length a1.length) v4 := apart_of O7 O4v_6.rd (Nat.le_refl _)
  have A7x0x54 : Apart (.slice (some ⟨g7, 0, none⟩) a1.length a1.length) u4 := apart_of O7 O4u_6.rd (Nat.le_refl _)
  have S7 : w.heap.size ≤ w6.heap.size := B_6.size
  have h1_7 : Rd w7 w7.heap.size (.slice A1 a1.length c1) (il a1) := h1_6.step hb7
  have O1_7 : Own w7 w.heap.size (.slice (some ⟨g1, 0, none⟩) a1.length a1.length) (il a1) := O1_6.below hb7
  have O2v_7 : Own w7 w1.heap.size v2 (il (liE a0 a1)) := O2v_6.below hb7
  have O2u_7 : Own w7 w1.heap.size u2 (il (liO a0 a1)) := O2u_6.below hb7
  have O3_7 : Own w7 w2.heap.size (.slice (some ⟨g3, 0, none⟩) a1.length a1.length) (il a1) := O3_6.below hb7
  have O4v_7 : Own w7 w3.heap.size v4 (il (liE a0 a1)) := O4v_6.below hb7
  have O4u_7 : Own w7 w3.heap.size u4 (il (liO a0 a1)) := O4u_6.below hb7
  have B_7 : Below w.heap.size w w7 := B_6.trans (hb7.mono B_6.size)
  clear h1_6 O1_6 O2v_6 O2u_6 O3_6 O4v_6 O4u_6 B_6
  clear hb7
  go_wp2_with fail
  refine (eqI_any _ _ a1 _ _ _ O3_7.rd O7.rd hm).mono ?_
  rintro e w8 ⟨rfl, n8, hw8⟩
  have h1_8 : Rd w8 w8.heap.size (.slice A1 a1.length c1) (il a1) := by subst hw8; exact h1_7
  have O1_8 : Own w8 w.heap.size (.slice (some ⟨g1, 0, none⟩) a1.length a1.length) (il a1) := by subst hw8; exact O1_7
  have O2v_8 : Own w8 w1.heap.size v2 (il (liE a0 a1)) := by subst hw8; exact O2v_7
  have O2u_8 : Own w8 w1.heap.size u2 (il (liO a0 a1)) := by subst hw8; exact O2u_7
  have O3_8 : Own w8 w2.heap.size (.slice (some ⟨g3, 0, none⟩) a1.length a1.length) (il a1) := by subst hw8; exact O3_7
  have O4v_8 : Own w8 w3.heap.size v4 (il (liE a0 a1)) := by subst hw8; exact O4v_7
  have O4u_8 : Own w8 w3.heap.size u4 (il (liO a0 a1)) := by subst hw8; exact O4u_7
  have O7_8 : Own w8 w6.heap.size (.slice (some ⟨g7, 0, none⟩) a1.length a1.length) (il a1) := by subst hw8; exact O7
  have B_8 : Below w.heap.size w w8 := by subst hw8; exact below_drawn B_7 _
  clear h1_7 O1_7 O2v_7 O2u_7 O3_7 O4v_7 O4u_7 O7 B_7
  clear hw8
  go_wp2_with fail
  refine (markI_any _ a1 _ _ _ O3_8 hm (by omega) (by omega)).mono ?_
  rintro e w9 ⟨rfl, hw9⟩
  have h1_9 : Rd w9 w9.heap.size (.slice A1 a1.length c1) (il a1) := by subst hw9; rw [over_size]; exact over_rd O3_8 h1_8 A3x0x12 _
  have O1_9 : Own w9 w.heap.size (.slice (some ⟨g1, 0, none⟩) a1.length a1.length) (il a1) := by subst hw9; exact over_ownOther O3_8 O1_8 A3x0x14 _
  have O2v_9 : Own w9 w1.heap.size v2 (il (liE a0 a1)) := by subst hw9; exact over_ownOther O3_8 O2v_8 A3x0x16 _
  have O2u_9 : Own w9 w1.heap.size u2 (il (liO a0 a1)) := by subst hw9; exact over_ownOther O3_8 O2u_8 A3x0x18 _
  have O3_9 : Own w9 w2.heap.size (.slice (some ⟨g3, 0, none⟩) a1.length a1.length) ((List.range a1.length).map (mkI (1))) := by subst hw9; have := over_own O3_8 (mkI (1)); rw [il_len] at this; exact this
  have O4v_9 : Own w9 w3.heap.size v4 (il (liE a0 a1)) := by subst hw9; exact over_ownOther O3_8 O4v_8 A4x0x28.symm _
  have O4u_9 : Own w9 w3.heap.size u4 (il (liO a0 a1)) := by subst hw9; exact over_ownOther O3_8 O4u_8 A4x1x38.symm _
  have O7_9 : Own w9 w6.heap.size (.slice (some ⟨g7, 0, none⟩) a1.length a1.length) (il a1) := by subst hw9; exact over_ownOther O3_8 O7_8 A7x0x50.symm _
  have B_9 : Below w.heap.size w w9 := by subst hw9; exact B_8.trans ((over_below O3_8 _).mono S3)
  clear h1_8 O1_8 O2v_8 O2u_8 O3_8 O4v_8 O4u_8 O7_8 B_8
  clear hw9
  go_wp2_with fail
  refine (eqI_any _ _ (liE a0 a1) _ _ _ O4v_9.rd O2v_9.rd hm1).mono ?_
  rintro e w10 ⟨rfl, n10, hw10⟩
  have h1_10 : Rd w10 w10.heap.size (.slice A1 a1.length c1) (il a1) := by subst hw10; exact h1_9
  have O1_10 : Own w10 w.heap.size (.slice (some ⟨g1, 0, none⟩) a1.length a1.length) (il a1) := by subst hw10; exact O1_9
  have O2v_10 : Own w10 w1.heap.size v2 (il (liE a0 a1)) := by subst hw10; exact O2v_9
  have O2u_10 : Own w10 w1.heap.size u2 (il (liO a0 a1)) := by subst hw10; exact O2u_9
  have O3_10 : Own w10 w2.heap.size (.slice (some ⟨g3, 0, none⟩) a1.length a1.length) ((List.range a1.length).map (mkI (1))) := by subst hw10; exact O3_9
  have O4v_10 : Own w10 w3.heap.size v4 (il (liE a0 a1)) := by subst hw10; exact O4v_9
  have O4u_10 : Own w10 w3.heap.size u4 (il (liO a0 a1)) := by subst hw10; exact O4u_9
  have O7_10 : Own w10 w6.heap.size (.slice (some ⟨g7, 0, none⟩) a1.length a1.length) (il a1) := by subst hw10; exact O7_9
  have B_10 : Below w.heap.size w w10 := by subst hw10; exact below_drawn B_9 _
  clear h1_9 O1_9 O2v_9 O2u_9 O3_9 O4v_9 O4u_9 O7_9 B_9
  clear hw10
  go_wp2_with fail
  refine (eqI_any _ _ (liO a0 a1) _ _ _ O4u_10.rd O2u_10.rd hm2).mono ?_
  rintro e w11 ⟨rfl, n11, hw11⟩
  have h1_11 : Rd w11 w11.heap.size (.slice A1 a1.length c1) (il a1) := by subst hw11; exact h1_10
  have O1_11 : Own w11 w.heap.size (.slice (some ⟨g1, 0, none⟩) a1.length a1.length) (il a1) := by subst hw11; exact O1_10
  have O2v_11 : Own w11 w1.heap.size v2 (il (liE a0 a1)) := by subst hw11; exact O2v_10
  have O2u_11 : Own w11 w1.heap.size u2 (il (liO a0 a1)) := by subst hw11; exact O2u_10
  have O3_11 : Own w11 w2.heap.size (.slice (some ⟨g3, 0, none⟩) a1.length a1.length) ((List.range a1.length).map (mkI (1))) := by subst hw11; exact O3_10
  have O4v_11 : Own w11 w3.heap.size v4 (il (liE a0 a1)) := by subst hw11; exact O4v_10
  have O4u_11 : Own w11 w3.heap.size u4 (il (liO a0 a1)) := by subst hw11; exact O4u_10
  have O7_11 : Own w11 w6.heap.size (.slice (some ⟨g7, 0, none⟩) a1.length a1.length) (il a1) := by subst hw11; exact O7_10
  have B_11 : Below w.heap.size w w11 := by subst hw11; exact below_drawn B_10 _
  clear h1_10 O1_10 O2v_10 O2u_10 O3_10 O4v_10 O4u_10 O7_10 B_10
  clear hw11
  go_wp2_with fail
  refine (markI_any _ (liE a0 a1) _ _ _ O4v_11 hm1 (by omega) (by omega)).mono ?_
  rintro e w12 ⟨rfl, hw12⟩
  have h1_12 : Rd w12 w12.heap.size (.slice A1 a1.length c1) (il a1) := by subst hw12; rw [over_size]; exact over_rd O4v_11 h1_11 A4x0x20 _
  have O1_12 : Own w12 w.heap.size (.slice (some ⟨g1, 0, none⟩) a1.length a1.length) (il a1) := by subst hw12; exact over_ownOther O4v_11 O1_11 A4x0x22 _
  have O2v_12 : Own w12 w1.heap.size v2 (il (liE a0 a1)) := by subst hw12; exact over_ownOther O4v_11 O2v_11 A4x0x24 _
  have O2u_12 : Own w12 w1.heap.size u2 (il (liO a0 a1)) := by subst hw12; exact over_ownOther O4v_11 O2u_11 A4x0x26 _
  have O3_12 : Own w12 w2.heap.size (.slice (some ⟨g3, 0, none⟩) a1.length a1.length) ((List.range a1.length).map (mkI (1))) := by subst hw12; exact over_ownOther O4v_11 O3_11 A4x0x28 _
  have O4v_12 : Own w12 w3.heap.size v4 ((List.range (liE a0 a1).length).map (mkI (1))) := by subst hw12; have := over_own O4v_11 (mkI (1)); rw [il_len] at this; exact this
  have O4u_12 : Own w12 w3.heap.size u4 (il (liO a0 a1)) := by subst hw12; exact over_ownOther O4v_11 O4u_11 Q4x1x0.symm _
  have O7_12 : Own w12 w6.heap.size (.slice (some ⟨g7, 0, none⟩) a1.length a1.length) (il a1) := by subst hw12; exact over_ownOther O4v_11 O7_11 A7x0x52.symm _
  have B_12 : Below w.heap.size w w12 := by subst hw12; exact B_11.trans ((over_below O4v_11 _).mono S4)
  clear h1_11 O1_11 O2v_11 O2u_11 O3_11 O4v_11 O4u_11 O7_11 B_11
  clear hw12
  go_wp2_with fail
  refine (markI_any _ (liO a0 a1) _ _ _ O4u_12 hm2 (by omega) (by omega)).mono ?_
  rintro e w13 ⟨rfl, hw13⟩
  have h1_13 : Rd w13 w13.heap.size (.slice A1 a1.length c1) (il a1) := by subst hw13; rw [over_size]; exact over_rd O4u_12 h1_12 A4x1x30 _
  have O1_13 : Own w13 w.heap.size (.slice (some ⟨g1, 0, none⟩) a1.length a1.length) (il a1) := by subst hw13; exact over_ownOther O4u_12 O1_12 A4x1x32 _
  have O2v_13 : Own w13 w1.heap.size v2 (il (liE a0 a1)) := by subst hw13; exact over_ownOther O4u_12 O2v_12 A4x1x34 _
  have O2u_13 : Own w13 w1.heap.size u2 (il (liO a0 a1)) := by subst hw13; exact over_ownOther O4u_12 O2u_12 A4x1x36 _
  have O3_13 : Own w13 w2.heap.size (.slice (some ⟨g3, 0, none⟩) a1.length a1.length) ((List.range a1.length).map (mkI (1))) := by subst hw13; exact over_ownOther O4u_12 O3_12 A4x1x38 _
  have O4v_13 : Own w13 w3.heap.size v4 ((List.range (liE a0 a1).length).map (mkI (1))) := by subst hw13; exact over_ownOther O4u_12 O4v_12 Q4x1x0 _
  have O4u_13 : Own w13 w3.heap.size u4 ((List.range (liO a0 a1).length).map (mkI (1 + (liE a0 a1).length))) := by subst hw13; have := over_own O4u_12 (mkI (1 + (liE a0 a1).length)); rw [il_len] at this; exact this
  have O7_13 : Own w13 w6.heap.size (.slice (some ⟨g7, 0, none⟩) a1.length a1.length) (il a1) := by subst hw13; exact over_ownOther O4u_12 O7_12 A7x0x54.symm _
  have B_13 : Below w.heap.size w w13 := by subst hw13; exact B_12.trans ((over_below O4u_12 _).mono S4)
  clear h1_12 O1_12 O2v_12 O2u_12 O3_12 O4v_12 O4u_12 O7_12 B_12
  clear hw13
  go_wp2_with fail
  refine (heldI_any _ (liE a0 a1).length _ _ _ O4v_13.rd hm1 (by omega) (by omega)).mono ?_
  rintro e w' ⟨rfl, rfl⟩
  go_wp2_with fail
  refine (heldI_any _ (liO a0 a1).length _ _ _ O4u_13.rd hm2 (by omega) (by omega)).mono ?_
  rintro e w' ⟨rfl, rfl⟩
  go_wp2_with fail
  refine (toI_any _ a1 _ _ h1_13 (Nat.le_refl _) hm).mono ?_
  rintro e w14 ⟨g14, rfl, O14, hb14⟩
  have A14x0x56 : Apart (.slice (some ⟨g14, 0, none⟩) a1.length a1.length) (.slice A1 a1.length c1) := apart_of O14 h1_13 (Nat.le_refl _)
  have A14x0x58 : Apart (.slice (some ⟨g14, 0, none⟩) a1.length a1.length) (.slice (some ⟨g1, 0, none⟩) a1.length a1.length) := apart_of O14 O1_13.rd (Nat.le_refl _)
  have A14x0x60 : Apart (.slice (some ⟨g14, 0, none⟩) a1.length a1.length) v2 := apart_of O14 O2v_13.rd (Nat.le_refl _)
  have A14x0x62 : Apart (.slice (some ⟨g14, 0, none⟩) a1.length a1.length) u2 := apart_of O14 O2u_13.rd (Nat.le_refl _)
  have A14x0x64 : Apart (.slice (some ⟨g14, 0, none⟩) a1.length a1.length) (.slice (some ⟨g3, 0, none⟩) a1.length a1.length) := apart_of O14 O3_13.rd (Nat.le_refl _)
  have A14x0x66 : Apart (.slice (some ⟨g14, 0, none⟩) a1.length a1.length) v4 := apart_of O14 O4v_13.rd (Nat.le_refl _)
  have A14x0x68 : Apart (.slice (some ⟨g14, 0, none⟩) a1.length a1.length) u4 := apart_of O14 O4u_13.rd (Nat.le_refl _)
  have A14x0x70 : Apart (.slice (some ⟨g14, 0, none⟩) a1.length a1.length) (.slice (some ⟨g7, 0, none⟩) a1.length a1.length) := apart_of O14 O7_13.rd (Nat.le_refl _)
  have S14 : w.heap.size ≤ w13.heap.size := B_13.size
  have h1_14 : Rd w14 w14.heap.size (.slice A1 a1.length c1) (il a1) := h1_13.step hb14
  have O1_14 : Own w14 w.heap.size (.slice (some ⟨g1, 0, none⟩) a1.length a1.length) (il a1) := O1_13.below hb14
  have O2v_14 : Own w14 w1.heap.size v2 (il (liE a0 a1)) := O2v_13.below hb14
  have O2u_14 : Own w14 w1.heap.size u2 (il (liO a0 a1)) := O2u_13.below hb14
  have O3_14 : Own w14 w2.heap.size (.slice (some ⟨g3, 0, none⟩) a1.length a1.length) ((List.range a1.length).map (mkI (1))) := O3_13.below hb14
  have O4v_14 : Own w14 w3.heap.size v4 ((List.range (liE a0 a1).length).map (mkI (1))) := O4v_13.below hb14
  have O4u_14 : Own w14 w3.heap.size u4 ((List.range (liO a0 a1).length).map (mkI (1 + (liE a0 a1).length))) := O4u_13.below hb14
  have O7_14 : Own w14 w6.heap.size (.slice (some ⟨g7, 0, none⟩) a1.length a1.length) (il a1) := O7_13.below hb14
  have B_14 : Below w.heap.size w w14 := B_13.trans (hb14.mono B_13.size)
  clear h1_13 O1_13 O2v_13 O2u_13 O3_13 O4v_13 O4u_13 O7_13 B_13
  clear hb14
  go_wp2_with fail
  refine (liI_any a0 _ _ _ O14.rd hm).mono ?_
  rintro e w15 ⟨v15, u15, rfl, O15v, O15u, Q15x1x0, hb15⟩
  have A15x0x72 : Apart v15 (.slice A1 a1.length c1) := apart_of O15v h1_14 (Nat.le_refl _)
  have A15x0x74 : Apart v15 (.slice (some ⟨g1, 0, none⟩) a1.length a1.length) := apart_of O15v O1_14.rd (Nat.le_refl _)
  have A15x0x76 : Apart v15 v2 := apart_of O15v O2v_14.rd (Nat.le_refl _)
  have A15x0x78 : Apart v15 u2 := apart_of O15v O2u_14.rd (Nat.le_refl _)
  have A15x0x80 : Apart v15 (.slice (some ⟨g3, 0, none⟩) a1.length a1.length) := apart_of O15v O3_14.rd (Nat.le_refl _)
  have A15x0x82 : Apart v15 v4 := apart_of O15v O4v_14.rd (Nat.le_refl _)
  have A15x0x84 : Apart v15 u4 := apart_of O15v O4u_14.rd (Nat.le_refl _)
  have A15x0x86 : Apart v15 (.slice (some ⟨g7, 0, none⟩) a1.length a1.length) := apart_of O15v O7_14.rd (Nat.le_refl _)
  have A15x0x88 : Apart v15 (.slice (some ⟨g14, 0, none⟩) a1.length a1.length) := apart_of O15v O14.rd (Nat.le_refl _)
  have A15x1x90 : Apart u15 (.slice A1 a1.length c1) := apart_of O15u h1_14 (Nat.le_refl _)
  have A15x1x92 : Apart u15 (.slice (some ⟨g1, 0, none⟩) a1.length a1.length) := apart_of O15u O1_14.rd (Nat.le_refl _)
  have A15x1x94 : Apart u15 v2 := apart_of O15u O2v_14.rd (Nat.le_refl _)
  have A15x1x96 : Apart u15 u2 := apart_of O15u O2u_14.rd (Nat.le_refl _)
  have A15x1x98 : Apart u15 (.slice (some ⟨g3, 0, none⟩) a1.length a1.length) := apart_of O15u O3_14.rd (Nat.le_refl _)
  have A15x1x100 : Apart u15 v4 := apart_of O15u O4v_14.rd (Nat.le_refl _)
  have A15x1x102 : Apart u15 u4 := apart_of O15u O4u_14.rd (Nat.le_refl _)
  have A15x1x104 : Apart u15 (.slice (some ⟨g7, 0, none⟩) a1.length a1.length) := apart_of O15u O7_14.rd (Nat.le_refl _)
  have A15x1x106 : Apart u15 (.slice (some ⟨g14, 0, none⟩) a1.length a1.length) := apart_of O15u O14.rd (Nat.le_refl _)
  have S15 : w.heap.size ≤ w14.heap.size := B_14.size
  have h1_15 : Rd w15 w15.heap.size (.slice A1 a1.length c1) (il a1) := h1_14.step hb15
  have O1_15 : Own w15 w.heap.size (.slice (some ⟨g1, 0, none⟩) a1.length a1.length) (il a1) := O1_14.below hb15
  have O2v_15 : Own w15 w1.heap.size v2 (il (liE a0 a1)) := O2v_14.below hb15
  have O2u_15 : Own w15 w1.heap.size u2 (il (liO a0 a1)) := O2u_14.below hb15
  have O3_15 : Own w15 w2.heap.size (.slice (some ⟨g3, 0, none⟩) a1.length a1.length) ((List.range a1.length).map (mkI (1))) := O3_14.below hb15
  have O4v_15 : Own w15 w3.heap.size v4 ((List.range (liE a0 a1).length).map (mkI (1))) := O4v_14.below hb15
  have O4u_15 : Own w15 w3.heap.size u4 ((List.range (liO a0 a1).length).map (mkI (1 + (liE a0 a1).length))) := O4u_14.below hb15
  have O7_15 : Own w15 w6.heap.size (.slice (some ⟨g7, 0, none⟩) a1.length a1.length) (il a1) := O7_14.below hb15
  have O14_15 : Own w15 w13.heap.size (.slice (some ⟨g14, 0, none⟩) a1.length a1.length) (il a1) := O14.below hb15
  have B_15 : Below w.heap.size w w15 := B_14.trans (hb15.mono B_14.size)
  clear h1_14 O1_14 O2v_14 O2u_14 O3_14 O4v_14 O4u_14 O7_14 O14 B_14
  clear hb15
  go_wp2_with fail
  refine (eqI_any _ _ (liE a0 a1) _ _ _ O15v.rd O2v_15.rd hm1).mono ?_
  rintro e w16 ⟨rfl, n16, hw16⟩
  have h1_16 : Rd w16 w16.heap.size (.slice A1 a1.length c1) (il a1) := by subst hw16; exact h1_15
  have O1_16 : Own w16 w.heap.size (.slice (some ⟨g1, 0, none⟩) a1.length a1.length) (il a1) := by subst hw16; exact O1_15
  have O2v_16 : Own w16 w1.heap.size v2 (il (liE a0 a1)) := by subst hw16; exact O2v_15
  have O2u_16 : Own w16 w1.heap.size u2 (il (liO a0 a1)) := by subst hw16; exact O2u_15
  have O3_16 : Own w16 w2.heap.size (.slice (some ⟨g3, 0, none⟩) a1.length a1.length) ((List.range a1.length).map (mkI (1))) := by subst hw16; exact O3_15
  have O4v_16 : Own w16 w3.heap.size v4 ((List.range (liE a0 a1).length).map (mkI (1))) := by subst hw16; exact O4v_15
  have O4u_16 : Own w16 w3.heap.size u4 ((List.range (liO a0 a1).length).map (mkI (1 + (liE a0 a1).length))) := by subst hw16; exact O4u_15
  have O7_16 : Own w16 w6.heap.size (.slice (some ⟨g7, 0, none⟩) a1.length a1.length) (il a1) := by subst hw16; exact O7_15
  have O14_16 : Own w16 w13.heap.size (.slice (some ⟨g14, 0, none⟩) a1.length a1.length) (il a1) := by subst hw16; exact O14_15
  have O15v_16 : Own w16 w14.heap.size v15 (il (liE a0 a1)) := by subst hw16; exact O15v
  have O15u_16 : Own w16 w14.heap.size u15 (il (liO a0 a1)) := by subst hw16; exact O15u
  have B_16 : Below w.heap.size w w16 := by subst hw16; exact below_drawn B_15 _
  clear h1_15 O1_15 O2v_15 O2u_15 O3_15 O4v_15 O4u_15 O7_15 O14_15 O15v O15u B_15
  clear hw16
  go_wp2_with fail
  refine (eqI_any _ _ (liO a0 a1) _ _ _ O15u_16.rd O2u_16.rd hm2).mono ?_
  rintro e w17 ⟨rfl, n17, hw17⟩
  have h1_17 : Rd w17 w17.heap.size (.slice A1 a1.length c1) (il a1) := by subst hw17; exact h1_16
  have O1_17 : Own w17 w.heap.size (.slice (some ⟨g1, 0, none⟩) a1.length a1.length) (il a1) := by subst hw17; exact O1_16
  have O2v_17 : Own w17 w1.heap.size v2 (il (liE a0 a1)) := by subst hw17; exact O2v_16
  have O2u_17 : Own w17 w1.heap.size u2 (il (liO a0 a1)) := by subst hw17; exact O2u_16
  have O3_17 : Own w17 w2.heap.size (.slice (some ⟨g3, 0, none⟩) a1.length a1.length) ((List.range a1.length).map (mkI (1))) := by subst hw17; exact O3_16
  have O4v_17 : Own w17 w3.heap.size v4 ((List.range (liE a0 a1).length).map (mkI (1))) := by subst hw17; exact O4v_16
  have O4u_17 : Own w17 w3.heap.size u4 ((List.range (liO a0 a1).length).map (mkI (1 + (liE a0 a1).length))) := by subst hw17; exact O4u_16
  have O7_17 : Own w17 w6.heap.size (.slice (some ⟨g7, 0, none⟩) a1.length a1.length) (il a1) := by subst hw17; exact O7_16
  have O14_17 : Own w17 w13.heap.size (.slice (some ⟨g14, 0, none⟩) a1.length a1.length) (il a1) := by subst hw17; exact O14_16
  have O15v_17 : Own w17 w14.heap.size v15 (il (liE a0 a1)) := by subst hw17; exact O15v_16
  have O15u_17 : Own w17 w14.heap.size u15 (il (liO a0 a1)) := by subst hw17; exact O15u_16
  have B_17 : Below w.heap.size w w17 := by subst hw17; exact below_drawn B_16 _
  clear h1_16 O1_16 O2v_16 O2u_16 O3_16 O4v_16 O4u_16 O7_16 O14_16 O15v_16 O15u_16 B_16
  clear hw17
  go_wp2_with fail
  refine (heldI_any _ (liE a0 a1).length _ _ _ O4v_17.rd hm1 (by omega) (by omega)).mono ?_
  rintro e w' ⟨rfl, rfl⟩
  go_wp2_with fail
  refine (heldI_any _ (liO a0 a1).length _ _ _ O4u_17.rd hm2 (by omega) (by omega)).mono ?_
  rintro e w' ⟨rfl, rfl⟩
  go_wp2_with fail
  go_ret
  exact ⟨rfl, B_17⟩

namespace fnExactLiftIntegers
open Go.ChangeShapes Go.WideShapes Go.ChangeAt Go.RowKit
open Go.ChangeMaps (open_string)
set_option linter.unusedVariables false
theorem own : ownKnob Try.prog.godebug = none := by kernel_rfl
theorem laidOut : laidOutB Try.prog = true := by kernel_rfl
set_option maxRecDepth 100000 in
theorem lifted (os : Os) (started : os.Started) (H : Type) (enc : TypeId × Value → H) :
    ReturnsInHanded {} Try.checked os 7 .any (Rows.fnExactLiftIntegersSpec.pre6 enc Try.prog Try.f7 Rows.fnExactLiftIntegersRow.domain false) (Rows.fnExactLiftIntegersSpec.post enc Try.prog Try.f7 false true false false) := by
  refine returnsInHanded_of_change (C := Try.checked) own started (by kernel_rfl) Try.func7
    (ChangeSpec.witness6 (enc := enc) (C := Try.checked) false ⟨#[], #[.int .i64 0, .slice none 0 0], []⟩ 8 (by kernel_rfl) (by kernel_rfl) (by kernel_rfl) (by kernel_rfl)) ?_
  intro W base args ds gs before hval0 hW hcnd _
  have hval : ∀ (j : Nat) t v, Try.f7.params[j]? = some t → args[j]? = some v → Value.okWide Try.prog W .any base t v := hval0
  have hW' := hW
  have hlt0 := hW.lt
  obtain ⟨p, q, hA0, hV, rfl, hfz, hnd⟩ := hW
  have hA : DataW.TrodAll enc Try.prog W 0 (fun _ => true) true Try.f7.params.toList args.toList ds p := hA0
  have hAk := hA
  have hltp : ∀ x ∈ p, x.block < W.heap.size := fun x hx => hlt0 x (List.mem_append_left _ hx)
  have hread : ∀ t ∈ Try.f7.params.toList, Try.prog.readableRec t = true ∧ t < Try.prog.types.size := by
    rw [Try.params7]
    intro t ht
    simp only [List.mem_cons, List.not_mem_nil, or_false] at ht
    rcases ht with rfl | rfl <;> exact ⟨by kernel_rfl, of_decide_eq_true (by kernel_rfl)⟩
  rw [Try.params7] at hA hval
  obtain ⟨v0, vs0, d0, ds0, p0, q0, hargs, rfl, rfl, h0, r0⟩ := trodAll_cons hA
  obtain ⟨v1, vs1, d1, ds1, p1, q1, rfl, rfl, rfl, h1, r1⟩ := trodAll_cons r0
  obtain ⟨rfl, rfl, rfl⟩ := trodAll_nil r1
  obtain rfl : args = #[v0, v1] := by cases args; simp_all
  obtain ⟨rfl, rfl⟩ := trodVars_none hV
  obtain ⟨a0, rfl, rfl, rfl, w0⟩ := open_int Try.underlying2 (hval 0 2 v0 rfl rfl) h0
  obtain ⟨a1, g1, w1⟩ := open_i64s Try.underlying26 Try.underlying2 (by kernel_rfl) (hval 1 26 v1 rfl rfl) h1 (fun x hx => hltp x (by simp [hx]))
  clear hA0 hval0
  refine (walk W a0 w0 v1 a1 g1 w1).mono fun e W' ⟨he, hg⟩ => ?_
  subst he
  exact ⟨_, rfl, post_grown (pv := []) hW' hg (fun _ _ _ => (trodAll_cons_mk (shut_bool Try.underlying4 _) trodAll_mk0)) (trodAll_low laidOut hg _ _ _ _ hread hltp hAk) rfl rfl⟩

theorem over : Rows.fnExactLiftIntegersRow.holds Try.pinned (OpenSpec.ofChange Rows.fnExactLiftIntegersSpec) :=
  OpenClaim.holds_of_wide 7 Try.f7 rfl rfl rfl rfl rfl rfl rfl ⟨rfl, rfl, rfl, rfl, rfl⟩ rfl rfl rfl rfl rfl (by kernel_rfl) Try.func7 (by kernel_rfl)
    (of_decide_eq_true (by kernel_rfl)) (by unfold Func.isWrapper; first | (rw [if_pos (by decide +kernel)]; kernel_rfl) | (rw [if_neg (by decide +kernel)]; exact ⟨rfl, rfl⟩))
    (fun os started H enc _ => lifted os started H enc)

theorem proved : Rows.FnExactLiftIntegersSaid := over
end fnExactLiftIntegers
end Go.Proofs.Yteogogcjndfkoaa
