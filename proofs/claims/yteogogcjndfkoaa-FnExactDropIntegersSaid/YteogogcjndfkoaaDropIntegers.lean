/-
  At any kind and any lists, DropIntegers answers as its model does, leaves the lists as they were, and answers in memory of its own.
-/
import Derived.Test.YteogogcjndfkoaaRows
import Derived.ProofKit
import Derived.OpenShut
import Derived.WalkLawsBesides
import Derived.KernelRfl
import Derived.Test.YteogogcjndfkoaaDz
namespace Go.Proofs.Yteogogcjndfkoaa
open Go.RowKit
set_option linter.unusedVariables false
theorem fnExactDropIntegers.walk (w : World) (a0 : Int) (w0 : (Lit.int .i64 a0).wf = true) (v1 : Value) (a1 : List Int) (h1 : Rd w w.heap.size v1 (il a1)) (w1 : ∀ x ∈ a1, (Lit.int .i64 x).wf = true) (v2 : Value) (a2 : List Int) (h2 : Rd w w.heap.size v2 (il a2)) (w2 : ∀ x ∈ a2, (Lit.int .i64 x).wf = true) :
    Calls Try.prog 8 #[.int .i64 a0, v1, v2] w fun e w' => e = .returned (.bool true) ∧ Below w.heap.size w w' := by
  have hle1 := h1.le
  rw [il_len] at hle1
  unfold maxLen at hle1
  have hle2 := h2.le
  rw [il_len] at hle2
  unfold maxLen at hle2
  obtain ⟨A1, c1, hv1, hc11, hc12, hcell1⟩ := id h1
  obtain ⟨A2, c2, hv2, hc21, hc22, hcell2⟩ := id h2
  rw [il_len] at hv1 hv2
  clear hcell1 hcell2
  subst hv1 hv2
  by_cases hbig : 1048576 < a1.length
  · go_enter Try.func8, Try.ntmps8
    go_wp2_with fail
    go_ret
    exact ⟨rfl, Below.refl _ _⟩
  have hm : a1.length ≤ 1048576 := by omega
  clear hbig
  by_cases hbig : 1048576 < a2.length
  · go_enter Try.func8, Try.ntmps8
    go_wp2_with fail
    go_ret
    exact ⟨rfl, Below.refl _ _⟩
  have hm2 : a2.length ≤ 1048576 := by omega
  clear hbig
  have hm3 : (dzL a0 a1 a2).length ≤ 1048576 := by have := dzL_len a0 a1 a2; omega
  go_enter Try.func8, Try.ntmps8
  have B_0 : Below w.heap.size w w := Below.refl _ _
  go_wp2_with fail
  refine (toI_any _ a1 _ _ h1 (Nat.le_refl _) hm).mono ?_
  rintro e w1 ⟨g1, rfl, O1, hb1⟩
  have A1x0x0 : Apart (.slice (some ⟨g1, 0, none⟩) a1.length a1.length) (.slice A1 a1.length c1) := apart_of O1 h1 (Nat.le_refl _)
  have A1x0x2 : Apart (.slice (some ⟨g1, 0, none⟩) a1.length a1.length) (.slice A2 a2.length c2) := apart_of O1 h2 (Nat.le_refl _)
  have S1 : w.heap.size ≤ w.heap.size := B_0.size
  have h1_1 : Rd w1 w1.heap.size (.slice A1 a1.length c1) (il a1) := h1.step hb1
  have h2_1 : Rd w1 w1.heap.size (.slice A2 a2.length c2) (il a2) := h2.step hb1
  have B_1 : Below w.heap.size w w1 := B_0.trans (hb1.mono B_0.size)
  clear h1 h2 B_0
  clear hb1
  go_wp2_with fail
  refine (toI_any _ a2 _ _ h2_1 (Nat.le_refl _) hm2).mono ?_
  rintro e w2 ⟨g2, rfl, O2, hb2⟩
  have A2x0x4 : Apart (.slice (some ⟨g2, 0, none⟩) a2.length a2.length) (.slice A1 a1.length c1) := apart_of O2 h1_1 (Nat.le_refl _)
  have A2x0x6 : Apart (.slice (some ⟨g2, 0, none⟩) a2.length a2.length) (.slice A2 a2.length c2) := apart_of O2 h2_1 (Nat.le_refl _)
  have A2x0x8 : Apart (.slice (some ⟨g2, 0, none⟩) a2.length a2.length) (.slice (some ⟨g1, 0, none⟩) a1.length a1.length) := apart_of O2 O1.rd (Nat.le_refl _)
  have S2 : w.heap.size ≤ w1.heap.size := B_1.size
  have h1_2 : Rd w2 w2.heap.size (.slice A1 a1.length c1) (il a1) := h1_1.step hb2
  have h2_2 : Rd w2 w2.heap.size (.slice A2 a2.length c2) (il a2) := h2_1.step hb2
  have O1_2 : Own w2 w.heap.size (.slice (some ⟨g1, 0, none⟩) a1.length a1.length) (il a1) := O1.below hb2
  have B_2 : Below w.heap.size w w2 := B_1.trans (hb2.mono B_1.size)
  clear h1_1 h2_1 O1 B_1
  clear hb2
  go_wp2_with fail
  refine (dzS_any a0 _ _ _ _ _ _ _ O1_2.rd O2.rd hm hm2).mono ?_
  rintro e w3 ⟨v3, rfl, O3v, hb3⟩
  have A3x0x10 : Apart v3 (.slice A1 a1.length c1) := apart_of O3v h1_2 (Nat.le_refl _)
  have A3x0x12 : Apart v3 (.slice A2 a2.length c2) := apart_of O3v h2_2 (Nat.le_refl _)
  have A3x0x14 : Apart v3 (.slice (some ⟨g1, 0, none⟩) a1.length a1.length) := apart_of O3v O1_2.rd (Nat.le_refl _)
  have A3x0x16 : Apart v3 (.slice (some ⟨g2, 0, none⟩) a2.length a2.length) := apart_of O3v O2.rd (Nat.le_refl _)
  have S3 : w.heap.size ≤ w2.heap.size := B_2.size
  have h1_3 : Rd w3 w3.heap.size (.slice A1 a1.length c1) (il a1) := h1_2.step hb3
  have h2_3 : Rd w3 w3.heap.size (.slice A2 a2.length c2) (il a2) := h2_2.step hb3
  have O1_3 : Own w3 w.heap.size (.slice (some ⟨g1, 0, none⟩) a1.length a1.length) (il a1) := O1_2.below hb3
  have O2_3 : Own w3 w1.heap.size (.slice (some ⟨g2, 0, none⟩) a2.length a2.length) (il a2) := O2.below hb3
  have B_3 : Below w.heap.size w w3 := B_2.trans (hb3.mono B_2.size)
  clear h1_2 h2_2 O1_2 O2 B_2
  clear hb3
  go_wp2_with fail
  refine (toI_any _ a1 _ _ h1_3 (Nat.le_refl _) hm).mono ?_
  rintro e w4 ⟨g4, rfl, O4, hb4⟩
  have A4x0x18 : Apart (.slice (some ⟨g4, 0, none⟩) a1.length a1.length) (.slice A1 a1.length c1) := apart_of O4 h1_3 (Nat.le_refl _)
  have A4x0x20 : Apart (.slice (some ⟨g4, 0, none⟩) a1.length a1.length) (.slice A2 a2.length c2) := apart_of O4 h2_3 (Nat.le_refl _)
  have A4x0x22 : Apart (.slice (some ⟨g4, 0, none⟩) a1.length a1.length) (.slice (some ⟨g1, 0, none⟩) a1.length a1.length) := apart_of O4 O1_3.rd (Nat.le_refl _)
  have A4x0x24 : Apart (.slice (some ⟨g4, 0, none⟩) a1.length a1.length) (.slice (some ⟨g2, 0, none⟩) a2.length a2.length) := apart_of O4 O2_3.rd (Nat.le_refl _)
  have A4x0x26 : Apart (.slice (some ⟨g4, 0, none⟩) a1.length a1.length) v3 := apart_of O4 O3v.rd (Nat.le_refl _)
  have S4 : w.heap.size ≤ w3.heap.size := B_3.size
  have h1_4 : Rd w4 w4.heap.size (.slice A1 a1.length c1) (il a1) := h1_3.step hb4
  have h2_4 : Rd w4 w4.heap.size (.slice A2 a2.length c2) (il a2) := h2_3.step hb4
  have O1_4 : Own w4 w.heap.size (.slice (some ⟨g1, 0, none⟩) a1.length a1.length) (il a1) := O1_3.below hb4
  have O2_4 : Own w4 w1.heap.size (.slice (some ⟨g2, 0, none⟩) a2.length a2.length) (il a2) := O2_3.below hb4
  have O3v_4 : Own w4 w2.heap.size v3 (il (dzL a0 a1 a2)) := O3v.below hb4
  have B_4 : Below w.heap.size w w4 := B_3.trans (hb4.mono B_3.size)
  clear h1_3 h2_3 O1_3 O2_3 O3v B_3
  clear hb4
  go_wp2_with fail
  refine (toI_any _ a2 _ _ h2_4 (Nat.le_refl _) hm2).mono ?_
  rintro e w5 ⟨g5, rfl, O5, hb5⟩
  have A5x0x28 : Apart (.slice (some ⟨g5, 0, none⟩) a2.length a2.length) (.slice A1 a1.length c1) := apart_of O5 h1_4 (Nat.le_refl _)
  have A5x0x30 : Apart (.slice (some ⟨g5, 0, none⟩) a2.length a2.length) (.slice A2 a2.length c2) := apart_of O5 h2_4 (Nat.le_refl _)
  have A5x0x32 : Apart (.slice (some ⟨g5, 0, none⟩) a2.length a2.length) (.slice (some ⟨g1, 0, none⟩) a1.length a1.length) := apart_of O5 O1_4.rd (Nat.le_refl _)
  have A5x0x34 : Apart (.slice (some ⟨g5, 0, none⟩) a2.length a2.length) (.slice (some ⟨g2, 0, none⟩) a2.length a2.length) := apart_of O5 O2_4.rd (Nat.le_refl _)
  have A5x0x36 : Apart (.slice (some ⟨g5, 0, none⟩) a2.length a2.length) v3 := apart_of O5 O3v_4.rd (Nat.le_refl _)
  have A5x0x38 : Apart (.slice (some ⟨g5, 0, none⟩) a2.length a2.length) (.slice (some ⟨g4, 0, none⟩) a1.length a1.length) := apart_of O5 O4.rd (Nat.le_refl _)
  have S5 : w.heap.size ≤ w4.heap.size := B_4.size
  have h1_5 : Rd w5 w5.heap.size (.slice A1 a1.length c1) (il a1) := h1_4.step hb5
  have h2_5 : Rd w5 w5.heap.size (.slice A2 a2.length c2) (il a2) := h2_4.step hb5
  have O1_5 : Own w5 w.heap.size (.slice (some ⟨g1, 0, none⟩) a1.length a1.length) (il a1) := O1_4.below hb5
  have O2_5 : Own w5 w1.heap.size (.slice (some ⟨g2, 0, none⟩) a2.length a2.length) (il a2) := O2_4.below hb5
  have O3v_5 : Own w5 w2.heap.size v3 (il (dzL a0 a1 a2)) := O3v_4.below hb5
  have O4_5 : Own w5 w3.heap.size (.slice (some ⟨g4, 0, none⟩) a1.length a1.length) (il a1) := O4.below hb5
  have B_5 : Below w.heap.size w w5 := B_4.trans (hb5.mono B_4.size)
  clear h1_4 h2_4 O1_4 O2_4 O3v_4 O4 B_4
  clear hb5
  go_wp2_with fail
  refine (dzI_any a0 _ _ _ _ _ _ _ O4_5.rd O5.rd hm hm2).mono ?_
  rintro e w6 ⟨v6, rfl, O6v, hb6⟩
  have A6x0x40 : Apart v6 (.slice A1 a1.length c1) := apart_of O6v h1_5 (Nat.le_refl _)
  have A6x0x42 : Apart v6 (.slice A2 a2.length c2) := apart_of O6v h2_5 (Nat.le_refl _)
  have A6x0x44 : Apart v6 (.slice (some ⟨g1, 0, none⟩) a1.length a1.length) := apart_of O6v O1_5.rd (Nat.le_refl _)
  have A6x0x46 : Apart v6 (.slice (some ⟨g2, 0, none⟩) a2.length a2.length) := apart_of O6v O2_5.rd (Nat.le_refl _)
  have A6x0x48 : Apart v6 v3 := apart_of O6v O3v_5.rd (Nat.le_refl _)
  have A6x0x50 : Apart v6 (.slice (some ⟨g4, 0, none⟩) a1.length a1.length) := apart_of O6v O4_5.rd (Nat.le_refl _)
  have A6x0x52 : Apart v6 (.slice (some ⟨g5, 0, none⟩) a2.length a2.length) := apart_of O6v O5.rd (Nat.le_refl _)
  have S6 : w.heap.size ≤ w5.heap.size := B_5.size
  have h1_6 : Rd w6 w6.heap.size (.slice A1 a1.length c1) (il a1) := h1_5.step hb6
  have h2_6 : Rd w6 w6.heap.size (.slice A2 a2.length c2) (il a2) := h2_5.step hb6
  have O1_6 : Own w6 w.heap.size (.slice (some ⟨g1, 0, none⟩) a1.length a1.length) (il a1) := O1_5.below hb6
  have O2_6 : Own w6 w1.heap.size (.slice (some ⟨g2, 0, none⟩) a2.length a2.length) (il a2) := O2_5.below hb6
  have O3v_6 : Own w6 w2.heap.size v3 (il (dzL a0 a1 a2)) := O3v_5.below hb6
  have O4_6 : Own w6 w3.heap.size (.slice (some ⟨g4, 0, none⟩) a1.length a1.length) (il a1) := O4_5.below hb6
  have O5_6 : Own w6 w4.heap.size (.slice (some ⟨g5, 0, none⟩) a2.length a2.length) (il a2) := O5.below hb6
  have B_6 : Below w.heap.size w w6 := B_5.trans (hb6.mono B_5.size)
  clear h1_5 h2_5 O1_5 O2_5 O3v_5 O4_5 O5 B_5
  clear hb6
  go_wp2_with fail
  refine (eqI_any _ _ (dzL a0 a1 a2) _ _ _ O6v.rd O3v_6.rd hm3).mono ?_
  rintro e w7 ⟨rfl, n7, hw7⟩
  have h1_7 : Rd w7 w7.heap.size (.slice A1 a1.length c1) (il a1) := by subst hw7; exact h1_6
  have h2_7 : Rd w7 w7.heap.size (.slice A2 a2.length c2) (il a2) := by subst hw7; exact h2_6
  have O1_7 : Own w7 w.heap.size (.slice (some ⟨g1, 0, none⟩) a1.length a1.length) (il a1) := by subst hw7; exact O1_6
  have O2_7 : Own w7 w1.heap.size (.slice (some ⟨g2, 0, none⟩) a2.length a2.length) (il a2) := by subst hw7; exact O2_6
  have O3v_7 : Own w7 w2.heap.size v3 (il (dzL a0 a1 a2)) := by subst hw7; exact O3v_6
  have O4_7 : Own w7 w3.heap.size (.slice (some ⟨g4, 0, none⟩) a1.length a1.length) (il a1) := by subst hw7; exact O4_6
  have O5_7 : Own w7 w4.heap.size (.slice (some ⟨g5, 0, none⟩) a2.length a2.length) (il a2) := by subst hw7; exact O5_6
  have O6v_7 : Own w7 w5.heap.size v6 (il (dzL a0 a1 a2)) := by subst hw7; exact O6v
  have B_7 : Below w.heap.size w w7 := by subst hw7; exact below_drawn B_6 _
  clear h1_6 h2_6 O1_6 O2_6 O3v_6 O4_6 O5_6 O6v B_6
  clear hw7
  go_wp2_with fail
  refine (toI_any _ a1 _ _ h1_7 (Nat.le_refl _) hm).mono ?_
  rintro e w8 ⟨g8, rfl, O8, hb8⟩
  have A8x0x54 : Apart (.slice (some ⟨g8, 0, none⟩) a1.length a1.length) (.slice A1 a1.length c1) := apart_of O8 h1_7 (Nat.le_refl _)
  have A8x0x56 : Apart (.slice (some ⟨g8, 0, none⟩) a1.length a1.length) (.slice A2 a2.length c2) := apart_of O8 h2_7 (Nat.le_refl _)
  have A8x0x58 : Apart (.slice (some ⟨g8, 0, none⟩) a1.length a1.length) (.slice (some ⟨g1, 0, none⟩) a1.length a1.length) := apart_of O8 O1_7.rd (Nat.le_refl _)
  have A8x0x60 : Apart (.slice (some ⟨g8, 0, none⟩) a1.length a1.length) (.slice (some ⟨g2, 0, none⟩) a2.length a2.length) := apart_of O8 O2_7.rd (Nat.le_refl _)
  have A8x0x62 : Apart (.slice (some ⟨g8, 0, none⟩) a1.length a1.length) v3 := apart_of O8 O3v_7.rd (Nat.le_refl _)
  have A8x0x64 : Apart (.slice (some ⟨g8, 0, none⟩) a1.length a1.length) (.slice (some ⟨g4, 0, none⟩) a1.length a1.length) := apart_of O8 O4_7.rd (Nat.le_refl _)
  have A8x0x66 : Apart (.slice (some ⟨g8, 0, none⟩) a1.length a1.length) (.slice (some ⟨g5, 0, none⟩) a2.length a2.length) := apart_of O8 O5_7.rd (Nat.le_refl _)
  have A8x0x68 : Apart (.slice (some ⟨g8, 0, none⟩) a1.length a1.length) v6 := apart_of O8 O6v_7.rd (Nat.le_refl _)
  have S8 : w.heap.size ≤ w7.heap.size := B_7.size
  have h1_8 : Rd w8 w8.heap.size (.slice A1 a1.length c1) (il a1) := h1_7.step hb8
  have h2_8 : Rd w8 w8.heap.size (.slice A2 a2.length c2) (il a2) := h2_7.step hb8
  have O1_8 : Own w8 w.heap.size (.slice (some ⟨g1, 0, none⟩) a1.length a1.length) (il a1) := O1_7.below hb8
  have O2_8 : Own w8 w1.heap.size (.slice (some ⟨g2, 0, none⟩) a2.length a2.length) (il a2) := O2_7.below hb8
  have O3v_8 : Own w8 w2.heap.size v3 (il (dzL a0 a1 a2)) := O3v_7.below hb8
  have O4_8 : Own w8 w3.heap.size (.slice (some ⟨g4, 0, none⟩) a1.length a1.length) (il a1) := O4_7.below hb8
  have O5_8 : Own w8 w4.heap.size (.slice (some ⟨g5, 0, none⟩) a2.length a2.length) (il a2) := O5_7.below hb8
  have O6v_8 : Own w8 w5.heap.size v6 (il (dzL a0 a1 a2)) := O6v_7.below hb8
  have B_8 : Below w.heap.size w w8 := B_7.trans (hb8.mono B_7.size)
  clear h1_7 h2_7 O1_7 O2_7 O3v_7 O4_7 O5_7 O6v_7 B_7
  clear hb8
  go_wp2_with fail
  refine (eqI_any _ _ a1 _ _ _ O4_8.rd O8.rd hm).mono ?_
  rintro e w9 ⟨rfl, n9, hw9⟩
  have h1_9 : Rd w9 w9.heap.size (.slice A1 a1.length c1) (il a1) := by subst hw9; exact h1_8
  have h2_9 : Rd w9 w9.heap.size (.slice A2 a2.length c2) (il a2) := by subst hw9; exact h2_8
  have O1_9 : Own w9 w.heap.size (.slice (some ⟨g1, 0, none⟩) a1.length a1.length) (il a1) := by subst hw9; exact O1_8
  have O2_9 : Own w9 w1.heap.size (.slice (some ⟨g2, 0, none⟩) a2.length a2.length) (il a2) := by subst hw9; exact O2_8
  have O3v_9 : Own w9 w2.heap.size v3 (il (dzL a0 a1 a2)) := by subst hw9; exact O3v_8
  have O4_9 : Own w9 w3.heap.size (.slice (some ⟨g4, 0, none⟩) a1.length a1.length) (il a1) := by subst hw9; exact O4_8
  have O5_9 : Own w9 w4.heap.size (.slice (some ⟨g5, 0, none⟩) a2.length a2.length) (il a2) := by subst hw9; exact O5_8
  have O6v_9 : Own w9 w5.heap.size v6 (il (dzL a0 a1 a2)) := by subst hw9; exact O6v_8
  have O8_9 : Own w9 w7.heap.size (.slice (some ⟨g8, 0, none⟩) a1.length a1.length) (il a1) := by subst hw9; exact O8
  have B_9 : Below w.heap.size w w9 := by subst hw9; exact below_drawn B_8 _
  clear h1_8 h2_8 O1_8 O2_8 O3v_8 O4_8 O5_8 O6v_8 O8 B_8
  clear hw9
  go_wp2_with fail
  refine (toI_any _ a2 _ _ h2_9 (Nat.le_refl _) hm2).mono ?_
  rintro e w10 ⟨g10, rfl, O10, hb10⟩
  have A10x0x70 : Apart (.slice (some ⟨g10, 0, none⟩) a2.length a2.length) (.slice A1 a1.length c1) := apart_of O10 h1_9 (Nat.le_refl _)
  have A10x0x72 : Apart (.slice (some ⟨g10, 0, none⟩) a2.length a2.length) (.slice A2 a2.length c2) := apart_of O10 h2_9 (Nat.le_refl _)
  have A10x0x74 : Apart (.slice (some ⟨g10, 0, none⟩) a2.length a2.length) (.slice (some ⟨g1, 0, none⟩) a1.length a1.length) := apart_of O10 O1_9.rd (Nat.le_refl _)
  have A10x0x76 : Apart (.slice (some ⟨g10, 0, none⟩) a2.length a2.length) (.slice (some ⟨g2, 0, none⟩) a2.length a2.length) := apart_of O10 O2_9.rd (Nat.le_refl _)
  have A10x0x78 : Apart (.slice (some ⟨g10, 0, none⟩) a2.length a2.length) v3 := apart_of O10 O3v_9.rd (Nat.le_refl _)
  have A10x0x80 : Apart (.slice (some ⟨g10, 0, none⟩) a2.length a2.length) (.slice (some ⟨g4, 0, none⟩) a1.length a1.length) := apart_of O10 O4_9.rd (Nat.le_refl _)
  have A10x0x82 : Apart (.slice (some ⟨g10, 0, none⟩) a2.length a2.length) (.slice (some ⟨g5, 0, none⟩) a2.length a2.length) := apart_of O10 O5_9.rd (Nat.le_refl _)
  have A10x0x84 : Apart (.slice (some ⟨g10, 0, none⟩) a2.length a2.length) v6 := apart_of O10 O6v_9.rd (Nat.le_refl _)
  have A10x0x86 : Apart (.slice (some ⟨g10, 0, none⟩) a2.length a2.length) (.slice (some ⟨g8, 0, none⟩) a1.length a1.length) := apart_of O10 O8_9.rd (Nat.le_refl _)
  have S10 : w.heap.size ≤ w9.heap.size := B_9.size
  have h1_10 : Rd w10 w10.heap.size (.slice A1 a1.length c1) (il a1) := h1_9.step hb10
  have h2_10 : Rd w10 w10.heap.size (.slice A2 a2.length c2) (il a2) := h2_9.step hb10
  have O1_10 : Own w10 w.heap.size (.slice (some ⟨g1, 0, none⟩) a1.length a1.length) (il a1) := O1_9.below hb10
  have O2_10 : Own w10 w1.heap.size (.slice (some ⟨g2, 0, none⟩) a2.length a2.length) (il a2) := O2_9.below hb10
  have O3v_10 : Own w10 w2.heap.size v3 (il (dzL a0 a1 a2)) := O3v_9.below hb10
  have O4_10 : Own w10 w3.heap.size (.slice (some ⟨g4, 0, none⟩) a1.length a1.length) (il a1) := O4_9.below hb10
  have O5_10 : Own w10 w4.heap.size (.slice (some ⟨g5, 0, none⟩) a2.length a2.length) (il a2) := O5_9.below hb10
  have O6v_10 : Own w10 w5.heap.size v6 (il (dzL a0 a1 a2)) := O6v_9.below hb10
  have O8_10 : Own w10 w7.heap.size (.slice (some ⟨g8, 0, none⟩) a1.length a1.length) (il a1) := O8_9.below hb10
  have B_10 : Below w.heap.size w w10 := B_9.trans (hb10.mono B_9.size)
  clear h1_9 h2_9 O1_9 O2_9 O3v_9 O4_9 O5_9 O6v_9 O8_9 B_9
  clear hb10
  go_wp2_with fail
  refine (eqI_any _ _ a2 _ _ _ O5_10.rd O10.rd hm2).mono ?_
  rintro e w11 ⟨rfl, n11, hw11⟩
  have h1_11 : Rd w11 w11.heap.size (.slice A1 a1.length c1) (il a1) := by subst hw11; exact h1_10
  have h2_11 : Rd w11 w11.heap.size (.slice A2 a2.length c2) (il a2) := by subst hw11; exact h2_10
  have O1_11 : Own w11 w.heap.size (.slice (some ⟨g1, 0, none⟩) a1.length a1.length) (il a1) := by subst hw11; exact O1_10
  have O2_11 : Own w11 w1.heap.size (.slice (some ⟨g2, 0, none⟩) a2.length a2.length) (il a2) := by subst hw11; exact O2_10
  have O3v_11 : Own w11 w2.heap.size v3 (il (dzL a0 a1 a2)) := by subst hw11; exact O3v_10
  have O4_11 : Own w11 w3.heap.size (.slice (some ⟨g4, 0, none⟩) a1.length a1.length) (il a1) := by subst hw11; exact O4_10
  have O5_11 : Own w11 w4.heap.size (.slice (some ⟨g5, 0, none⟩) a2.length a2.length) (il a2) := by subst hw11; exact O5_10
  have O6v_11 : Own w11 w5.heap.size v6 (il (dzL a0 a1 a2)) := by subst hw11; exact O6v_10
  have O8_11 : Own w11 w7.heap.size (.slice (some ⟨g8, 0, none⟩) a1.length a1.length) (il a1) := by subst hw11; exact O8_10
  have O10_11 : Own w11 w9.heap.size (.slice (some ⟨g10, 0, none⟩) a2.length a2.length) (il a2) := by subst hw11; exact O10
  have B_11 : Below w.heap.size w w11 := by subst hw11; exact below_drawn B_10 _
  clear h1_10 h2_10 O1_10 O2_10 O3v_10 O4_10 O5_10 O6v_10 O8_10 O10 B_10
  clear hw11
  go_wp2_with fail
  refine (markI_any _ a1 _ _ _ O4_11 hm (by omega) (by omega)).mono ?_
  rintro e w12 ⟨rfl, hw12⟩
  have h1_12 : Rd w12 w12.heap.size (.slice A1 a1.length c1) (il a1) := by subst hw12; rw [over_size]; exact over_rd O4_11 h1_11 A4x0x18 _
  have h2_12 : Rd w12 w12.heap.size (.slice A2 a2.length c2) (il a2) := by subst hw12; rw [over_size]; exact over_rd O4_11 h2_11 A4x0x20 _
  have O1_12 : Own w12 w.heap.size (.slice (some ⟨g1, 0, none⟩) a1.length a1.length) (il a1) := by subst hw12; exact over_ownOther O4_11 O1_11 A4x0x22 _
  have O2_12 : Own w12 w1.heap.size (.slice (some ⟨g2, 0, none⟩) a2.length a2.length) (il a2) := by subst hw12; exact over_ownOther O4_11 O2_11 A4x0x24 _
  have O3v_12 : Own w12 w2.heap.size v3 (il (dzL a0 a1 a2)) := by subst hw12; exact over_ownOther O4_11 O3v_11 A4x0x26 _
  have O4_12 : Own w12 w3.heap.size (.slice (some ⟨g4, 0, none⟩) a1.length a1.length) ((List.range a1.length).map (mkI (1))) := by subst hw12; have := over_own O4_11 (mkI (1)); rw [il_len] at this; exact this
  have O5_12 : Own w12 w4.heap.size (.slice (some ⟨g5, 0, none⟩) a2.length a2.length) (il a2) := by subst hw12; exact over_ownOther O4_11 O5_11 A5x0x38.symm _
  have O6v_12 : Own w12 w5.heap.size v6 (il (dzL a0 a1 a2)) := by subst hw12; exact over_ownOther O4_11 O6v_11 A6x0x50.symm _
  have O8_12 : Own w12 w7.heap.size (.slice (some ⟨g8, 0, none⟩) a1.length a1.length) (il a1) := by subst hw12; exact over_ownOther O4_11 O8_11 A8x0x64.symm _
  have O10_12 : Own w12 w9.heap.size (.slice (some ⟨g10, 0, none⟩) a2.length a2.length) (il a2) := by subst hw12; exact over_ownOther O4_11 O10_11 A10x0x80.symm _
  have B_12 : Below w.heap.size w w12 := by subst hw12; exact B_11.trans ((over_below O4_11 _).mono S4)
  clear h1_11 h2_11 O1_11 O2_11 O3v_11 O4_11 O5_11 O6v_11 O8_11 O10_11 B_11
  clear hw12
  go_wp2_with fail
  refine (markI_any _ a2 _ _ _ O5_12 hm2 (by omega) (by omega)).mono ?_
  rintro e w13 ⟨rfl, hw13⟩
  have h1_13 : Rd w13 w13.heap.size (.slice A1 a1.length c1) (il a1) := by subst hw13; rw [over_size]; exact over_rd O5_12 h1_12 A5x0x28 _
  have h2_13 : Rd w13 w13.heap.size (.slice A2 a2.length c2) (il a2) := by subst hw13; rw [over_size]; exact over_rd O5_12 h2_12 A5x0x30 _
  have O1_13 : Own w13 w.heap.size (.slice (some ⟨g1, 0, none⟩) a1.length a1.length) (il a1) := by subst hw13; exact over_ownOther O5_12 O1_12 A5x0x32 _
  have O2_13 : Own w13 w1.heap.size (.slice (some ⟨g2, 0, none⟩) a2.length a2.length) (il a2) := by subst hw13; exact over_ownOther O5_12 O2_12 A5x0x34 _
  have O3v_13 : Own w13 w2.heap.size v3 (il (dzL a0 a1 a2)) := by subst hw13; exact over_ownOther O5_12 O3v_12 A5x0x36 _
  have O4_13 : Own w13 w3.heap.size (.slice (some ⟨g4, 0, none⟩) a1.length a1.length) ((List.range a1.length).map (mkI (1))) := by subst hw13; exact over_ownOther O5_12 O4_12 A5x0x38 _
  have O5_13 : Own w13 w4.heap.size (.slice (some ⟨g5, 0, none⟩) a2.length a2.length) ((List.range a2.length).map (mkI (1 + a1.length))) := by subst hw13; have := over_own O5_12 (mkI (1 + a1.length)); rw [il_len] at this; exact this
  have O6v_13 : Own w13 w5.heap.size v6 (il (dzL a0 a1 a2)) := by subst hw13; exact over_ownOther O5_12 O6v_12 A6x0x52.symm _
  have O8_13 : Own w13 w7.heap.size (.slice (some ⟨g8, 0, none⟩) a1.length a1.length) (il a1) := by subst hw13; exact over_ownOther O5_12 O8_12 A8x0x66.symm _
  have O10_13 : Own w13 w9.heap.size (.slice (some ⟨g10, 0, none⟩) a2.length a2.length) (il a2) := by subst hw13; exact over_ownOther O5_12 O10_12 A10x0x82.symm _
  have B_13 : Below w.heap.size w w13 := by subst hw13; exact B_12.trans ((over_below O5_12 _).mono S5)
  clear h1_12 h2_12 O1_12 O2_12 O3v_12 O4_12 O5_12 O6v_12 O8_12 O10_12 B_12
  clear hw13
  go_wp2_with fail
  refine (eqI_any _ _ (dzL a0 a1 a2) _ _ _ O6v_13.rd O3v_13.rd hm3).mono ?_
  rintro e w14 ⟨rfl, n14, hw14⟩
  have h1_14 : Rd w14 w14.heap.size (.slice A1 a1.length c1) (il a1) := by subst hw14; exact h1_13
  have h2_14 : Rd w14 w14.heap.size (.slice A2 a2.length c2) (il a2) := by subst hw14; exact h2_13
  have O1_14 : Own w14 w.heap.size (.slice (some ⟨g1, 0, none⟩) a1.length a1.length) (il a1) := by subst hw14; exact O1_13
  have O2_14 : Own w14 w1.heap.size (.slice (some ⟨g2, 0, none⟩) a2.length a2.length) (il a2) := by subst hw14; exact O2_13
  have O3v_14 : Own w14 w2.heap.size v3 (il (dzL a0 a1 a2)) := by subst hw14; exact O3v_13
  have O4_14 : Own w14 w3.heap.size (.slice (some ⟨g4, 0, none⟩) a1.length a1.length) ((List.range a1.length).map (mkI (1))) := by subst hw14; exact O4_13
  have O5_14 : Own w14 w4.heap.size (.slice (some ⟨g5, 0, none⟩) a2.length a2.length) ((List.range a2.length).map (mkI (1 + a1.length))) := by subst hw14; exact O5_13
  have O6v_14 : Own w14 w5.heap.size v6 (il (dzL a0 a1 a2)) := by subst hw14; exact O6v_13
  have O8_14 : Own w14 w7.heap.size (.slice (some ⟨g8, 0, none⟩) a1.length a1.length) (il a1) := by subst hw14; exact O8_13
  have O10_14 : Own w14 w9.heap.size (.slice (some ⟨g10, 0, none⟩) a2.length a2.length) (il a2) := by subst hw14; exact O10_13
  have B_14 : Below w.heap.size w w14 := by subst hw14; exact below_drawn B_13 _
  clear h1_13 h2_13 O1_13 O2_13 O3v_13 O4_13 O5_13 O6v_13 O8_13 O10_13 B_13
  clear hw14
  go_wp2_with fail
  refine (markI_any _ (dzL a0 a1 a2) _ _ _ O6v_14 hm3 (by omega) (by omega)).mono ?_
  rintro e w15 ⟨rfl, hw15⟩
  have h1_15 : Rd w15 w15.heap.size (.slice A1 a1.length c1) (il a1) := by subst hw15; rw [over_size]; exact over_rd O6v_14 h1_14 A6x0x40 _
  have h2_15 : Rd w15 w15.heap.size (.slice A2 a2.length c2) (il a2) := by subst hw15; rw [over_size]; exact over_rd O6v_14 h2_14 A6x0x42 _
  have O1_15 : Own w15 w.heap.size (.slice (some ⟨g1, 0, none⟩) a1.length a1.length) (il a1) := by subst hw15; exact over_ownOther O6v_14 O1_14 A6x0x44 _
  have O2_15 : Own w15 w1.heap.size (.slice (some ⟨g2, 0, none⟩) a2.length a2.length) (il a2) := by subst hw15; exact over_ownOther O6v_14 O2_14 A6x0x46 _
  have O3v_15 : Own w15 w2.heap.size v3 (il (dzL a0 a1 a2)) := by subst hw15; exact over_ownOther O6v_14 O3v_14 A6x0x48 _
  have O4_15 : Own w15 w3.heap.size (.slice (some ⟨g4, 0, none⟩) a1.length a1.length) ((List.range a1.length).map (mkI (1))) := by subst hw15; exact over_ownOther O6v_14 O4_14 A6x0x50 _
  have O5_15 : Own w15 w4.heap.size (.slice (some ⟨g5, 0, none⟩) a2.length a2.length) ((List.range a2.length).map (mkI (1 + a1.length))) := by subst hw15; exact over_ownOther O6v_14 O5_14 A6x0x52 _
  have O6v_15 : Own w15 w5.heap.size v6 ((List.range (dzL a0 a1 a2).length).map (mkI (1))) := by subst hw15; have := over_own O6v_14 (mkI (1)); rw [il_len] at this; exact this
  have O8_15 : Own w15 w7.heap.size (.slice (some ⟨g8, 0, none⟩) a1.length a1.length) (il a1) := by subst hw15; exact over_ownOther O6v_14 O8_14 A8x0x68.symm _
  have O10_15 : Own w15 w9.heap.size (.slice (some ⟨g10, 0, none⟩) a2.length a2.length) (il a2) := by subst hw15; exact over_ownOther O6v_14 O10_14 A10x0x84.symm _
  have B_15 : Below w.heap.size w w15 := by subst hw15; exact B_14.trans ((over_below O6v_14 _).mono S6)
  clear h1_14 h2_14 O1_14 O2_14 O3v_14 O4_14 O5_14 O6v_14 O8_14 O10_14 B_14
  clear hw15
  go_wp2_with fail
  refine (heldI_any _ (dzL a0 a1 a2).length _ _ _ O6v_15.rd hm3 (by omega) (by omega)).mono ?_
  rintro e w' ⟨rfl, rfl⟩
  go_wp2_with fail
  refine (toI_any _ a1 _ _ h1_15 (Nat.le_refl _) hm).mono ?_
  rintro e w16 ⟨g16, rfl, O16, hb16⟩
  have A16x0x88 : Apart (.slice (some ⟨g16, 0, none⟩) a1.length a1.length) (.slice A1 a1.length c1) := apart_of O16 h1_15 (Nat.le_refl _)
  have A16x0x90 : Apart (.slice (some ⟨g16, 0, none⟩) a1.length a1.length) (.slice A2 a2.length c2) := apart_of O16 h2_15 (Nat.le_refl _)
  have A16x0x92 : Apart (.slice (some ⟨g16, 0, none⟩) a1.length a1.length) (.slice (some ⟨g1, 0, none⟩) a1.length a1.length) := apart_of O16 O1_15.rd (Nat.le_refl _)
  have A16x0x94 : Apart (.slice (some ⟨g16, 0, none⟩) a1.length a1.length) (.slice (some ⟨g2, 0, none⟩) a2.length a2.length) := apart_of O16 O2_15.rd (Nat.le_refl _)
  have A16x0x96 : Apart (.slice (some ⟨g16, 0, none⟩) a1.length a1.length) v3 := apart_of O16 O3v_15.rd (Nat.le_refl _)
  have A16x0x98 : Apart (.slice (some ⟨g16, 0, none⟩) a1.length a1.length) (.slice (some ⟨g4, 0, none⟩) a1.length a1.length) := apart_of O16 O4_15.rd (Nat.le_refl _)
  have A16x0x100 : Apart (.slice (some ⟨g16, 0, none⟩) a1.length a1.length) (.slice (some ⟨g5, 0, none⟩) a2.length a2.length) := apart_of O16 O5_15.rd (Nat.le_refl _)
  have A16x0x102 : Apart (.slice (some ⟨g16, 0, none⟩) a1.length a1.length) v6 := apart_of O16 O6v_15.rd (Nat.le_refl _)
  have A16x0x104 : Apart (.slice (some ⟨g16, 0, none⟩) a1.length a1.length) (.slice (some ⟨g8, 0, none⟩) a1.length a1.length) := apart_of O16 O8_15.rd (Nat.le_refl _)
  have A16x0x106 : Apart (.slice (some ⟨g16, 0, none⟩) a1.length a1.length) (.slice (some ⟨g10, 0, none⟩) a2.length a2.length) := apart_of O16 O10_15.rd (Nat.le_refl _)
  have S16 : w.heap.size ≤ w15.heap.size := B_15.size
  have h1_16 : Rd w16 w16.heap.size (.slice A1 a1.length c1) (il a1) := h1_15.step hb16
  have h2_16 : Rd w16 w16.heap.size (.slice A2 a2.length c2) (il a2) := h2_15.step hb16
  have O1_16 : Own w16 w.heap.size (.slice (some ⟨g1, 0, none⟩) a1.length a1.length) (il a1) := O1_15.below hb16
  have O2_16 : Own w16 w1.heap.size (.slice (some ⟨g2, 0, none⟩) a2.length a2.length) (il a2) := O2_15.below hb16
  have O3v_16 : Own w16 w2.heap.size v3 (il (dzL a0 a1 a2)) := O3v_15.below hb16
  have O4_16 : Own w16 w3.heap.size (.slice (some ⟨g4, 0, none⟩) a1.length a1.length) ((List.range a1.length).map (mkI (1))) := O4_15.below hb16
  have O5_16 : Own w16 w4.heap.size (.slice (some ⟨g5, 0, none⟩) a2.length a2.length) ((List.range a2.length).map (mkI (1 + a1.length))) := O5_15.below hb16
  have O6v_16 : Own w16 w5.heap.size v6 ((List.range (dzL a0 a1 a2).length).map (mkI (1))) := O6v_15.below hb16
  have O8_16 : Own w16 w7.heap.size (.slice (some ⟨g8, 0, none⟩) a1.length a1.length) (il a1) := O8_15.below hb16
  have O10_16 : Own w16 w9.heap.size (.slice (some ⟨g10, 0, none⟩) a2.length a2.length) (il a2) := O10_15.below hb16
  have B_16 : Below w.heap.size w w16 := B_15.trans (hb16.mono B_15.size)
  clear h1_15 h2_15 O1_15 O2_15 O3v_15 O4_15 O5_15 O6v_15 O8_15 O10_15 B_15
  clear hb16
  go_wp2_with fail
  refine (toI_any _ a2 _ _ h2_16 (Nat.le_refl _) hm2).mono ?_
  rintro e w17 ⟨g17, rfl, O17, hb17⟩
  have A17x0x108 : Apart (.slice (some ⟨g17, 0, none⟩) a2.length a2.length) (.slice A1 a1.length c1) := apart_of O17 h1_16 (Nat.le_refl _)
  have A17x0x110 : Apart (.slice (some ⟨g17, 0, none⟩) a2.length a2.length) (.slice A2 a2.length c2) := apart_of O17 h2_16 (Nat.le_refl _)
  have A17x0x112 : Apart (.slice (some ⟨g17, 0, none⟩) a2.length a2.length) (.slice (some ⟨g1, 0, none⟩) a1.length a1.length) := apart_of O17 O1_16.rd (Nat.le_refl _)
  have A17x0x114 : Apart (.slice (some ⟨g17, 0, none⟩) a2.length a2.length) (.slice (some ⟨g2, 0, none⟩) a2.length a2.length) := apart_of O17 O2_16.rd (Nat.le_refl _)
  have A17x0x116 : Apart (.slice (some ⟨g17, 0, none⟩) a2.length a2.length) v3 := apart_of O17 O3v_16.rd (Nat.le_refl _)
  have A17x0x118 : Apart (.slice (some ⟨g17, 0, none⟩) a2.length a2.length) (.slice (some ⟨g4, 0, none⟩) a1.length a1.length) := apart_of O17 O4_16.rd (Nat.le_refl _)
  have A17x0x120 : Apart (.slice (some ⟨g17, 0, none⟩) a2.length a2.length) (.slice (some ⟨g5, 0, none⟩) a2.length a2.length) := apart_of O17 O5_16.rd (Nat.le_refl _)
  have A17x0x122 : Apart (.slice (some ⟨g17, 0, none⟩) a2.length a2.length) v6 := apart_of O17 O6v_16.rd (Nat.le_refl _)
  have A17x0x124 : Apart (.slice (some ⟨g17, 0, none⟩) a2.length a2.length) (.slice (some ⟨g8, 0, none⟩) a1.length a1.length) := apart_of O17 O8_16.rd (Nat.le_refl _)
  have A17x0x126 : Apart (.slice (some ⟨g17, 0, none⟩) a2.length a2.length) (.slice (some ⟨g10, 0, none⟩) a2.length a2.length) := apart_of O17 O10_16.rd (Nat.le_refl _)
  have A17x0x128 : Apart (.slice (some ⟨g17, 0, none⟩) a2.length a2.length) (.slice (some ⟨g16, 0, none⟩) a1.length a1.length) := apart_of O17 O16.rd (Nat.le_refl _)
  have S17 : w.heap.size ≤ w16.heap.size := B_16.size
  have h1_17 : Rd w17 w17.heap.size (.slice A1 a1.length c1) (il a1) := h1_16.step hb17
  have h2_17 : Rd w17 w17.heap.size (.slice A2 a2.length c2) (il a2) := h2_16.step hb17
  have O1_17 : Own w17 w.heap.size (.slice (some ⟨g1, 0, none⟩) a1.length a1.length) (il a1) := O1_16.below hb17
  have O2_17 : Own w17 w1.heap.size (.slice (some ⟨g2, 0, none⟩) a2.length a2.length) (il a2) := O2_16.below hb17
  have O3v_17 : Own w17 w2.heap.size v3 (il (dzL a0 a1 a2)) := O3v_16.below hb17
  have O4_17 : Own w17 w3.heap.size (.slice (some ⟨g4, 0, none⟩) a1.length a1.length) ((List.range a1.length).map (mkI (1))) := O4_16.below hb17
  have O5_17 : Own w17 w4.heap.size (.slice (some ⟨g5, 0, none⟩) a2.length a2.length) ((List.range a2.length).map (mkI (1 + a1.length))) := O5_16.below hb17
  have O6v_17 : Own w17 w5.heap.size v6 ((List.range (dzL a0 a1 a2).length).map (mkI (1))) := O6v_16.below hb17
  have O8_17 : Own w17 w7.heap.size (.slice (some ⟨g8, 0, none⟩) a1.length a1.length) (il a1) := O8_16.below hb17
  have O10_17 : Own w17 w9.heap.size (.slice (some ⟨g10, 0, none⟩) a2.length a2.length) (il a2) := O10_16.below hb17
  have O16_17 : Own w17 w15.heap.size (.slice (some ⟨g16, 0, none⟩) a1.length a1.length) (il a1) := O16.below hb17
  have B_17 : Below w.heap.size w w17 := B_16.trans (hb17.mono B_16.size)
  clear h1_16 h2_16 O1_16 O2_16 O3v_16 O4_16 O5_16 O6v_16 O8_16 O10_16 O16 B_16
  clear hb17
  go_wp2_with fail
  refine (dzI_any a0 _ _ _ _ _ _ _ O16_17.rd O17.rd hm hm2).mono ?_
  rintro e w18 ⟨v18, rfl, O18v, hb18⟩
  have A18x0x130 : Apart v18 (.slice A1 a1.length c1) := apart_of O18v h1_17 (Nat.le_refl _)
  have A18x0x132 : Apart v18 (.slice A2 a2.length c2) := apart_of O18v h2_17 (Nat.le_refl _)
  have A18x0x134 : Apart v18 (.slice (some ⟨g1, 0, none⟩) a1.length a1.length) := apart_of O18v O1_17.rd (Nat.le_refl _)
  have A18x0x136 : Apart v18 (.slice (some ⟨g2, 0, none⟩) a2.length a2.length) := apart_of O18v O2_17.rd (Nat.le_refl _)
  have A18x0x138 : Apart v18 v3 := apart_of O18v O3v_17.rd (Nat.le_refl _)
  have A18x0x140 : Apart v18 (.slice (some ⟨g4, 0, none⟩) a1.length a1.length) := apart_of O18v O4_17.rd (Nat.le_refl _)
  have A18x0x142 : Apart v18 (.slice (some ⟨g5, 0, none⟩) a2.length a2.length) := apart_of O18v O5_17.rd (Nat.le_refl _)
  have A18x0x144 : Apart v18 v6 := apart_of O18v O6v_17.rd (Nat.le_refl _)
  have A18x0x146 : Apart v18 (.slice (some ⟨g8, 0, none⟩) a1.length a1.length) := apart_of O18v O8_17.rd (Nat.le_refl _)
  have A18x0x148 : Apart v18 (.slice (some ⟨g10, 0, none⟩) a2.length a2.length) := apart_of O18v O10_17.rd (Nat.le_refl _)
  have A18x0x150 : Apart v18 (.slice (some ⟨g16, 0, none⟩) a1.length a1.length) := apart_of O18v O16_17.rd (Nat.le_refl _)
  have A18x0x152 : Apart v18 (.slice (some ⟨g17, 0, none⟩) a2.length a2.length) := apart_of O18v O17.rd (Nat.le_refl _)
  have S18 : w.heap.size ≤ w17.heap.size := B_17.size
  have h1_18 : Rd w18 w18.heap.size (.slice A1 a1.length c1) (il a1) := h1_17.step hb18
  have h2_18 : Rd w18 w18.heap.size (.slice A2 a2.length c2) (il a2) := h2_17.step hb18
  have O1_18 : Own w18 w.heap.size (.slice (some ⟨g1, 0, none⟩) a1.length a1.length) (il a1) := O1_17.below hb18
  have O2_18 : Own w18 w1.heap.size (.slice (some ⟨g2, 0, none⟩) a2.length a2.length) (il a2) := O2_17.below hb18
  have O3v_18 : Own w18 w2.heap.size v3 (il (dzL a0 a1 a2)) := O3v_17.below hb18
  have O4_18 : Own w18 w3.heap.size (.slice (some ⟨g4, 0, none⟩) a1.length a1.length) ((List.range a1.length).map (mkI (1))) := O4_17.below hb18
  have O5_18 : Own w18 w4.heap.size (.slice (some ⟨g5, 0, none⟩) a2.length a2.length) ((List.range a2.length).map (mkI (1 + a1.length))) := O5_17.below hb18
  have O6v_18 : Own w18 w5.heap.size v6 ((List.range (dzL a0 a1 a2).length).map (mkI (1))) := O6v_17.below hb18
  have O8_18 : Own w18 w7.heap.size (.slice (some ⟨g8, 0, none⟩) a1.length a1.length) (il a1) := O8_17.below hb18
  have O10_18 : Own w18 w9.heap.size (.slice (some ⟨g10, 0, none⟩) a2.length a2.length) (il a2) := O10_17.below hb18
  have O16_18 : Own w18 w15.heap.size (.slice (some ⟨g16, 0, none⟩) a1.length a1.length) (il a1) := O16_17.below hb18
  have O17_18 : Own w18 w16.heap.size (.slice (some ⟨g17, 0, none⟩) a2.length a2.length) (il a2) := O17.below hb18
  have B_18 : Below w.heap.size w w18 := B_17.trans (hb18.mono B_17.size)
  clear h1_17 h2_17 O1_17 O2_17 O3v_17 O4_17 O5_17 O6v_17 O8_17 O10_17 O16_17 O17 B_17
  clear hb18
  go_wp2_with fail
  refine (eqI_any _ _ (dzL a0 a1 a2) _ _ _ O18v.rd O3v_18.rd hm3).mono ?_
  rintro e w19 ⟨rfl, n19, hw19⟩
  have h1_19 : Rd w19 w19.heap.size (.slice A1 a1.length c1) (il a1) := by subst hw19; exact h1_18
  have h2_19 : Rd w19 w19.heap.size (.slice A2 a2.length c2) (il a2) := by subst hw19; exact h2_18
  have O1_19 : Own w19 w.heap.size (.slice (some ⟨g1, 0, none⟩) a1.length a1.length) (il a1) := by subst hw19; exact O1_18
  have O2_19 : Own w19 w1.heap.size (.slice (some ⟨g2, 0, none⟩) a2.length a2.length) (il a2) := by subst hw19; exact O2_18
  have O3v_19 : Own w19 w2.heap.size v3 (il (dzL a0 a1 a2)) := by subst hw19; exact O3v_18
  have O4_19 : Own w19 w3.heap.size (.slice (some ⟨g4, 0, none⟩) a1.length a1.length) ((List.range a1.length).map (mkI (1))) := by subst hw19; exact O4_18
  have O5_19 : Own w19 w4.heap.size (.slice (some ⟨g5, 0, none⟩) a2.length a2.length) ((List.range a2.length).map (mkI (1 + a1.length))) := by subst hw19; exact O5_18
  have O6v_19 : Own w19 w5.heap.size v6 ((List.range (dzL a0 a1 a2).length).map (mkI (1))) := by subst hw19; exact O6v_18
  have O8_19 : Own w19 w7.heap.size (.slice (some ⟨g8, 0, none⟩) a1.length a1.length) (il a1) := by subst hw19; exact O8_18
  have O10_19 : Own w19 w9.heap.size (.slice (some ⟨g10, 0, none⟩) a2.length a2.length) (il a2) := by subst hw19; exact O10_18
  have O16_19 : Own w19 w15.heap.size (.slice (some ⟨g16, 0, none⟩) a1.length a1.length) (il a1) := by subst hw19; exact O16_18
  have O17_19 : Own w19 w16.heap.size (.slice (some ⟨g17, 0, none⟩) a2.length a2.length) (il a2) := by subst hw19; exact O17_18
  have O18v_19 : Own w19 w17.heap.size v18 (il (dzL a0 a1 a2)) := by subst hw19; exact O18v
  have B_19 : Below w.heap.size w w19 := by subst hw19; exact below_drawn B_18 _
  clear h1_18 h2_18 O1_18 O2_18 O3v_18 O4_18 O5_18 O6v_18 O8_18 O10_18 O16_18 O17_18 O18v B_18
  clear hw19
  go_wp2_with fail
  refine (heldI_any _ (dzL a0 a1 a2).length _ _ _ O6v_19.rd hm3 (by omega) (by omega)).mono ?_
  rintro e w' ⟨rfl, rfl⟩
  go_wp2_with fail
  go_ret
  exact ⟨rfl, B_19⟩

namespace fnExactDropIntegers
open Go.ChangeShapes Go.WideShapes Go.ChangeAt Go.RowKit
open Go.ChangeMaps (open_string)
set_option linter.unusedVariables false
theorem own : ownKnob Try.prog.godebug = none := by kernel_rfl
theorem laidOut : laidOutB Try.prog = true := by kernel_rfl
set_option maxRecDepth 100000 in
theorem lifted (os : Os) (started : os.Started) (H : Type) (enc : TypeId × Value → H) :
    ReturnsInHanded {} Try.checked os 8 .any (Rows.fnExactDropIntegersSpec.pre6 enc Try.prog Try.f8 Rows.fnExactDropIntegersRow.domain false) (Rows.fnExactDropIntegersSpec.post enc Try.prog Try.f8 false true false false) := by
  refine returnsInHanded_of_change (C := Try.checked) own started (by kernel_rfl) Try.func8
    (ChangeSpec.witness6 (enc := enc) (C := Try.checked) false ⟨#[], #[.int .i64 0, .slice none 0 0, .slice none 0 0], []⟩ 8 (by kernel_rfl) (by kernel_rfl) (by kernel_rfl) (by kernel_rfl)) ?_
  intro W base args ds gs before hval0 hW hcnd _
  have hval : ∀ (j : Nat) t v, Try.f8.params[j]? = some t → args[j]? = some v → Value.okWide Try.prog W .any base t v := hval0
  have hW' := hW
  have hlt0 := hW.lt
  obtain ⟨p, q, hA0, hV, rfl, hfz, hnd⟩ := hW
  have hA : DataW.TrodAll enc Try.prog W 0 (fun _ => true) true Try.f8.params.toList args.toList ds p := hA0
  have hAk := hA
  have hltp : ∀ x ∈ p, x.block < W.heap.size := fun x hx => hlt0 x (List.mem_append_left _ hx)
  have hread : ∀ t ∈ Try.f8.params.toList, Try.prog.readableRec t = true ∧ t < Try.prog.types.size := by
    rw [Try.params8]
    intro t ht
    simp only [List.mem_cons, List.not_mem_nil, or_false] at ht
    rcases ht with rfl | rfl | rfl <;> exact ⟨by kernel_rfl, of_decide_eq_true (by kernel_rfl)⟩
  rw [Try.params8] at hA hval
  obtain ⟨v0, vs0, d0, ds0, p0, q0, hargs, rfl, rfl, h0, r0⟩ := trodAll_cons hA
  obtain ⟨v1, vs1, d1, ds1, p1, q1, rfl, rfl, rfl, h1, r1⟩ := trodAll_cons r0
  obtain ⟨v2, vs2, d2, ds2, p2, q2, rfl, rfl, rfl, h2, r2⟩ := trodAll_cons r1
  obtain ⟨rfl, rfl, rfl⟩ := trodAll_nil r2
  obtain rfl : args = #[v0, v1, v2] := by cases args; simp_all
  obtain ⟨rfl, rfl⟩ := trodVars_none hV
  obtain ⟨a0, rfl, rfl, rfl, w0⟩ := open_int Try.underlying2 (hval 0 2 v0 rfl rfl) h0
  obtain ⟨a1, g1, w1⟩ := open_i64s Try.underlying26 Try.underlying2 (by kernel_rfl) (hval 1 26 v1 rfl rfl) h1 (fun x hx => hltp x (by simp [hx]))
  obtain ⟨a2, g2, w2⟩ := open_i64s Try.underlying26 Try.underlying2 (by kernel_rfl) (hval 2 26 v2 rfl rfl) h2 (fun x hx => hltp x (by simp [hx]))
  clear hA0 hval0
  refine (walk W a0 w0 v1 a1 g1 w1 v2 a2 g2 w2).mono fun e W' ⟨he, hg⟩ => ?_
  subst he
  exact ⟨_, rfl, post_grown (pv := []) hW' hg (fun _ _ _ => (trodAll_cons_mk (shut_bool Try.underlying4 _) trodAll_mk0)) (trodAll_low laidOut hg _ _ _ _ hread hltp hAk) rfl rfl⟩

theorem over : Rows.fnExactDropIntegersRow.holds Try.pinned (OpenSpec.ofChange Rows.fnExactDropIntegersSpec) :=
  OpenClaim.holds_of_wide 8 Try.f8 rfl rfl rfl rfl rfl rfl rfl ⟨rfl, rfl, rfl, rfl, rfl⟩ rfl rfl rfl rfl rfl (by kernel_rfl) Try.func8 (by kernel_rfl)
    (of_decide_eq_true (by kernel_rfl)) (by unfold Func.isWrapper; first | (rw [if_pos (by decide +kernel)]; kernel_rfl) | (rw [if_neg (by decide +kernel)]; exact ⟨rfl, rfl⟩))
    (fun os started H enc _ => lifted os started H enc)

theorem proved : Rows.FnExactDropIntegersSaid := over
end fnExactDropIntegers
end Go.Proofs.Yteogogcjndfkoaa
