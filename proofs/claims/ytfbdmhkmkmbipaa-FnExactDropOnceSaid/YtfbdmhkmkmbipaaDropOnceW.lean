/-
  The walk of the law of DropOnce.
-/
import Derived.Test.YtfbdmhkmkmbipaaRows
import Derived.ProofKit
import Derived.OpenShut
import Derived.WalkLawsBesides
import Derived.KernelRfl
import Derived.Deep.RegionHeld3
import Derived.Test.YtfbdmhkmkmbipaaDtS
import Derived.Test.YtfbdmhkmkmbipaaDtI
import Derived.Test.YtfbdmhkmkmbipaaMkS
import Derived.Test.YtfbdmhkmkmbipaaMkF
import Derived.Test.YtfbdmhkmkmbipaaMel
import Derived.Test.YtfbdmhkmkmbipaaOpS
namespace Go.Proofs.Ytfbdmhkmkmbipaa
open Go.RowKit Fl
set_option linter.unusedVariables false
set_option maxRecDepth 100000 in
set_option maxHeartbeats 8000000 in
theorem fnExactDropOnce.walk (w : World) (v0 : Value) (a0 : List Nat) (s0 : Nat) (h0 : Rd w w.heap.size v0 (a0.map (.float .f32))) (w0 : ∀ x ∈ a0, x < 2 ^ 32) (z0 : s0 < 2 ^ 32) (v1 : Value) (a1 : List Nat) (h1 : Rd w w.heap.size v1 (a1.map (.float .f32))) (w1 : ∀ x ∈ a1, x < 2 ^ 32) (v2 : Value) (a2 : List Nat) (h2 : Rd w w.heap.size v2 (a2.map (.float .f32))) (w2 : ∀ x ∈ a2, x < 2 ^ 32) :
    Calls Try.prog 4 #[.agg #[v0, .float .f32 s0], v1, v2] w fun e w' => e = .returned (.bool true) ∧ Below w.heap.size w w' := by
  have hle0 := h0.le
  rw [show (a0.map (.float .f32)) = fl a0 from rfl, fl_len] at hle0
  unfold maxLen at hle0
  replace h0 : Rd w w.heap.size v0 (fl a0) := h0
  obtain ⟨A0, c0, hv0, q1, q2, q3⟩ := id h0
  clear q1 q2 q3
  rw [fl_len] at hv0
  subst hv0
  have HX0 := Lib.hid w0
  have hle1 := h1.le
  rw [show (a1.map (.float .f32)) = fl a1 from rfl, fl_len] at hle1
  unfold maxLen at hle1
  replace h1 : Rd w w.heap.size v1 (fl a1) := h1
  obtain ⟨A1, c1, hv1, q1, q2, q3⟩ := id h1
  clear q1 q2 q3
  rw [fl_len] at hv1
  subst hv1
  have HX1 := Lib.hid w1
  have hle2 := h2.le
  rw [show (a2.map (.float .f32)) = fl a2 from rfl, fl_len] at hle2
  unfold maxLen at hle2
  replace h2 : Rd w w.heap.size v2 (fl a2) := h2
  obtain ⟨A2, c2, hv2, q1, q2, q3⟩ := id h2
  clear q1 q2 q3
  rw [fl_len] at hv2
  subst hv2
  have HX2 := Lib.hid w2
  have hsf : ∀ (a : Addr) (x : Nat) (w : World), (store a (.float .f32 x)).run Try.prog w = stored Try.prog w a (.float .f32 x) .plain := fun a x w => run_store _ w a _ _ rfl
  have hs0 := z0
  clear w0 w1 w2 z0
  by_cases hbig1 : 1048576 < a1.length
  · go_enter Try.func4, Try.ntmps4
    go_wp2_with fail
    go_ret
    exact ⟨rfl, (Below.refl _ _).alloc (Nat.le_refl _) _⟩
  have hm1 : a1.length ≤ 1048576 := by omega
  by_cases hbig2 : 1048576 < a2.length
  · go_enter Try.func4, Try.ntmps4
    go_wp2_with fail
    go_ret
    exact ⟨rfl, (Below.refl _ _).alloc (Nat.le_refl _) _⟩
  have hm2 : a2.length ≤ 1048576 := by omega
  have hL0 : (dpR a0 s0 a1 a2).length ≤ 1048576 := dpR_len _ _ _ _
  obtain ⟨L, hLe⟩ : ∃ L, L = dpR a0 s0 a1 a2 := ⟨_, rfl⟩
  obtain ⟨b, hbe⟩ : ∃ b, b = dpB a0 s0 a1 a2 := ⟨_, rfl⟩
  rw [← hLe] at hL0
  have hL := hL0
  clear hL0
  have HS := Lib.hid (fun (w' : World) (u0 u1 u2 : Value) (hm0 : a0.length ≤ 1048576) (r0 : Rd w' w'.heap.size u0 (fl a0)) (r1 : Rd w' w'.heap.size u1 (fl a1)) (r2 : Rd w' w'.heap.size u2 (fl a2)) => (show Calls Try.prog 25 #[.agg #[u0, .float .f32 s0], u1, u2] w' (RetDb L b w') by rw [hLe, hbe]; exact dtS_any s0 a0 a1 a2 u0 u1 u2 w' r0 r1 r2 hm0 hm1 hm2 HX0.out HX1.out HX2.out hs0))
  have HI := Lib.hid (fun (w' : World) (u0 u1 u2 : Value) (hm0 : a0.length ≤ 1048576) (r0 : Rd w' w'.heap.size u0 (fl a0)) (r1 : Rd w' w'.heap.size u1 (fl a1)) (r2 : Rd w' w'.heap.size u2 (fl a2)) => (show Calls Try.prog 26 #[.agg #[u0, .float .f32 s0], u1, u2] w' (RetDb L b w') by rw [hLe, hbe]; exact dtI_any s0 a0 a1 a2 u0 u1 u2 w' r0 r1 r2 hm0 hm1 hm2 HX0.out HX1.out HX2.out hs0))
  clear hLe hbe
  go_enter Try.func4, Try.ntmps4
  have B_0 : Below w.heap.size w w := Below.refl _ _
  go_wp2_with fail
  have hb1 : Below w.heap.size w (w.alloc (.cells #[(.slice A0 a0.length c0), (.float .f32 s0)] 25)) := (Below.refl _ _).alloc (Nat.le_refl _) _
  have Cp0_1 : (w.alloc (.cells #[(.slice A0 a0.length c0), (.float .f32 s0)] 25)).cell? ⟨w.heap.size, 0, none⟩ = some (.slice A0 a0.length c0) := (cell_of_row _ _ _ _ _ _ (heap_alloc_new w _)).trans rfl
  have Cp1_1 : (w.alloc (.cells #[(.slice A0 a0.length c0), (.float .f32 s0)] 25)).cell? ⟨w.heap.size, 1, none⟩ = some (.float .f32 s0) := (cell_of_row _ _ _ _ _ _ (heap_alloc_new w _)).trans rfl
  have Zp_1 : w.heap.size < (w.alloc (.cells #[(.slice A0 a0.length c0), (.float .f32 s0)] 25)).heap.size := by simp
  generalize (w.alloc (.cells #[(.slice A0 a0.length c0), (.float .f32 s0)] 25)) = w1 at *
  have h0_1 : Rd w1 w1.heap.size (.slice A0 a0.length c0) (fl a0) := h0.step hb1
  have h1_1 : Rd w1 w1.heap.size (.slice A1 a1.length c1) (fl a1) := h1.step hb1
  have h2_1 : Rd w1 w1.heap.size (.slice A2 a2.length c2) (fl a2) := h2.step hb1
  have B_1 : Below w.heap.size w w1 := B_0.trans (hb1.mono B_0.size)
  clear h0 h1 h2 B_0
  clear hb1
  refine (Sf.szSch_any _ a0 s0 1048576 _ h0_1 (by omega) (by omega) hle0).mono ?_
  rintro e w2 ⟨rfl, hb2⟩
  have Cp0_2 : w2.cell? ⟨w.heap.size, 0, none⟩ = some (.slice A0 a0.length c0) := (hb2.cell (p := ⟨w.heap.size, 0, none⟩) Zp_1).trans Cp0_1
  have Cp1_2 : w2.cell? ⟨w.heap.size, 1, none⟩ = some (.float .f32 s0) := (hb2.cell (p := ⟨w.heap.size, 1, none⟩) Zp_1).trans Cp1_1
  have Zp_2 : w.heap.size < w2.heap.size := Nat.lt_of_lt_of_le Zp_1 hb2.size
  clear Cp0_1 Cp1_1 Zp_1
  have h0_2 : Rd w2 w2.heap.size (.slice A0 a0.length c0) (fl a0) := h0_1.step hb2
  have h1_2 : Rd w2 w2.heap.size (.slice A1 a1.length c1) (fl a1) := h1_1.step hb2
  have h2_2 : Rd w2 w2.heap.size (.slice A2 a2.length c2) (fl a2) := h2_1.step hb2
  have B_2 : Below w.heap.size w w2 := B_1.trans (hb2.mono B_1.size)
  clear h0_1 h1_1 h2_1 B_1
  clear hb2
  by_cases hbig0 : (1048576 : Int) < a0.length
  · rw [if_pos hbig0]
    go_wp2_with fail
    go_ret
    exact ⟨rfl, B_2⟩
  rw [if_neg hbig0]
  have hm0 : a0.length ≤ 1048576 := by omega
  have hl0 : 0 ≤ (1048576 : Int) - a0.length := by omega
  clear hbig0
  go_wp2_with fail
  refine (Sf.toSch_any _ a0 s0 _ h0_2 hm0).mono ?_
  rintro e w3 ⟨g3, rfl, O3, hb3⟩
  have SP3 : w.heap.size < w2.heap.size := Zp_2
  have A3x0x0 : Apart (.slice (some ⟨g3, 0, none⟩) a0.length a0.length) (.slice A0 a0.length c0) := apart_of O3 h0_2 (Nat.le_refl _)
  have A3x0x2 : Apart (.slice (some ⟨g3, 0, none⟩) a0.length a0.length) (.slice A1 a1.length c1) := apart_of O3 h1_2 (Nat.le_refl _)
  have A3x0x4 : Apart (.slice (some ⟨g3, 0, none⟩) a0.length a0.length) (.slice A2 a2.length c2) := apart_of O3 h2_2 (Nat.le_refl _)
  have S3 : w.heap.size ≤ w2.heap.size := B_2.size
  have Cp0_3 : w3.cell? ⟨w.heap.size, 0, none⟩ = some (.slice A0 a0.length c0) := (hb3.cell (p := ⟨w.heap.size, 0, none⟩) Zp_2).trans Cp0_2
  have Cp1_3 : w3.cell? ⟨w.heap.size, 1, none⟩ = some (.float .f32 s0) := (hb3.cell (p := ⟨w.heap.size, 1, none⟩) Zp_2).trans Cp1_2
  have Zp_3 : w.heap.size < w3.heap.size := Nat.lt_of_lt_of_le Zp_2 hb3.size
  clear Cp0_2 Cp1_2 Zp_2
  have h0_3 : Rd w3 w3.heap.size (.slice A0 a0.length c0) (fl a0) := h0_2.step hb3
  have h1_3 : Rd w3 w3.heap.size (.slice A1 a1.length c1) (fl a1) := h1_2.step hb3
  have h2_3 : Rd w3 w3.heap.size (.slice A2 a2.length c2) (fl a2) := h2_2.step hb3
  have B_3 : Below w.heap.size w w3 := B_2.trans (hb3.mono B_2.size)
  clear h0_2 h1_2 h2_2 B_2
  clear hb3
  go_wp2_with fail
  refine (toF_any _ a1 _ _ h1_3 (Nat.le_refl _) hm1).mono ?_
  rintro e w4 ⟨g4, rfl, O4, hb4⟩
  replace O4 := Own.row O4
  have SP4 : w.heap.size < w3.heap.size := Zp_3
  have A4x0x6 : Apart (.slice (some ⟨g4, 0, none⟩) a1.length a1.length) (.slice A0 a0.length c0) := apart_of O4 h0_3 (Nat.le_refl _)
  have A4x0x8 : Apart (.slice (some ⟨g4, 0, none⟩) a1.length a1.length) (.slice A1 a1.length c1) := apart_of O4 h1_3 (Nat.le_refl _)
  have A4x0x10 : Apart (.slice (some ⟨g4, 0, none⟩) a1.length a1.length) (.slice A2 a2.length c2) := apart_of O4 h2_3 (Nat.le_refl _)
  have A4x0x12 : Apart (.slice (some ⟨g4, 0, none⟩) a1.length a1.length) (.slice (some ⟨g3, 0, none⟩) a0.length a0.length) := apart_of O4 O3.rd (Nat.le_refl _)
  have S4 : w.heap.size ≤ w3.heap.size := B_3.size
  have Cp0_4 : w4.cell? ⟨w.heap.size, 0, none⟩ = some (.slice A0 a0.length c0) := (hb4.cell (p := ⟨w.heap.size, 0, none⟩) Zp_3).trans Cp0_3
  have Cp1_4 : w4.cell? ⟨w.heap.size, 1, none⟩ = some (.float .f32 s0) := (hb4.cell (p := ⟨w.heap.size, 1, none⟩) Zp_3).trans Cp1_3
  have Zp_4 : w.heap.size < w4.heap.size := Nat.lt_of_lt_of_le Zp_3 hb4.size
  clear Cp0_3 Cp1_3 Zp_3
  have h0_4 : Rd w4 w4.heap.size (.slice A0 a0.length c0) (fl a0) := h0_3.step hb4
  have h1_4 : Rd w4 w4.heap.size (.slice A1 a1.length c1) (fl a1) := h1_3.step hb4
  have h2_4 : Rd w4 w4.heap.size (.slice A2 a2.length c2) (fl a2) := h2_3.step hb4
  have O3_4 : Own w4 w2.heap.size (.slice (some ⟨g3, 0, none⟩) a0.length a0.length) (fl a0) := O3.below hb4
  have B_4 : Below w.heap.size w w4 := B_3.trans (hb4.mono B_3.size)
  clear h0_3 h1_3 h2_3 O3 B_3
  clear hb4
  go_wp2_with fail
  refine (toF_any _ a2 _ _ h2_4 (Nat.le_refl _) hm2).mono ?_
  rintro e w5 ⟨g5, rfl, O5, hb5⟩
  replace O5 := Own.row O5
  have SP5 : w.heap.size < w4.heap.size := Zp_4
  have A5x0x14 : Apart (.slice (some ⟨g5, 0, none⟩) a2.length a2.length) (.slice A0 a0.length c0) := apart_of O5 h0_4 (Nat.le_refl _)
  have A5x0x16 : Apart (.slice (some ⟨g5, 0, none⟩) a2.length a2.length) (.slice A1 a1.length c1) := apart_of O5 h1_4 (Nat.le_refl _)
  have A5x0x18 : Apart (.slice (some ⟨g5, 0, none⟩) a2.length a2.length) (.slice A2 a2.length c2) := apart_of O5 h2_4 (Nat.le_refl _)
  have A5x0x20 : Apart (.slice (some ⟨g5, 0, none⟩) a2.length a2.length) (.slice (some ⟨g3, 0, none⟩) a0.length a0.length) := apart_of O5 O3_4.rd (Nat.le_refl _)
  have A5x0x22 : Apart (.slice (some ⟨g5, 0, none⟩) a2.length a2.length) (.slice (some ⟨g4, 0, none⟩) a1.length a1.length) := apart_of O5 O4.rd (Nat.le_refl _)
  have S5 : w.heap.size ≤ w4.heap.size := B_4.size
  have Cp0_5 : w5.cell? ⟨w.heap.size, 0, none⟩ = some (.slice A0 a0.length c0) := (hb5.cell (p := ⟨w.heap.size, 0, none⟩) Zp_4).trans Cp0_4
  have Cp1_5 : w5.cell? ⟨w.heap.size, 1, none⟩ = some (.float .f32 s0) := (hb5.cell (p := ⟨w.heap.size, 1, none⟩) Zp_4).trans Cp1_4
  have Zp_5 : w.heap.size < w5.heap.size := Nat.lt_of_lt_of_le Zp_4 hb5.size
  clear Cp0_4 Cp1_4 Zp_4
  have h0_5 : Rd w5 w5.heap.size (.slice A0 a0.length c0) (fl a0) := h0_4.step hb5
  have h1_5 : Rd w5 w5.heap.size (.slice A1 a1.length c1) (fl a1) := h1_4.step hb5
  have h2_5 : Rd w5 w5.heap.size (.slice A2 a2.length c2) (fl a2) := h2_4.step hb5
  have O3_5 : Own w5 w2.heap.size (.slice (some ⟨g3, 0, none⟩) a0.length a0.length) (fl a0) := O3_4.below hb5
  have O4_5 : Own w5 w3.heap.size (.slice (some ⟨g4, 0, none⟩) a1.length a1.length) (fl a1) := O4.below hb5
  have B_5 : Below w.heap.size w w5 := B_4.trans (hb5.mono B_4.size)
  clear h0_4 h1_4 h2_4 O3_4 O4 B_4
  clear hb5
  go_wp2_with fail
  refine (HS.out _ _ _ _ hm0 O3_5.rd O4_5.rd O5.rd).mono ?_
  rintro e w6 ⟨r6, rfl, O6, hb6⟩
  have SP6 : w.heap.size < w5.heap.size := Zp_5
  have A6x0x24 : Apart r6 (.slice A0 a0.length c0) := apart_of O6 h0_5 (Nat.le_refl _)
  have A6x0x26 : Apart r6 (.slice A1 a1.length c1) := apart_of O6 h1_5 (Nat.le_refl _)
  have A6x0x28 : Apart r6 (.slice A2 a2.length c2) := apart_of O6 h2_5 (Nat.le_refl _)
  have A6x0x30 : Apart r6 (.slice (some ⟨g3, 0, none⟩) a0.length a0.length) := apart_of O6 O3_5.rd (Nat.le_refl _)
  have A6x0x32 : Apart r6 (.slice (some ⟨g4, 0, none⟩) a1.length a1.length) := apart_of O6 O4_5.rd (Nat.le_refl _)
  have A6x0x34 : Apart r6 (.slice (some ⟨g5, 0, none⟩) a2.length a2.length) := apart_of O6 O5.rd (Nat.le_refl _)
  have S6 : w.heap.size ≤ w5.heap.size := B_5.size
  have Cp0_6 : w6.cell? ⟨w.heap.size, 0, none⟩ = some (.slice A0 a0.length c0) := (hb6.cell (p := ⟨w.heap.size, 0, none⟩) Zp_5).trans Cp0_5
  have Cp1_6 : w6.cell? ⟨w.heap.size, 1, none⟩ = some (.float .f32 s0) := (hb6.cell (p := ⟨w.heap.size, 1, none⟩) Zp_5).trans Cp1_5
  have Zp_6 : w.heap.size < w6.heap.size := Nat.lt_of_lt_of_le Zp_5 hb6.size
  clear Cp0_5 Cp1_5 Zp_5
  have h0_6 : Rd w6 w6.heap.size (.slice A0 a0.length c0) (fl a0) := h0_5.step hb6
  have h1_6 : Rd w6 w6.heap.size (.slice A1 a1.length c1) (fl a1) := h1_5.step hb6
  have h2_6 : Rd w6 w6.heap.size (.slice A2 a2.length c2) (fl a2) := h2_5.step hb6
  have O3_6 : Own w6 w2.heap.size (.slice (some ⟨g3, 0, none⟩) a0.length a0.length) (fl a0) := O3_5.below hb6
  have O4_6 : Own w6 w3.heap.size (.slice (some ⟨g4, 0, none⟩) a1.length a1.length) (fl a1) := O4_5.below hb6
  have O5_6 : Own w6 w4.heap.size (.slice (some ⟨g5, 0, none⟩) a2.length a2.length) (fl a2) := O5.below hb6
  have B_6 : Below w.heap.size w w6 := B_5.trans (hb6.mono B_5.size)
  clear h0_5 h1_5 h2_5 O3_5 O4_5 O5 B_5
  clear hb6
  clear O3_6 O4_6 O5_6
  go_wp2_with fail
  refine (Sf.toSch_any _ a0 s0 _ h0_6 hm0).mono ?_
  rintro e w7 ⟨g7, rfl, O7, hb7⟩
  have SP7 : w.heap.size < w6.heap.size := Zp_6
  have A7x0x36 : Apart (.slice (some ⟨g7, 0, none⟩) a0.length a0.length) (.slice A0 a0.length c0) := apart_of O7 h0_6 (Nat.le_refl _)
  have A7x0x38 : Apart (.slice (some ⟨g7, 0, none⟩) a0.length a0.length) (.slice A1 a1.length c1) := apart_of O7 h1_6 (Nat.le_refl _)
  have A7x0x40 : Apart (.slice (some ⟨g7, 0, none⟩) a0.length a0.length) (.slice A2 a2.length c2) := apart_of O7 h2_6 (Nat.le_refl _)
  have A7x0x42 : Apart (.slice (some ⟨g7, 0, none⟩) a0.length a0.length) r6 := apart_of O7 O6.rd (Nat.le_refl _)
  have S7 : w.heap.size ≤ w6.heap.size := B_6.size
  have Cp0_7 : w7.cell? ⟨w.heap.size, 0, none⟩ = some (.slice A0 a0.length c0) := (hb7.cell (p := ⟨w.heap.size, 0, none⟩) Zp_6).trans Cp0_6
  have Cp1_7 : w7.cell? ⟨w.heap.size, 1, none⟩ = some (.float .f32 s0) := (hb7.cell (p := ⟨w.heap.size, 1, none⟩) Zp_6).trans Cp1_6
  have Zp_7 : w.heap.size < w7.heap.size := Nat.lt_of_lt_of_le Zp_6 hb7.size
  clear Cp0_6 Cp1_6 Zp_6
  have h0_7 : Rd w7 w7.heap.size (.slice A0 a0.length c0) (fl a0) := h0_6.step hb7
  have h1_7 : Rd w7 w7.heap.size (.slice A1 a1.length c1) (fl a1) := h1_6.step hb7
  have h2_7 : Rd w7 w7.heap.size (.slice A2 a2.length c2) (fl a2) := h2_6.step hb7
  have O6_7 : Own w7 w5.heap.size r6 (fl L) := O6.below hb7
  have B_7 : Below w.heap.size w w7 := B_6.trans (hb7.mono B_6.size)
  clear h0_6 h1_6 h2_6 O6 B_6
  clear hb7
  go_wp2_with fail
  have hb8 : Below w7.heap.size w7 (w7.alloc (.cells #[(.slice (some ⟨g7, 0, none⟩) a0.length a0.length), (.float .f32 s0)] 29)) := (Below.refl _ _).alloc (Nat.le_refl _) _
  have Cx0_8 : (w7.alloc (.cells #[(.slice (some ⟨g7, 0, none⟩) a0.length a0.length), (.float .f32 s0)] 29)).cell? ⟨w7.heap.size, 0, none⟩ = some (.slice (some ⟨g7, 0, none⟩) a0.length a0.length) := (cell_of_row _ _ _ _ _ _ (heap_alloc_new w7 _)).trans rfl
  have Cx1_8 : (w7.alloc (.cells #[(.slice (some ⟨g7, 0, none⟩) a0.length a0.length), (.float .f32 s0)] 29)).cell? ⟨w7.heap.size, 1, none⟩ = some (.float .f32 s0) := (cell_of_row _ _ _ _ _ _ (heap_alloc_new w7 _)).trans rfl
  have Zx_8 : w7.heap.size < (w7.alloc (.cells #[(.slice (some ⟨g7, 0, none⟩) a0.length a0.length), (.float .f32 s0)] 29)).heap.size := by simp
  generalize (w7.alloc (.cells #[(.slice (some ⟨g7, 0, none⟩) a0.length a0.length), (.float .f32 s0)] 29)) = w8 at *
  have Cp0_8 : w8.cell? ⟨w.heap.size, 0, none⟩ = some (.slice A0 a0.length c0) := (hb8.cell (p := ⟨w.heap.size, 0, none⟩) Zp_7).trans Cp0_7
  have Cp1_8 : w8.cell? ⟨w.heap.size, 1, none⟩ = some (.float .f32 s0) := (hb8.cell (p := ⟨w.heap.size, 1, none⟩) Zp_7).trans Cp1_7
  have Zp_8 : w.heap.size < w8.heap.size := Nat.lt_of_lt_of_le Zp_7 hb8.size
  clear Cp0_7 Cp1_7 Zp_7
  have h0_8 : Rd w8 w8.heap.size (.slice A0 a0.length c0) (fl a0) := h0_7.step hb8
  have h1_8 : Rd w8 w8.heap.size (.slice A1 a1.length c1) (fl a1) := h1_7.step hb8
  have h2_8 : Rd w8 w8.heap.size (.slice A2 a2.length c2) (fl a2) := h2_7.step hb8
  have O6_8 : Own w8 w5.heap.size r6 (fl L) := O6_7.below hb8
  have O7_8 : Own w8 w6.heap.size (.slice (some ⟨g7, 0, none⟩) a0.length a0.length) (fl a0) := O7.below hb8
  have B_8 : Below w.heap.size w w8 := B_7.trans (hb8.mono B_7.size)
  clear h0_7 h1_7 h2_7 O6_7 O7 B_7
  clear hb8
  go_wp2_with fail
  refine (toF_any _ a1 _ _ h1_8 (Nat.le_refl _) hm1).mono ?_
  rintro e w9 ⟨g9, rfl, O9, hb9⟩
  replace O9 := Own.row O9
  have SP9 : w.heap.size < w8.heap.size := Zp_8
  have A9x0x44 : Apart (.slice (some ⟨g9, 0, none⟩) a1.length a1.length) (.slice A0 a0.length c0) := apart_of O9 h0_8 (Nat.le_refl _)
  have A9x0x46 : Apart (.slice (some ⟨g9, 0, none⟩) a1.length a1.length) (.slice A1 a1.length c1) := apart_of O9 h1_8 (Nat.le_refl _)
  have A9x0x48 : Apart (.slice (some ⟨g9, 0, none⟩) a1.length a1.length) (.slice A2 a2.length c2) := apart_of O9 h2_8 (Nat.le_refl _)
  have A9x0x50 : Apart (.slice (some ⟨g9, 0, none⟩) a1.length a1.length) r6 := apart_of O9 O6_8.rd (Nat.le_refl _)
  have A9x0x52 : Apart (.slice (some ⟨g9, 0, none⟩) a1.length a1.length) (.slice (some ⟨g7, 0, none⟩) a0.length a0.length) := apart_of O9 O7_8.rd (Nat.le_refl _)
  have S9 : w.heap.size ≤ w8.heap.size := B_8.size
  have Cp0_9 : w9.cell? ⟨w.heap.size, 0, none⟩ = some (.slice A0 a0.length c0) := (hb9.cell (p := ⟨w.heap.size, 0, none⟩) Zp_8).trans Cp0_8
  have Cp1_9 : w9.cell? ⟨w.heap.size, 1, none⟩ = some (.float .f32 s0) := (hb9.cell (p := ⟨w.heap.size, 1, none⟩) Zp_8).trans Cp1_8
  have Zp_9 : w.heap.size < w9.heap.size := Nat.lt_of_lt_of_le Zp_8 hb9.size
  have Cx0_9 : w9.cell? ⟨w7.heap.size, 0, none⟩ = some (.slice (some ⟨g7, 0, none⟩) a0.length a0.length) := (hb9.cell (p := ⟨w7.heap.size, 0, none⟩) Zx_8).trans Cx0_8
  have Cx1_9 : w9.cell? ⟨w7.heap.size, 1, none⟩ = some (.float .f32 s0) := (hb9.cell (p := ⟨w7.heap.size, 1, none⟩) Zx_8).trans Cx1_8
  have Zx_9 : w7.heap.size < w9.heap.size := Nat.lt_of_lt_of_le Zx_8 hb9.size
  clear Cp0_8 Cp1_8 Zp_8 Cx0_8 Cx1_8 Zx_8
  have h0_9 : Rd w9 w9.heap.size (.slice A0 a0.length c0) (fl a0) := h0_8.step hb9
  have h1_9 : Rd w9 w9.heap.size (.slice A1 a1.length c1) (fl a1) := h1_8.step hb9
  have h2_9 : Rd w9 w9.heap.size (.slice A2 a2.length c2) (fl a2) := h2_8.step hb9
  have O6_9 : Own w9 w5.heap.size r6 (fl L) := O6_8.below hb9
  have O7_9 : Own w9 w6.heap.size (.slice (some ⟨g7, 0, none⟩) a0.length a0.length) (fl a0) := O7_8.below hb9
  have B_9 : Below w.heap.size w w9 := B_8.trans (hb9.mono B_8.size)
  clear h0_8 h1_8 h2_8 O6_8 O7_8 B_8
  clear hb9
  go_wp2_with fail
  refine (toF_any _ a2 _ _ h2_9 (Nat.le_refl _) hm2).mono ?_
  rintro e w10 ⟨g10, rfl, O10, hb10⟩
  replace O10 := Own.row O10
  have SP10 : w.heap.size < w9.heap.size := Zp_9
  have A10x0x54 : Apart (.slice (some ⟨g10, 0, none⟩) a2.length a2.length) (.slice A0 a0.length c0) := apart_of O10 h0_9 (Nat.le_refl _)
  have A10x0x56 : Apart (.slice (some ⟨g10, 0, none⟩) a2.length a2.length) (.slice A1 a1.length c1) := apart_of O10 h1_9 (Nat.le_refl _)
  have A10x0x58 : Apart (.slice (some ⟨g10, 0, none⟩) a2.length a2.length) (.slice A2 a2.length c2) := apart_of O10 h2_9 (Nat.le_refl _)
  have A10x0x60 : Apart (.slice (some ⟨g10, 0, none⟩) a2.length a2.length) r6 := apart_of O10 O6_9.rd (Nat.le_refl _)
  have A10x0x62 : Apart (.slice (some ⟨g10, 0, none⟩) a2.length a2.length) (.slice (some ⟨g7, 0, none⟩) a0.length a0.length) := apart_of O10 O7_9.rd (Nat.le_refl _)
  have A10x0x64 : Apart (.slice (some ⟨g10, 0, none⟩) a2.length a2.length) (.slice (some ⟨g9, 0, none⟩) a1.length a1.length) := apart_of O10 O9.rd (Nat.le_refl _)
  have S10 : w.heap.size ≤ w9.heap.size := B_9.size
  have Cp0_10 : w10.cell? ⟨w.heap.size, 0, none⟩ = some (.slice A0 a0.length c0) := (hb10.cell (p := ⟨w.heap.size, 0, none⟩) Zp_9).trans Cp0_9
  have Cp1_10 : w10.cell? ⟨w.heap.size, 1, none⟩ = some (.float .f32 s0) := (hb10.cell (p := ⟨w.heap.size, 1, none⟩) Zp_9).trans Cp1_9
  have Zp_10 : w.heap.size < w10.heap.size := Nat.lt_of_lt_of_le Zp_9 hb10.size
  have Cx0_10 : w10.cell? ⟨w7.heap.size, 0, none⟩ = some (.slice (some ⟨g7, 0, none⟩) a0.length a0.length) := (hb10.cell (p := ⟨w7.heap.size, 0, none⟩) Zx_9).trans Cx0_9
  have Cx1_10 : w10.cell? ⟨w7.heap.size, 1, none⟩ = some (.float .f32 s0) := (hb10.cell (p := ⟨w7.heap.size, 1, none⟩) Zx_9).trans Cx1_9
  have Zx_10 : w7.heap.size < w10.heap.size := Nat.lt_of_lt_of_le Zx_9 hb10.size
  clear Cp0_9 Cp1_9 Zp_9 Cx0_9 Cx1_9 Zx_9
  have h0_10 : Rd w10 w10.heap.size (.slice A0 a0.length c0) (fl a0) := h0_9.step hb10
  have h1_10 : Rd w10 w10.heap.size (.slice A1 a1.length c1) (fl a1) := h1_9.step hb10
  have h2_10 : Rd w10 w10.heap.size (.slice A2 a2.length c2) (fl a2) := h2_9.step hb10
  have O6_10 : Own w10 w5.heap.size r6 (fl L) := O6_9.below hb10
  have O7_10 : Own w10 w6.heap.size (.slice (some ⟨g7, 0, none⟩) a0.length a0.length) (fl a0) := O7_9.below hb10
  have O9_10 : Own w10 w8.heap.size (.slice (some ⟨g9, 0, none⟩) a1.length a1.length) (fl a1) := O9.below hb10
  have B_10 : Below w.heap.size w w10 := B_9.trans (hb10.mono B_9.size)
  clear h0_9 h1_9 h2_9 O6_9 O7_9 O9 B_9
  clear hb10
  go_wp2_with fail
  refine (HI.out _ _ _ _ hm0 O7_10.rd O9_10.rd O10.rd).mono ?_
  rintro e w11 ⟨u11, rfl, O11, hb11⟩
  have SP11 : w.heap.size < w10.heap.size := Zp_10
  have A11x0x66 : Apart u11 (.slice A0 a0.length c0) := apart_of O11 h0_10 (Nat.le_refl _)
  have A11x0x68 : Apart u11 (.slice A1 a1.length c1) := apart_of O11 h1_10 (Nat.le_refl _)
  have A11x0x70 : Apart u11 (.slice A2 a2.length c2) := apart_of O11 h2_10 (Nat.le_refl _)
  have A11x0x72 : Apart u11 r6 := apart_of O11 O6_10.rd (Nat.le_refl _)
  have A11x0x74 : Apart u11 (.slice (some ⟨g7, 0, none⟩) a0.length a0.length) := apart_of O11 O7_10.rd (Nat.le_refl _)
  have A11x0x76 : Apart u11 (.slice (some ⟨g9, 0, none⟩) a1.length a1.length) := apart_of O11 O9_10.rd (Nat.le_refl _)
  have A11x0x78 : Apart u11 (.slice (some ⟨g10, 0, none⟩) a2.length a2.length) := apart_of O11 O10.rd (Nat.le_refl _)
  have S11 : w.heap.size ≤ w10.heap.size := B_10.size
  have Cp0_11 : w11.cell? ⟨w.heap.size, 0, none⟩ = some (.slice A0 a0.length c0) := (hb11.cell (p := ⟨w.heap.size, 0, none⟩) Zp_10).trans Cp0_10
  have Cp1_11 : w11.cell? ⟨w.heap.size, 1, none⟩ = some (.float .f32 s0) := (hb11.cell (p := ⟨w.heap.size, 1, none⟩) Zp_10).trans Cp1_10
  have Zp_11 : w.heap.size < w11.heap.size := Nat.lt_of_lt_of_le Zp_10 hb11.size
  have Cx0_11 : w11.cell? ⟨w7.heap.size, 0, none⟩ = some (.slice (some ⟨g7, 0, none⟩) a0.length a0.length) := (hb11.cell (p := ⟨w7.heap.size, 0, none⟩) Zx_10).trans Cx0_10
  have Cx1_11 : w11.cell? ⟨w7.heap.size, 1, none⟩ = some (.float .f32 s0) := (hb11.cell (p := ⟨w7.heap.size, 1, none⟩) Zx_10).trans Cx1_10
  have Zx_11 : w7.heap.size < w11.heap.size := Nat.lt_of_lt_of_le Zx_10 hb11.size
  clear Cp0_10 Cp1_10 Zp_10 Cx0_10 Cx1_10 Zx_10
  have h0_11 : Rd w11 w11.heap.size (.slice A0 a0.length c0) (fl a0) := h0_10.step hb11
  have h1_11 : Rd w11 w11.heap.size (.slice A1 a1.length c1) (fl a1) := h1_10.step hb11
  have h2_11 : Rd w11 w11.heap.size (.slice A2 a2.length c2) (fl a2) := h2_10.step hb11
  have O6_11 : Own w11 w5.heap.size r6 (fl L) := O6_10.below hb11
  have O7_11 : Own w11 w6.heap.size (.slice (some ⟨g7, 0, none⟩) a0.length a0.length) (fl a0) := O7_10.below hb11
  have O9_11 : Own w11 w8.heap.size (.slice (some ⟨g9, 0, none⟩) a1.length a1.length) (fl a1) := O9_10.below hb11
  have O10_11 : Own w11 w9.heap.size (.slice (some ⟨g10, 0, none⟩) a2.length a2.length) (fl a2) := O10.below hb11
  have B_11 : Below w.heap.size w w11 := B_10.trans (hb11.mono B_10.size)
  clear h0_10 h1_10 h2_10 O6_10 O7_10 O9_10 O10 B_10
  clear hb11
  go_wp2_with fail
  refine (eqF_any _ _ L L _ _ O11.rd O6_11.rd (Worth.refl _) hL).mono ?_
  rintro e w12 ⟨rfl, n12, hw12⟩
  have Cp0_12 : w12.cell? ⟨w.heap.size, 0, none⟩ = some (.slice A0 a0.length c0) := by subst hw12; exact Cp0_11
  have Cp1_12 : w12.cell? ⟨w.heap.size, 1, none⟩ = some (.float .f32 s0) := by subst hw12; exact Cp1_11
  have Zp_12 : w.heap.size < w12.heap.size := by subst hw12; exact Zp_11
  have Cx0_12 : w12.cell? ⟨w7.heap.size, 0, none⟩ = some (.slice (some ⟨g7, 0, none⟩) a0.length a0.length) := by subst hw12; exact Cx0_11
  have Cx1_12 : w12.cell? ⟨w7.heap.size, 1, none⟩ = some (.float .f32 s0) := by subst hw12; exact Cx1_11
  have Zx_12 : w7.heap.size < w12.heap.size := by subst hw12; exact Zx_11
  clear Cp0_11 Cp1_11 Zp_11 Cx0_11 Cx1_11 Zx_11
  have h0_12 : Rd w12 w12.heap.size (.slice A0 a0.length c0) (fl a0) := by subst hw12; exact h0_11
  have h1_12 : Rd w12 w12.heap.size (.slice A1 a1.length c1) (fl a1) := by subst hw12; exact h1_11
  have h2_12 : Rd w12 w12.heap.size (.slice A2 a2.length c2) (fl a2) := by subst hw12; exact h2_11
  have O6_12 : Own w12 w5.heap.size r6 (fl L) := by subst hw12; exact O6_11
  have O7_12 : Own w12 w6.heap.size (.slice (some ⟨g7, 0, none⟩) a0.length a0.length) (fl a0) := by subst hw12; exact O7_11
  have O9_12 : Own w12 w8.heap.size (.slice (some ⟨g9, 0, none⟩) a1.length a1.length) (fl a1) := by subst hw12; exact O9_11
  have O10_12 : Own w12 w9.heap.size (.slice (some ⟨g10, 0, none⟩) a2.length a2.length) (fl a2) := by subst hw12; exact O10_11
  have O11_12 : Own w12 w10.heap.size u11 (fl L) := by subst hw12; exact O11
  have B_12 : Below w.heap.size w w12 := by subst hw12; exact below_drawn B_11 _
  clear h0_11 h1_11 h2_11 O6_11 O7_11 O9_11 O10_11 O11 B_11
  clear hw12
  go_wp2_with fail
  have HT := Lib.hid (fun (w' : World) (hr : Rd w' w'.heap.size (.slice A0 a0.length c0) (fl a0)) => Sf.toSch_any (.slice A0 a0.length c0) a0 s0 w' hr hm0)
  go_region_held3 (fun w' => w'.cell? ⟨w.heap.size, 0, none⟩ = some (.slice A0 a0.length c0) ∧ w'.cell? ⟨w.heap.size, 1, none⟩ = some (.float .f32 s0) ∧ w'.cell? ⟨w7.heap.size, 0, none⟩ = some (.slice (some ⟨g7, 0, none⟩) a0.length a0.length) ∧ w'.cell? ⟨w7.heap.size, 1, none⟩ = some (.float .f32 s0)) (first | exact ⟨Cp0_12, Cp1_12, Cx0_12, Cx1_12⟩ | exact ⟨Yp0_13, Yp1_13, Yx0_13, Yx1_13⟩ | exact ⟨Xp0_13, Xp1_13, Xx0_13, Xx1_13⟩) ((first | (go_at_call 17; refine (HT.out _ ?_).mono ?_; exact h0_12; rintro e w13 ⟨g13, rfl, O13, hb13⟩; replace hb13 : Below w12.heap.size w12 w13 := below_draw1 hb13; replace O13 : Own w13 w12.heap.size (.slice (some ⟨g13, 0, none⟩) a0.length a0.length) (fl a0) := O13; have Yp0_13 : w13.cell? ⟨w.heap.size, 0, none⟩ = some (.slice A0 a0.length c0) := (hb13.cell (p := ⟨w.heap.size, 0, none⟩) Zp_12).trans Cp0_12; have Yp1_13 : w13.cell? ⟨w.heap.size, 1, none⟩ = some (.float .f32 s0) := (hb13.cell (p := ⟨w.heap.size, 1, none⟩) Zp_12).trans Cp1_12; have Yx0_13 : w13.cell? ⟨w7.heap.size, 0, none⟩ = some (.slice (some ⟨g7, 0, none⟩) a0.length a0.length) := (hb13.cell (p := ⟨w7.heap.size, 0, none⟩) Zx_12).trans Cx0_12; have Yx1_13 : w13.cell? ⟨w7.heap.size, 1, none⟩ = some (.float .f32 s0) := (hb13.cell (p := ⟨w7.heap.size, 1, none⟩) Zx_12).trans Cx1_12) | (go_at_call 21; refine (Sf.eqSch_any _ _ a0 s0 _ ?_ ?_ hm0).mono ?_; exact (O7_12.below hb13).rd; exact O13.rd; rintro e w14 ⟨rfl, hb14⟩; have Xp0_13 : w14.cell? ⟨w.heap.size, 0, none⟩ = some (.slice A0 a0.length c0) := (hb14.cell (p := ⟨w.heap.size, 0, none⟩) (Nat.lt_of_lt_of_le Zp_12 hb13.size)).trans Yp0_13; have Xp1_13 : w14.cell? ⟨w.heap.size, 1, none⟩ = some (.float .f32 s0) := (hb14.cell (p := ⟨w.heap.size, 1, none⟩) (Nat.lt_of_lt_of_le Zp_12 hb13.size)).trans Yp1_13; have Xx0_13 : w14.cell? ⟨w7.heap.size, 0, none⟩ = some (.slice (some ⟨g7, 0, none⟩) a0.length a0.length) := (hb14.cell (p := ⟨w7.heap.size, 0, none⟩) (Nat.lt_of_lt_of_le Zx_12 hb13.size)).trans Yx0_13; have Xx1_13 : w14.cell? ⟨w7.heap.size, 1, none⟩ = some (.float .f32 s0) := (hb14.cell (p := ⟨w7.heap.size, 1, none⟩) (Nat.lt_of_lt_of_le Zx_12 hb13.size)).trans Yx1_13)))
  have hc14 : Below w12.heap.size w12 w14 := hb13.trans (hb14.mono hb13.size)
  clear HT Xp0_13 Yp0_13 Xp1_13 Yp1_13 Xx0_13 Yx0_13 Xx1_13 Yx1_13 O13 hb13 hb14
  have Cp0_14 : w14.cell? ⟨w.heap.size, 0, none⟩ = some (.slice A0 a0.length c0) := (hc14.cell (p := ⟨w.heap.size, 0, none⟩) Zp_12).trans Cp0_12
  have Cp1_14 : w14.cell? ⟨w.heap.size, 1, none⟩ = some (.float .f32 s0) := (hc14.cell (p := ⟨w.heap.size, 1, none⟩) Zp_12).trans Cp1_12
  have Zp_14 : w.heap.size < w14.heap.size := Nat.lt_of_lt_of_le Zp_12 hc14.size
  have Cx0_14 : w14.cell? ⟨w7.heap.size, 0, none⟩ = some (.slice (some ⟨g7, 0, none⟩) a0.length a0.length) := (hc14.cell (p := ⟨w7.heap.size, 0, none⟩) Zx_12).trans Cx0_12
  have Cx1_14 : w14.cell? ⟨w7.heap.size, 1, none⟩ = some (.float .f32 s0) := (hc14.cell (p := ⟨w7.heap.size, 1, none⟩) Zx_12).trans Cx1_12
  have Zx_14 : w7.heap.size < w14.heap.size := Nat.lt_of_lt_of_le Zx_12 hc14.size
  clear Cp0_12 Cp1_12 Zp_12 Cx0_12 Cx1_12 Zx_12
  have h0_14 : Rd w14 w14.heap.size (.slice A0 a0.length c0) (fl a0) := h0_12.step hc14
  have h1_14 : Rd w14 w14.heap.size (.slice A1 a1.length c1) (fl a1) := h1_12.step hc14
  have h2_14 : Rd w14 w14.heap.size (.slice A2 a2.length c2) (fl a2) := h2_12.step hc14
  have O6_14 : Own w14 w5.heap.size r6 (fl L) := O6_12.below hc14
  have O7_14 : Own w14 w6.heap.size (.slice (some ⟨g7, 0, none⟩) a0.length a0.length) (fl a0) := O7_12.below hc14
  have O9_14 : Own w14 w8.heap.size (.slice (some ⟨g9, 0, none⟩) a1.length a1.length) (fl a1) := O9_12.below hc14
  have O10_14 : Own w14 w9.heap.size (.slice (some ⟨g10, 0, none⟩) a2.length a2.length) (fl a2) := O10_12.below hc14
  have O11_14 : Own w14 w10.heap.size u11 (fl L) := O11_12.below hc14
  have B_14 : Below w.heap.size w w14 := B_12.trans (hc14.mono B_12.size)
  clear h0_12 h1_12 h2_12 O6_12 O7_12 O9_12 O10_12 O11_12 B_12
  clear hc14
  go_wp2_with fail
  refine (toF_any _ a1 _ _ h1_14 (Nat.le_refl _) hm1).mono ?_
  rintro e w15 ⟨g15, rfl, O15, hb15⟩
  replace O15 := Own.row O15
  have SP15 : w.heap.size < w14.heap.size := Zp_14
  have A15x0x80 : Apart (.slice (some ⟨g15, 0, none⟩) a1.length a1.length) (.slice A0 a0.length c0) := apart_of O15 h0_14 (Nat.le_refl _)
  have A15x0x82 : Apart (.slice (some ⟨g15, 0, none⟩) a1.length a1.length) (.slice A1 a1.length c1) := apart_of O15 h1_14 (Nat.le_refl _)
  have A15x0x84 : Apart (.slice (some ⟨g15, 0, none⟩) a1.length a1.length) (.slice A2 a2.length c2) := apart_of O15 h2_14 (Nat.le_refl _)
  have A15x0x86 : Apart (.slice (some ⟨g15, 0, none⟩) a1.length a1.length) r6 := apart_of O15 O6_14.rd (Nat.le_refl _)
  have A15x0x88 : Apart (.slice (some ⟨g15, 0, none⟩) a1.length a1.length) (.slice (some ⟨g7, 0, none⟩) a0.length a0.length) := apart_of O15 O7_14.rd (Nat.le_refl _)
  have A15x0x90 : Apart (.slice (some ⟨g15, 0, none⟩) a1.length a1.length) (.slice (some ⟨g9, 0, none⟩) a1.length a1.length) := apart_of O15 O9_14.rd (Nat.le_refl _)
  have A15x0x92 : Apart (.slice (some ⟨g15, 0, none⟩) a1.length a1.length) (.slice (some ⟨g10, 0, none⟩) a2.length a2.length) := apart_of O15 O10_14.rd (Nat.le_refl _)
  have A15x0x94 : Apart (.slice (some ⟨g15, 0, none⟩) a1.length a1.length) u11 := apart_of O15 O11_14.rd (Nat.le_refl _)
  have S15 : w.heap.size ≤ w14.heap.size := B_14.size
  have Cp0_15 : w15.cell? ⟨w.heap.size, 0, none⟩ = some (.slice A0 a0.length c0) := (hb15.cell (p := ⟨w.heap.size, 0, none⟩) Zp_14).trans Cp0_14
  have Cp1_15 : w15.cell? ⟨w.heap.size, 1, none⟩ = some (.float .f32 s0) := (hb15.cell (p := ⟨w.heap.size, 1, none⟩) Zp_14).trans Cp1_14
  have Zp_15 : w.heap.size < w15.heap.size := Nat.lt_of_lt_of_le Zp_14 hb15.size
  have Cx0_15 : w15.cell? ⟨w7.heap.size, 0, none⟩ = some (.slice (some ⟨g7, 0, none⟩) a0.length a0.length) := (hb15.cell (p := ⟨w7.heap.size, 0, none⟩) Zx_14).trans Cx0_14
  have Cx1_15 : w15.cell? ⟨w7.heap.size, 1, none⟩ = some (.float .f32 s0) := (hb15.cell (p := ⟨w7.heap.size, 1, none⟩) Zx_14).trans Cx1_14
  have Zx_15 : w7.heap.size < w15.heap.size := Nat.lt_of_lt_of_le Zx_14 hb15.size
  clear Cp0_14 Cp1_14 Zp_14 Cx0_14 Cx1_14 Zx_14
  have h0_15 : Rd w15 w15.heap.size (.slice A0 a0.length c0) (fl a0) := h0_14.step hb15
  have h1_15 : Rd w15 w15.heap.size (.slice A1 a1.length c1) (fl a1) := h1_14.step hb15
  have h2_15 : Rd w15 w15.heap.size (.slice A2 a2.length c2) (fl a2) := h2_14.step hb15
  have O6_15 : Own w15 w5.heap.size r6 (fl L) := O6_14.below hb15
  have O7_15 : Own w15 w6.heap.size (.slice (some ⟨g7, 0, none⟩) a0.length a0.length) (fl a0) := O7_14.below hb15
  have O9_15 : Own w15 w8.heap.size (.slice (some ⟨g9, 0, none⟩) a1.length a1.length) (fl a1) := O9_14.below hb15
  have O10_15 : Own w15 w9.heap.size (.slice (some ⟨g10, 0, none⟩) a2.length a2.length) (fl a2) := O10_14.below hb15
  have O11_15 : Own w15 w10.heap.size u11 (fl L) := O11_14.below hb15
  have B_15 : Below w.heap.size w w15 := B_14.trans (hb15.mono B_14.size)
  clear h0_14 h1_14 h2_14 O6_14 O7_14 O9_14 O10_14 O11_14 B_14
  clear hb15
  go_wp2_with fail
  refine (eqF_any _ _ a1 a1 _ _ O9_15.rd O15.rd (Worth.refl _) hm1).mono ?_
  rintro e w16 ⟨rfl, n16, hw16⟩
  have Cp0_16 : w16.cell? ⟨w.heap.size, 0, none⟩ = some (.slice A0 a0.length c0) := by subst hw16; exact Cp0_15
  have Cp1_16 : w16.cell? ⟨w.heap.size, 1, none⟩ = some (.float .f32 s0) := by subst hw16; exact Cp1_15
  have Zp_16 : w.heap.size < w16.heap.size := by subst hw16; exact Zp_15
  have Cx0_16 : w16.cell? ⟨w7.heap.size, 0, none⟩ = some (.slice (some ⟨g7, 0, none⟩) a0.length a0.length) := by subst hw16; exact Cx0_15
  have Cx1_16 : w16.cell? ⟨w7.heap.size, 1, none⟩ = some (.float .f32 s0) := by subst hw16; exact Cx1_15
  have Zx_16 : w7.heap.size < w16.heap.size := by subst hw16; exact Zx_15
  clear Cp0_15 Cp1_15 Zp_15 Cx0_15 Cx1_15 Zx_15
  have h0_16 : Rd w16 w16.heap.size (.slice A0 a0.length c0) (fl a0) := by subst hw16; exact h0_15
  have h1_16 : Rd w16 w16.heap.size (.slice A1 a1.length c1) (fl a1) := by subst hw16; exact h1_15
  have h2_16 : Rd w16 w16.heap.size (.slice A2 a2.length c2) (fl a2) := by subst hw16; exact h2_15
  have O6_16 : Own w16 w5.heap.size r6 (fl L) := by subst hw16; exact O6_15
  have O7_16 : Own w16 w6.heap.size (.slice (some ⟨g7, 0, none⟩) a0.length a0.length) (fl a0) := by subst hw16; exact O7_15
  have O9_16 : Own w16 w8.heap.size (.slice (some ⟨g9, 0, none⟩) a1.length a1.length) (fl a1) := by subst hw16; exact O9_15
  have O10_16 : Own w16 w9.heap.size (.slice (some ⟨g10, 0, none⟩) a2.length a2.length) (fl a2) := by subst hw16; exact O10_15
  have O11_16 : Own w16 w10.heap.size u11 (fl L) := by subst hw16; exact O11_15
  have O15_16 : Own w16 w14.heap.size (.slice (some ⟨g15, 0, none⟩) a1.length a1.length) (fl a1) := by subst hw16; exact O15
  have B_16 : Below w.heap.size w w16 := by subst hw16; exact below_drawn B_15 _
  clear h0_15 h1_15 h2_15 O6_15 O7_15 O9_15 O10_15 O11_15 O15 B_15
  clear hw16
  clear O15_16
  go_wp2_with fail
  refine (toF_any _ a2 _ _ h2_16 (Nat.le_refl _) hm2).mono ?_
  rintro e w17 ⟨g17, rfl, O17, hb17⟩
  replace O17 := Own.row O17
  have SP17 : w.heap.size < w16.heap.size := Zp_16
  have A17x0x96 : Apart (.slice (some ⟨g17, 0, none⟩) a2.length a2.length) (.slice A0 a0.length c0) := apart_of O17 h0_16 (Nat.le_refl _)
  have A17x0x98 : Apart (.slice (some ⟨g17, 0, none⟩) a2.length a2.length) (.slice A1 a1.length c1) := apart_of O17 h1_16 (Nat.le_refl _)
  have A17x0x100 : Apart (.slice (some ⟨g17, 0, none⟩) a2.length a2.length) (.slice A2 a2.length c2) := apart_of O17 h2_16 (Nat.le_refl _)
  have A17x0x102 : Apart (.slice (some ⟨g17, 0, none⟩) a2.length a2.length) r6 := apart_of O17 O6_16.rd (Nat.le_refl _)
  have A17x0x104 : Apart (.slice (some ⟨g17, 0, none⟩) a2.length a2.length) (.slice (some ⟨g7, 0, none⟩) a0.length a0.length) := apart_of O17 O7_16.rd (Nat.le_refl _)
  have A17x0x106 : Apart (.slice (some ⟨g17, 0, none⟩) a2.length a2.length) (.slice (some ⟨g9, 0, none⟩) a1.length a1.length) := apart_of O17 O9_16.rd (Nat.le_refl _)
  have A17x0x108 : Apart (.slice (some ⟨g17, 0, none⟩) a2.length a2.length) (.slice (some ⟨g10, 0, none⟩) a2.length a2.length) := apart_of O17 O10_16.rd (Nat.le_refl _)
  have A17x0x110 : Apart (.slice (some ⟨g17, 0, none⟩) a2.length a2.length) u11 := apart_of O17 O11_16.rd (Nat.le_refl _)
  have S17 : w.heap.size ≤ w16.heap.size := B_16.size
  have Cp0_17 : w17.cell? ⟨w.heap.size, 0, none⟩ = some (.slice A0 a0.length c0) := (hb17.cell (p := ⟨w.heap.size, 0, none⟩) Zp_16).trans Cp0_16
  have Cp1_17 : w17.cell? ⟨w.heap.size, 1, none⟩ = some (.float .f32 s0) := (hb17.cell (p := ⟨w.heap.size, 1, none⟩) Zp_16).trans Cp1_16
  have Zp_17 : w.heap.size < w17.heap.size := Nat.lt_of_lt_of_le Zp_16 hb17.size
  have Cx0_17 : w17.cell? ⟨w7.heap.size, 0, none⟩ = some (.slice (some ⟨g7, 0, none⟩) a0.length a0.length) := (hb17.cell (p := ⟨w7.heap.size, 0, none⟩) Zx_16).trans Cx0_16
  have Cx1_17 : w17.cell? ⟨w7.heap.size, 1, none⟩ = some (.float .f32 s0) := (hb17.cell (p := ⟨w7.heap.size, 1, none⟩) Zx_16).trans Cx1_16
  have Zx_17 : w7.heap.size < w17.heap.size := Nat.lt_of_lt_of_le Zx_16 hb17.size
  clear Cp0_16 Cp1_16 Zp_16 Cx0_16 Cx1_16 Zx_16
  have h0_17 : Rd w17 w17.heap.size (.slice A0 a0.length c0) (fl a0) := h0_16.step hb17
  have h1_17 : Rd w17 w17.heap.size (.slice A1 a1.length c1) (fl a1) := h1_16.step hb17
  have h2_17 : Rd w17 w17.heap.size (.slice A2 a2.length c2) (fl a2) := h2_16.step hb17
  have O6_17 : Own w17 w5.heap.size r6 (fl L) := O6_16.below hb17
  have O7_17 : Own w17 w6.heap.size (.slice (some ⟨g7, 0, none⟩) a0.length a0.length) (fl a0) := O7_16.below hb17
  have O9_17 : Own w17 w8.heap.size (.slice (some ⟨g9, 0, none⟩) a1.length a1.length) (fl a1) := O9_16.below hb17
  have O10_17 : Own w17 w9.heap.size (.slice (some ⟨g10, 0, none⟩) a2.length a2.length) (fl a2) := O10_16.below hb17
  have O11_17 : Own w17 w10.heap.size u11 (fl L) := O11_16.below hb17
  have B_17 : Below w.heap.size w w17 := B_16.trans (hb17.mono B_16.size)
  clear h0_16 h1_16 h2_16 O6_16 O7_16 O9_16 O10_16 O11_16 B_16
  clear hb17
  go_wp2_with fail
  refine (eqF_any _ _ a2 a2 _ _ O10_17.rd O17.rd (Worth.refl _) hm2).mono ?_
  rintro e w18 ⟨rfl, n18, hw18⟩
  have Cp0_18 : w18.cell? ⟨w.heap.size, 0, none⟩ = some (.slice A0 a0.length c0) := by subst hw18; exact Cp0_17
  have Cp1_18 : w18.cell? ⟨w.heap.size, 1, none⟩ = some (.float .f32 s0) := by subst hw18; exact Cp1_17
  have Zp_18 : w.heap.size < w18.heap.size := by subst hw18; exact Zp_17
  have Cx0_18 : w18.cell? ⟨w7.heap.size, 0, none⟩ = some (.slice (some ⟨g7, 0, none⟩) a0.length a0.length) := by subst hw18; exact Cx0_17
  have Cx1_18 : w18.cell? ⟨w7.heap.size, 1, none⟩ = some (.float .f32 s0) := by subst hw18; exact Cx1_17
  have Zx_18 : w7.heap.size < w18.heap.size := by subst hw18; exact Zx_17
  clear Cp0_17 Cp1_17 Zp_17 Cx0_17 Cx1_17 Zx_17
  have h0_18 : Rd w18 w18.heap.size (.slice A0 a0.length c0) (fl a0) := by subst hw18; exact h0_17
  have h1_18 : Rd w18 w18.heap.size (.slice A1 a1.length c1) (fl a1) := by subst hw18; exact h1_17
  have h2_18 : Rd w18 w18.heap.size (.slice A2 a2.length c2) (fl a2) := by subst hw18; exact h2_17
  have O6_18 : Own w18 w5.heap.size r6 (fl L) := by subst hw18; exact O6_17
  have O7_18 : Own w18 w6.heap.size (.slice (some ⟨g7, 0, none⟩) a0.length a0.length) (fl a0) := by subst hw18; exact O7_17
  have O9_18 : Own w18 w8.heap.size (.slice (some ⟨g9, 0, none⟩) a1.length a1.length) (fl a1) := by subst hw18; exact O9_17
  have O10_18 : Own w18 w9.heap.size (.slice (some ⟨g10, 0, none⟩) a2.length a2.length) (fl a2) := by subst hw18; exact O10_17
  have O11_18 : Own w18 w10.heap.size u11 (fl L) := by subst hw18; exact O11_17
  have O17_18 : Own w18 w16.heap.size (.slice (some ⟨g17, 0, none⟩) a2.length a2.length) (fl a2) := by subst hw18; exact O17
  have B_18 : Below w.heap.size w w18 := by subst hw18; exact below_drawn B_17 _
  clear h0_17 h1_17 h2_17 O6_17 O7_17 O9_17 O10_17 O11_17 O17 B_17
  clear hw18
  clear O17_18
  go_wp2_with fail
  refine (Sf.markS_any _ a0 s0 _ _ _ O7_18 hm0 (by omega) (by omega)).mono ?_
  rintro e w20 ⟨rfl, w19, hb19, hw20⟩
  clear Cx0_18 Cx1_18 Zx_18
  have Cp0_19 : w19.cell? ⟨w.heap.size, 0, none⟩ = some (.slice A0 a0.length c0) := (hb19.cell (p := ⟨w.heap.size, 0, none⟩) Zp_18).trans Cp0_18
  have Cp1_19 : w19.cell? ⟨w.heap.size, 1, none⟩ = some (.float .f32 s0) := (hb19.cell (p := ⟨w.heap.size, 1, none⟩) Zp_18).trans Cp1_18
  have Zp_19 : w.heap.size < w19.heap.size := Nat.lt_of_lt_of_le Zp_18 hb19.size
  clear Cp0_18 Cp1_18 Zp_18
  have h0_19 : Rd w19 w19.heap.size (.slice A0 a0.length c0) (fl a0) := h0_18.step hb19
  have h1_19 : Rd w19 w19.heap.size (.slice A1 a1.length c1) (fl a1) := h1_18.step hb19
  have h2_19 : Rd w19 w19.heap.size (.slice A2 a2.length c2) (fl a2) := h2_18.step hb19
  have O6_19 : Own w19 w5.heap.size r6 (fl L) := O6_18.below hb19
  have O7_19 : Own w19 w6.heap.size (.slice (some ⟨g7, 0, none⟩) a0.length a0.length) (fl a0) := O7_18.below hb19
  have O9_19 : Own w19 w8.heap.size (.slice (some ⟨g9, 0, none⟩) a1.length a1.length) (fl a1) := O9_18.below hb19
  have O10_19 : Own w19 w9.heap.size (.slice (some ⟨g10, 0, none⟩) a2.length a2.length) (fl a2) := O10_18.below hb19
  have O11_19 : Own w19 w10.heap.size u11 (fl L) := O11_18.below hb19
  have B_19 : Below w.heap.size w w19 := B_18.trans (hb19.mono B_18.size)
  clear h0_18 h1_18 h2_18 O6_18 O7_18 O9_18 O10_18 O11_18 B_18
  clear hb19
  have Cp0_20 : w20.cell? ⟨w.heap.size, 0, none⟩ = some (.slice A0 a0.length c0) := by rw [hw20]; exact ((over_below O7_19 _).cell (p := ⟨w.heap.size, 0, none⟩) SP7).trans Cp0_19
  have Cp1_20 : w20.cell? ⟨w.heap.size, 1, none⟩ = some (.float .f32 s0) := by rw [hw20]; exact ((over_below O7_19 _).cell (p := ⟨w.heap.size, 1, none⟩) SP7).trans Cp1_19
  have Zp_20 : w.heap.size < w20.heap.size := by rw [hw20, over_size]; exact Zp_19
  clear Cp0_19 Cp1_19 Zp_19
  have h0_20 : Rd w20 w20.heap.size (.slice A0 a0.length c0) (fl a0) := by rw [hw20, over_size]; exact over_rd O7_19 h0_19 A7x0x36 _
  have h1_20 : Rd w20 w20.heap.size (.slice A1 a1.length c1) (fl a1) := by rw [hw20, over_size]; exact over_rd O7_19 h1_19 A7x0x38 _
  have h2_20 : Rd w20 w20.heap.size (.slice A2 a2.length c2) (fl a2) := by rw [hw20, over_size]; exact over_rd O7_19 h2_19 A7x0x40 _
  have O6_20 : Own w20 w5.heap.size r6 (fl L) := by rw [hw20]; exact over_ownOther O7_19 O6_19 A7x0x42 _
  have O7_20 : Own w20 w6.heap.size (.slice (some ⟨g7, 0, none⟩) a0.length a0.length) ((List.range a0.length).map (mkF (1))) := by rw [hw20]; have := over_own O7_19 (mkF (1)); rw [fl_len] at this; exact this
  have O9_20 : Own w20 w8.heap.size (.slice (some ⟨g9, 0, none⟩) a1.length a1.length) (fl a1) := by rw [hw20]; exact over_ownOther O7_19 O9_19 A9x0x52.symm _
  have O10_20 : Own w20 w9.heap.size (.slice (some ⟨g10, 0, none⟩) a2.length a2.length) (fl a2) := by rw [hw20]; exact over_ownOther O7_19 O10_19 A10x0x62.symm _
  have O11_20 : Own w20 w10.heap.size u11 (fl L) := by rw [hw20]; exact over_ownOther O7_19 O11_19 A11x0x74.symm _
  have B_20 : Below w.heap.size w w20 := by rw [hw20]; exact B_19.trans ((over_below O7_19 _).mono S7)
  clear h0_19 h1_19 h2_19 O6_19 O7_19 O9_19 O10_19 O11_19 B_19
  clear hw20
  go_wp2_with fail
  refine (markF_any _ a1 _ _ _ O9_20 hm1 (by omega) (by omega)).mono ?_
  rintro e w21 ⟨rfl, hw21⟩
  have Cp0_21 : w21.cell? ⟨w.heap.size, 0, none⟩ = some (.slice A0 a0.length c0) := by rw [hw21]; exact ((over_below O9_20 _).cell (p := ⟨w.heap.size, 0, none⟩) SP9).trans Cp0_20
  have Cp1_21 : w21.cell? ⟨w.heap.size, 1, none⟩ = some (.float .f32 s0) := by rw [hw21]; exact ((over_below O9_20 _).cell (p := ⟨w.heap.size, 1, none⟩) SP9).trans Cp1_20
  have Zp_21 : w.heap.size < w21.heap.size := by rw [hw21, over_size]; exact Zp_20
  clear Cp0_20 Cp1_20 Zp_20
  have h0_21 : Rd w21 w21.heap.size (.slice A0 a0.length c0) (fl a0) := by rw [hw21, over_size]; exact over_rd O9_20 h0_20 A9x0x44 _
  have h1_21 : Rd w21 w21.heap.size (.slice A1 a1.length c1) (fl a1) := by rw [hw21, over_size]; exact over_rd O9_20 h1_20 A9x0x46 _
  have h2_21 : Rd w21 w21.heap.size (.slice A2 a2.length c2) (fl a2) := by rw [hw21, over_size]; exact over_rd O9_20 h2_20 A9x0x48 _
  have O6_21 : Own w21 w5.heap.size r6 (fl L) := by rw [hw21]; exact over_ownOther O9_20 O6_20 A9x0x50 _
  have O7_21 : Own w21 w6.heap.size (.slice (some ⟨g7, 0, none⟩) a0.length a0.length) ((List.range a0.length).map (mkF (1))) := by rw [hw21]; exact over_ownOther O9_20 O7_20 A9x0x52 _
  have O9_21 : Own w21 w8.heap.size (.slice (some ⟨g9, 0, none⟩) a1.length a1.length) ((List.range a1.length).map (mkF (1 + a0.length))) := by rw [hw21]; have := over_own O9_20 (mkF (1 + a0.length)); rw [fl_len] at this; exact this
  have O10_21 : Own w21 w9.heap.size (.slice (some ⟨g10, 0, none⟩) a2.length a2.length) (fl a2) := by rw [hw21]; exact over_ownOther O9_20 O10_20 A10x0x64.symm _
  have O11_21 : Own w21 w10.heap.size u11 (fl L) := by rw [hw21]; exact over_ownOther O9_20 O11_20 A11x0x76.symm _
  have B_21 : Below w.heap.size w w21 := by rw [hw21]; exact B_20.trans ((over_below O9_20 _).mono S9)
  clear h0_20 h1_20 h2_20 O6_20 O7_20 O9_20 O10_20 O11_20 B_20
  clear hw21
  go_wp2_with fail
  refine (markF_any _ a2 _ _ _ O10_21 hm2 (by omega) (by omega)).mono ?_
  rintro e w22 ⟨rfl, hw22⟩
  have Cp0_22 : w22.cell? ⟨w.heap.size, 0, none⟩ = some (.slice A0 a0.length c0) := by rw [hw22]; exact ((over_below O10_21 _).cell (p := ⟨w.heap.size, 0, none⟩) SP10).trans Cp0_21
  have Cp1_22 : w22.cell? ⟨w.heap.size, 1, none⟩ = some (.float .f32 s0) := by rw [hw22]; exact ((over_below O10_21 _).cell (p := ⟨w.heap.size, 1, none⟩) SP10).trans Cp1_21
  have Zp_22 : w.heap.size < w22.heap.size := by rw [hw22, over_size]; exact Zp_21
  clear Cp0_21 Cp1_21 Zp_21
  have h0_22 : Rd w22 w22.heap.size (.slice A0 a0.length c0) (fl a0) := by rw [hw22, over_size]; exact over_rd O10_21 h0_21 A10x0x54 _
  have h1_22 : Rd w22 w22.heap.size (.slice A1 a1.length c1) (fl a1) := by rw [hw22, over_size]; exact over_rd O10_21 h1_21 A10x0x56 _
  have h2_22 : Rd w22 w22.heap.size (.slice A2 a2.length c2) (fl a2) := by rw [hw22, over_size]; exact over_rd O10_21 h2_21 A10x0x58 _
  have O6_22 : Own w22 w5.heap.size r6 (fl L) := by rw [hw22]; exact over_ownOther O10_21 O6_21 A10x0x60 _
  have O7_22 : Own w22 w6.heap.size (.slice (some ⟨g7, 0, none⟩) a0.length a0.length) ((List.range a0.length).map (mkF (1))) := by rw [hw22]; exact over_ownOther O10_21 O7_21 A10x0x62 _
  have O9_22 : Own w22 w8.heap.size (.slice (some ⟨g9, 0, none⟩) a1.length a1.length) ((List.range a1.length).map (mkF (1 + a0.length))) := by rw [hw22]; exact over_ownOther O10_21 O9_21 A10x0x64 _
  have O10_22 : Own w22 w9.heap.size (.slice (some ⟨g10, 0, none⟩) a2.length a2.length) ((List.range a2.length).map (mkF (1 + a0.length + a1.length))) := by rw [hw22]; have := over_own O10_21 (mkF (1 + a0.length + a1.length)); rw [fl_len] at this; exact this
  have O11_22 : Own w22 w10.heap.size u11 (fl L) := by rw [hw22]; exact over_ownOther O10_21 O11_21 A11x0x78.symm _
  have B_22 : Below w.heap.size w w22 := by rw [hw22]; exact B_21.trans ((over_below O10_21 _).mono S10)
  clear h0_21 h1_21 h2_21 O6_21 O7_21 O9_21 O10_21 O11_21 B_21
  clear hw22
  clear O7_22 O9_22 O10_22
  go_wp2_with fail
  refine (eqF_any _ _ L L _ _ O11_22.rd O6_22.rd (Worth.refl _) hL).mono ?_
  rintro e w23 ⟨rfl, n23, hw23⟩
  have Cp0_23 : w23.cell? ⟨w.heap.size, 0, none⟩ = some (.slice A0 a0.length c0) := by subst hw23; exact Cp0_22
  have Cp1_23 : w23.cell? ⟨w.heap.size, 1, none⟩ = some (.float .f32 s0) := by subst hw23; exact Cp1_22
  have Zp_23 : w.heap.size < w23.heap.size := by subst hw23; exact Zp_22
  clear Cp0_22 Cp1_22 Zp_22
  have h0_23 : Rd w23 w23.heap.size (.slice A0 a0.length c0) (fl a0) := by subst hw23; exact h0_22
  have h1_23 : Rd w23 w23.heap.size (.slice A1 a1.length c1) (fl a1) := by subst hw23; exact h1_22
  have h2_23 : Rd w23 w23.heap.size (.slice A2 a2.length c2) (fl a2) := by subst hw23; exact h2_22
  have O6_23 : Own w23 w5.heap.size r6 (fl L) := by subst hw23; exact O6_22
  have O11_23 : Own w23 w10.heap.size u11 (fl L) := by subst hw23; exact O11_22
  have B_23 : Below w.heap.size w w23 := by subst hw23; exact below_drawn B_22 _
  clear h0_22 h1_22 h2_22 O6_22 O11_22 B_22
  clear hw23
  go_wp2_with fail
  refine (markF_any _ L _ _ _ O11_23 hL (by omega) (by omega)).mono ?_
  rintro e w24 ⟨rfl, hw24⟩
  have Cp0_24 : w24.cell? ⟨w.heap.size, 0, none⟩ = some (.slice A0 a0.length c0) := by rw [hw24]; exact ((over_below O11_23 _).cell (p := ⟨w.heap.size, 0, none⟩) SP11).trans Cp0_23
  have Cp1_24 : w24.cell? ⟨w.heap.size, 1, none⟩ = some (.float .f32 s0) := by rw [hw24]; exact ((over_below O11_23 _).cell (p := ⟨w.heap.size, 1, none⟩) SP11).trans Cp1_23
  have Zp_24 : w.heap.size < w24.heap.size := by rw [hw24, over_size]; exact Zp_23
  clear Cp0_23 Cp1_23 Zp_23
  have h0_24 : Rd w24 w24.heap.size (.slice A0 a0.length c0) (fl a0) := by rw [hw24, over_size]; exact over_rd O11_23 h0_23 A11x0x66 _
  have h1_24 : Rd w24 w24.heap.size (.slice A1 a1.length c1) (fl a1) := by rw [hw24, over_size]; exact over_rd O11_23 h1_23 A11x0x68 _
  have h2_24 : Rd w24 w24.heap.size (.slice A2 a2.length c2) (fl a2) := by rw [hw24, over_size]; exact over_rd O11_23 h2_23 A11x0x70 _
  have O6_24 : Own w24 w5.heap.size r6 (fl L) := by rw [hw24]; exact over_ownOther O11_23 O6_23 A11x0x72 _
  have O11_24 : Own w24 w10.heap.size u11 ((List.range L.length).map (mkF (1))) := by rw [hw24]; have := over_own O11_23 (mkF (1)); rw [fl_len] at this; exact this
  have B_24 : Below w.heap.size w w24 := by rw [hw24]; exact B_23.trans ((over_below O11_23 _).mono S11)
  clear h0_23 h1_23 h2_23 O6_23 O11_23 B_23
  clear hw24
  go_wp2_with fail
  refine (heldF_any _ L.length _ _ _ O11_24.rd hL (by omega) (by omega)).mono ?_
  rintro e w' ⟨rfl, rfl⟩
  go_wp2_with fail
  refine (Sf.toSch_any _ a0 s0 _ h0_24 hm0).mono ?_
  rintro e w25 ⟨g25, rfl, O25, hb25⟩
  have SP25 : w.heap.size < w24.heap.size := Zp_24
  have A25x0x112 : Apart (.slice (some ⟨g25, 0, none⟩) a0.length a0.length) (.slice A0 a0.length c0) := apart_of O25 h0_24 (Nat.le_refl _)
  have A25x0x114 : Apart (.slice (some ⟨g25, 0, none⟩) a0.length a0.length) (.slice A1 a1.length c1) := apart_of O25 h1_24 (Nat.le_refl _)
  have A25x0x116 : Apart (.slice (some ⟨g25, 0, none⟩) a0.length a0.length) (.slice A2 a2.length c2) := apart_of O25 h2_24 (Nat.le_refl _)
  have A25x0x118 : Apart (.slice (some ⟨g25, 0, none⟩) a0.length a0.length) r6 := apart_of O25 O6_24.rd (Nat.le_refl _)
  have A25x0x120 : Apart (.slice (some ⟨g25, 0, none⟩) a0.length a0.length) u11 := apart_of O25 O11_24.rd (Nat.le_refl _)
  have S25 : w.heap.size ≤ w24.heap.size := B_24.size
  have Cp0_25 : w25.cell? ⟨w.heap.size, 0, none⟩ = some (.slice A0 a0.length c0) := (hb25.cell (p := ⟨w.heap.size, 0, none⟩) Zp_24).trans Cp0_24
  have Cp1_25 : w25.cell? ⟨w.heap.size, 1, none⟩ = some (.float .f32 s0) := (hb25.cell (p := ⟨w.heap.size, 1, none⟩) Zp_24).trans Cp1_24
  have Zp_25 : w.heap.size < w25.heap.size := Nat.lt_of_lt_of_le Zp_24 hb25.size
  clear Cp0_24 Cp1_24 Zp_24
  have h0_25 : Rd w25 w25.heap.size (.slice A0 a0.length c0) (fl a0) := h0_24.step hb25
  have h1_25 : Rd w25 w25.heap.size (.slice A1 a1.length c1) (fl a1) := h1_24.step hb25
  have h2_25 : Rd w25 w25.heap.size (.slice A2 a2.length c2) (fl a2) := h2_24.step hb25
  have O6_25 : Own w25 w5.heap.size r6 (fl L) := O6_24.below hb25
  have O11_25 : Own w25 w10.heap.size u11 ((List.range L.length).map (mkF (1))) := O11_24.below hb25
  have B_25 : Below w.heap.size w w25 := B_24.trans (hb25.mono B_24.size)
  clear h0_24 h1_24 h2_24 O6_24 O11_24 B_24
  clear hb25
  go_wp2_with fail
  refine (toF_any _ a1 _ _ h1_25 (Nat.le_refl _) hm1).mono ?_
  rintro e w26 ⟨g26, rfl, O26, hb26⟩
  replace O26 := Own.row O26
  have SP26 : w.heap.size < w25.heap.size := Zp_25
  have A26x0x122 : Apart (.slice (some ⟨g26, 0, none⟩) a1.length a1.length) (.slice A0 a0.length c0) := apart_of O26 h0_25 (Nat.le_refl _)
  have A26x0x124 : Apart (.slice (some ⟨g26, 0, none⟩) a1.length a1.length) (.slice A1 a1.length c1) := apart_of O26 h1_25 (Nat.le_refl _)
  have A26x0x126 : Apart (.slice (some ⟨g26, 0, none⟩) a1.length a1.length) (.slice A2 a2.length c2) := apart_of O26 h2_25 (Nat.le_refl _)
  have A26x0x128 : Apart (.slice (some ⟨g26, 0, none⟩) a1.length a1.length) r6 := apart_of O26 O6_25.rd (Nat.le_refl _)
  have A26x0x130 : Apart (.slice (some ⟨g26, 0, none⟩) a1.length a1.length) u11 := apart_of O26 O11_25.rd (Nat.le_refl _)
  have A26x0x132 : Apart (.slice (some ⟨g26, 0, none⟩) a1.length a1.length) (.slice (some ⟨g25, 0, none⟩) a0.length a0.length) := apart_of O26 O25.rd (Nat.le_refl _)
  have S26 : w.heap.size ≤ w25.heap.size := B_25.size
  have Cp0_26 : w26.cell? ⟨w.heap.size, 0, none⟩ = some (.slice A0 a0.length c0) := (hb26.cell (p := ⟨w.heap.size, 0, none⟩) Zp_25).trans Cp0_25
  have Cp1_26 : w26.cell? ⟨w.heap.size, 1, none⟩ = some (.float .f32 s0) := (hb26.cell (p := ⟨w.heap.size, 1, none⟩) Zp_25).trans Cp1_25
  have Zp_26 : w.heap.size < w26.heap.size := Nat.lt_of_lt_of_le Zp_25 hb26.size
  clear Cp0_25 Cp1_25 Zp_25
  have h0_26 : Rd w26 w26.heap.size (.slice A0 a0.length c0) (fl a0) := h0_25.step hb26
  have h1_26 : Rd w26 w26.heap.size (.slice A1 a1.length c1) (fl a1) := h1_25.step hb26
  have h2_26 : Rd w26 w26.heap.size (.slice A2 a2.length c2) (fl a2) := h2_25.step hb26
  have O6_26 : Own w26 w5.heap.size r6 (fl L) := O6_25.below hb26
  have O11_26 : Own w26 w10.heap.size u11 ((List.range L.length).map (mkF (1))) := O11_25.below hb26
  have O25_26 : Own w26 w24.heap.size (.slice (some ⟨g25, 0, none⟩) a0.length a0.length) (fl a0) := O25.below hb26
  have B_26 : Below w.heap.size w w26 := B_25.trans (hb26.mono B_25.size)
  clear h0_25 h1_25 h2_25 O6_25 O11_25 O25 B_25
  clear hb26
  go_wp2_with fail
  refine (toF_any _ a2 _ _ h2_26 (Nat.le_refl _) hm2).mono ?_
  rintro e w27 ⟨g27, rfl, O27, hb27⟩
  replace O27 := Own.row O27
  have SP27 : w.heap.size < w26.heap.size := Zp_26
  have A27x0x134 : Apart (.slice (some ⟨g27, 0, none⟩) a2.length a2.length) (.slice A0 a0.length c0) := apart_of O27 h0_26 (Nat.le_refl _)
  have A27x0x136 : Apart (.slice (some ⟨g27, 0, none⟩) a2.length a2.length) (.slice A1 a1.length c1) := apart_of O27 h1_26 (Nat.le_refl _)
  have A27x0x138 : Apart (.slice (some ⟨g27, 0, none⟩) a2.length a2.length) (.slice A2 a2.length c2) := apart_of O27 h2_26 (Nat.le_refl _)
  have A27x0x140 : Apart (.slice (some ⟨g27, 0, none⟩) a2.length a2.length) r6 := apart_of O27 O6_26.rd (Nat.le_refl _)
  have A27x0x142 : Apart (.slice (some ⟨g27, 0, none⟩) a2.length a2.length) u11 := apart_of O27 O11_26.rd (Nat.le_refl _)
  have A27x0x144 : Apart (.slice (some ⟨g27, 0, none⟩) a2.length a2.length) (.slice (some ⟨g25, 0, none⟩) a0.length a0.length) := apart_of O27 O25_26.rd (Nat.le_refl _)
  have A27x0x146 : Apart (.slice (some ⟨g27, 0, none⟩) a2.length a2.length) (.slice (some ⟨g26, 0, none⟩) a1.length a1.length) := apart_of O27 O26.rd (Nat.le_refl _)
  have S27 : w.heap.size ≤ w26.heap.size := B_26.size
  have Cp0_27 : w27.cell? ⟨w.heap.size, 0, none⟩ = some (.slice A0 a0.length c0) := (hb27.cell (p := ⟨w.heap.size, 0, none⟩) Zp_26).trans Cp0_26
  have Cp1_27 : w27.cell? ⟨w.heap.size, 1, none⟩ = some (.float .f32 s0) := (hb27.cell (p := ⟨w.heap.size, 1, none⟩) Zp_26).trans Cp1_26
  have Zp_27 : w.heap.size < w27.heap.size := Nat.lt_of_lt_of_le Zp_26 hb27.size
  clear Cp0_26 Cp1_26 Zp_26
  have h0_27 : Rd w27 w27.heap.size (.slice A0 a0.length c0) (fl a0) := h0_26.step hb27
  have h1_27 : Rd w27 w27.heap.size (.slice A1 a1.length c1) (fl a1) := h1_26.step hb27
  have h2_27 : Rd w27 w27.heap.size (.slice A2 a2.length c2) (fl a2) := h2_26.step hb27
  have O6_27 : Own w27 w5.heap.size r6 (fl L) := O6_26.below hb27
  have O11_27 : Own w27 w10.heap.size u11 ((List.range L.length).map (mkF (1))) := O11_26.below hb27
  have O25_27 : Own w27 w24.heap.size (.slice (some ⟨g25, 0, none⟩) a0.length a0.length) (fl a0) := O25_26.below hb27
  have O26_27 : Own w27 w25.heap.size (.slice (some ⟨g26, 0, none⟩) a1.length a1.length) (fl a1) := O26.below hb27
  have B_27 : Below w.heap.size w w27 := B_26.trans (hb27.mono B_26.size)
  clear h0_26 h1_26 h2_26 O6_26 O11_26 O25_26 O26 B_26
  clear hb27
  go_wp2_with fail
  refine (HI.out _ _ _ _ hm0 O25_27.rd O26_27.rd O27.rd).mono ?_
  rintro e w28 ⟨h28, rfl, O28, hb28⟩
  have SP28 : w.heap.size < w27.heap.size := Zp_27
  have A28x0x148 : Apart h28 (.slice A0 a0.length c0) := apart_of O28 h0_27 (Nat.le_refl _)
  have A28x0x150 : Apart h28 (.slice A1 a1.length c1) := apart_of O28 h1_27 (Nat.le_refl _)
  have A28x0x152 : Apart h28 (.slice A2 a2.length c2) := apart_of O28 h2_27 (Nat.le_refl _)
  have A28x0x154 : Apart h28 r6 := apart_of O28 O6_27.rd (Nat.le_refl _)
  have A28x0x156 : Apart h28 u11 := apart_of O28 O11_27.rd (Nat.le_refl _)
  have A28x0x158 : Apart h28 (.slice (some ⟨g25, 0, none⟩) a0.length a0.length) := apart_of O28 O25_27.rd (Nat.le_refl _)
  have A28x0x160 : Apart h28 (.slice (some ⟨g26, 0, none⟩) a1.length a1.length) := apart_of O28 O26_27.rd (Nat.le_refl _)
  have A28x0x162 : Apart h28 (.slice (some ⟨g27, 0, none⟩) a2.length a2.length) := apart_of O28 O27.rd (Nat.le_refl _)
  have S28 : w.heap.size ≤ w27.heap.size := B_27.size
  have Cp0_28 : w28.cell? ⟨w.heap.size, 0, none⟩ = some (.slice A0 a0.length c0) := (hb28.cell (p := ⟨w.heap.size, 0, none⟩) Zp_27).trans Cp0_27
  have Cp1_28 : w28.cell? ⟨w.heap.size, 1, none⟩ = some (.float .f32 s0) := (hb28.cell (p := ⟨w.heap.size, 1, none⟩) Zp_27).trans Cp1_27
  have Zp_28 : w.heap.size < w28.heap.size := Nat.lt_of_lt_of_le Zp_27 hb28.size
  clear Cp0_27 Cp1_27 Zp_27
  have h0_28 : Rd w28 w28.heap.size (.slice A0 a0.length c0) (fl a0) := h0_27.step hb28
  have h1_28 : Rd w28 w28.heap.size (.slice A1 a1.length c1) (fl a1) := h1_27.step hb28
  have h2_28 : Rd w28 w28.heap.size (.slice A2 a2.length c2) (fl a2) := h2_27.step hb28
  have O6_28 : Own w28 w5.heap.size r6 (fl L) := O6_27.below hb28
  have O11_28 : Own w28 w10.heap.size u11 ((List.range L.length).map (mkF (1))) := O11_27.below hb28
  have O25_28 : Own w28 w24.heap.size (.slice (some ⟨g25, 0, none⟩) a0.length a0.length) (fl a0) := O25_27.below hb28
  have O26_28 : Own w28 w25.heap.size (.slice (some ⟨g26, 0, none⟩) a1.length a1.length) (fl a1) := O26_27.below hb28
  have O27_28 : Own w28 w26.heap.size (.slice (some ⟨g27, 0, none⟩) a2.length a2.length) (fl a2) := O27.below hb28
  have B_28 : Below w.heap.size w w28 := B_27.trans (hb28.mono B_27.size)
  clear h0_27 h1_27 h2_27 O6_27 O11_27 O25_27 O26_27 O27 B_27
  clear hb28
  clear O25_28 O26_28 O27_28
  go_wp2_with fail
  refine (eqF_any _ _ L L _ _ O28.rd O6_28.rd (Worth.refl _) hL).mono ?_
  rintro e w29 ⟨rfl, n29, hw29⟩
  have Cp0_29 : w29.cell? ⟨w.heap.size, 0, none⟩ = some (.slice A0 a0.length c0) := by subst hw29; exact Cp0_28
  have Cp1_29 : w29.cell? ⟨w.heap.size, 1, none⟩ = some (.float .f32 s0) := by subst hw29; exact Cp1_28
  have Zp_29 : w.heap.size < w29.heap.size := by subst hw29; exact Zp_28
  clear Cp0_28 Cp1_28 Zp_28
  have h0_29 : Rd w29 w29.heap.size (.slice A0 a0.length c0) (fl a0) := by subst hw29; exact h0_28
  have h1_29 : Rd w29 w29.heap.size (.slice A1 a1.length c1) (fl a1) := by subst hw29; exact h1_28
  have h2_29 : Rd w29 w29.heap.size (.slice A2 a2.length c2) (fl a2) := by subst hw29; exact h2_28
  have O6_29 : Own w29 w5.heap.size r6 (fl L) := by subst hw29; exact O6_28
  have O11_29 : Own w29 w10.heap.size u11 ((List.range L.length).map (mkF (1))) := by subst hw29; exact O11_28
  have O28_29 : Own w29 w27.heap.size h28 (fl L) := by subst hw29; exact O28
  have B_29 : Below w.heap.size w w29 := by subst hw29; exact below_drawn B_28 _
  clear h0_28 h1_28 h2_28 O6_28 O11_28 O28 B_28
  clear hw29
  go_wp2_with fail
  refine (heldF_any _ L.length _ _ _ O11_29.rd hL (by omega) (by omega)).mono ?_
  rintro e w' ⟨rfl, rfl⟩
  go_wp2_with fail
  go_ret
  exact ⟨rfl, B_29⟩
end Go.Proofs.Ytfbdmhkmkmbipaa
