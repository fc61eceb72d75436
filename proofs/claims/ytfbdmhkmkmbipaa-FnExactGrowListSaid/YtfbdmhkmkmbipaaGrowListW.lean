/-
  The walk of the law of GrowList.
-/
import Derived.Test.YtfbdmhkmkmbipaaRows
import Derived.ProofKit
import Derived.OpenShut
import Derived.WalkLawsBesides
import Derived.KernelRfl
import Derived.Deep.RegionHeld3
import Derived.Test.YtfbdmhkmkmbipaaGwI
import Derived.Test.YtfbdmhkmkmbipaaMkS
import Derived.Test.YtfbdmhkmkmbipaaMkF
import Derived.Test.YtfbdmhkmkmbipaaMel
import Derived.Test.YtfbdmhkmkmbipaaOpS
namespace Go.Proofs.Ytfbdmhkmkmbipaa
open Go.RowKit Fl
set_option linter.unusedVariables false
set_option maxRecDepth 100000 in
set_option maxHeartbeats 8000000 in
theorem fnExactGrowList.walk (w : World) (v0 : Value) (a0 : List Nat) (s0 : Nat) (h0 : Rd w w.heap.size v0 (a0.map (.float .f32))) (w0 : ∀ x ∈ a0, x < 2 ^ 32) (z0 : s0 < 2 ^ 32) (v1 : Value) (a1 : List Nat) (h1 : Rd w w.heap.size v1 (a1.map (.float .f32))) (w1 : ∀ x ∈ a1, x < 2 ^ 32) :
    Calls Try.prog 5 #[.agg #[v0, .float .f32 s0], v1] w fun e w' => e = .returned (.bool true) ∧ Below w.heap.size w w' := by
  have hle0 := h0.le
  rw [show (a0.map (.float .f32)) = fl a0 from rfl, fl_len] at hle0
  unfold maxLen at hle0
  replace h0 : Rd w w.heap.size v0 (fl a0) := h0
  obtain ⟨A0, c0, hv0, q1, q2, q3⟩ := id h0
  clear q1 q2 q3
  rw [fl_len] at hv0
  subst hv0
  have HX0 := Lib.hid w0
  have hle1 := h1.le
  rw [show (a1.map (.float .f32)) = fl a1 from rfl, fl_len] at hle1
  unfold maxLen at hle1
  replace h1 : Rd w w.heap.size v1 (fl a1) := h1
  obtain ⟨A1, c1, hv1, q1, q2, q3⟩ := id h1
  clear q1 q2 q3
  rw [fl_len] at hv1
  subst hv1
  have HX1 := Lib.hid w1
  have hsf : ∀ (a : Addr) (x : Nat) (w : World), (store a (.float .f32 x)).run Try.prog w = stored Try.prog w a (.float .f32 x) .plain := fun a x w => run_store _ w a _ _ rfl
  have hs0 := z0
  clear w0 w1 z0
  by_cases hbig1 : 1048576 < a1.length
  · go_enter Try.func5, Try.ntmps5
    go_wp2_with fail
    go_ret
    exact ⟨rfl, (Below.refl _ _).alloc (Nat.le_refl _) _⟩
  have hm1 : a1.length ≤ 1048576 := by omega
  have hL0 : (dpR a0 s0 a1 (List.replicate a1.length 0)).length ≤ 1048576 := dpR_len _ _ _ _
  obtain ⟨L, hLe⟩ : ∃ L, L = dpR a0 s0 a1 (List.replicate a1.length 0) := ⟨_, rfl⟩
  obtain ⟨b, hbe⟩ : ∃ b, b = dpB a0 s0 a1 (List.replicate a1.length 0) := ⟨_, rfl⟩
  rw [← hLe] at hL0
  have hL := hL0
  clear hL0
  have HS := Lib.hid (fun (w' : World) (u0 u1 : Value) (hm0 : a0.length ≤ 1048576) (r0 : Rd w' w'.heap.size u0 (fl a0)) (r1 : Rd w' w'.heap.size u1 (fl a1)) => (show Calls Try.prog 27 #[.agg #[u0, .float .f32 s0], u1] w' (RetDb L b w') by rw [hLe, hbe]; exact gwS_any s0 a0 a1 u0 u1 w' r0 r1 hm0 hm1 HX0.out HX1.out hs0))
  have HI := Lib.hid (fun (w' : World) (u0 u1 : Value) (hm0 : a0.length ≤ 1048576) (r0 : Rd w' w'.heap.size u0 (fl a0)) (r1 : Rd w' w'.heap.size u1 (fl a1)) => (show Calls Try.prog 28 #[.agg #[u0, .float .f32 s0], u1] w' (RetDb L b w') by rw [hLe, hbe]; exact gwI_any s0 a0 a1 u0 u1 w' r0 r1 hm0 hm1 HX0.out HX1.out hs0))
  clear hLe hbe
  go_enter Try.func5, Try.ntmps5
  have B_0 : Below w.heap.size w w := Below.refl _ _
  go_wp2_with fail
  have hb1 : Below w.heap.size w (w.alloc (.cells #[(.slice A0 a0.length c0), (.float .f32 s0)] 25)) := (Below.refl _ _).alloc (Nat.le_refl _) _
  have Cp0_1 : (w.alloc (.cells #[(.slice A0 a0.length c0), (.float .f32 s0)] 25)).cell? ⟨w.heap.size, 0, none⟩ = some (.slice A0 a0.length c0) := (cell_of_row _ _ _ _ _ _ (heap_alloc_new w _)).trans rfl
  have Cp1_1 : (w.alloc (.cells #[(.slice A0 a0.length c0), (.float .f32 s0)] 25)).cell? ⟨w.heap.size, 1, none⟩ = some (.float .f32 s0) := (cell_of_row _ _ _ _ _ _ (heap_alloc_new w _)).trans rfl
  have Zp_1 : w.heap.size < (w.alloc (.cells #[(.slice A0 a0.length c0), (.float .f32 s0)] 25)).heap.size := by simp
  generalize (w.alloc (.cells #[(.slice A0 a0.length c0), (.float .f32 s0)] 25)) = w1 at *
  have h0_1 : Rd w1 w1.heap.size (.slice A0 a0.length c0) (fl a0) := h0.step hb1
  have h1_1 : Rd w1 w1.heap.size (.slice A1 a1.length c1) (fl a1) := h1.step hb1
  have B_1 : Below w.heap.size w w1 := B_0.trans (hb1.mono B_0.size)
  clear h0 h1 B_0
  clear hb1
  refine (Sf.szSch_any _ a0 s0 1048576 _ h0_1 (by omega) (by omega) hle0).mono ?_
  rintro e w2 ⟨rfl, hb2⟩
  have Cp0_2 : w2.cell? ⟨w.heap.size, 0, none⟩ = some (.slice A0 a0.length c0) := (hb2.cell (p := ⟨w.heap.size, 0, none⟩) Zp_1).trans Cp0_1
  have Cp1_2 : w2.cell? ⟨w.heap.size, 1, none⟩ = some (.float .f32 s0) := (hb2.cell (p := ⟨w.heap.size, 1, none⟩) Zp_1).trans Cp1_1
  have Zp_2 : w.heap.size < w2.heap.size := Nat.lt_of_lt_of_le Zp_1 hb2.size
  clear Cp0_1 Cp1_1 Zp_1
  have h0_2 : Rd w2 w2.heap.size (.slice A0 a0.length c0) (fl a0) := h0_1.step hb2
  have h1_2 : Rd w2 w2.heap.size (.slice A1 a1.length c1) (fl a1) := h1_1.step hb2
  have B_2 : Below w.heap.size w w2 := B_1.trans (hb2.mono B_1.size)
  clear h0_1 h1_1 B_1
  clear hb2
  by_cases hbig0 : (1048576 : Int) < a0.length
  · rw [if_pos hbig0]
    go_wp2_with fail
    go_ret
    exact ⟨rfl, B_2⟩
  rw [if_neg hbig0]
  have hm0 : a0.length ≤ 1048576 := by omega
  have hl0 : 0 ≤ (1048576 : Int) - a0.length := by omega
  clear hbig0
  go_wp2_with fail
  refine (Sf.toSch_any _ a0 s0 _ h0_2 hm0).mono ?_
  rintro e w3 ⟨g3, rfl, O3, hb3⟩
  have SP3 : w.heap.size < w2.heap.size := Zp_2
  have A3x0x0 : Apart (.slice (some ⟨g3, 0, none⟩) a0.length a0.length) (.slice A0 a0.length c0) := apart_of O3 h0_2 (Nat.le_refl _)
  have A3x0x2 : Apart (.slice (some ⟨g3, 0, none⟩) a0.length a0.length) (.slice A1 a1.length c1) := apart_of O3 h1_2 (Nat.le_refl _)
  have S3 : w.heap.size ≤ w2.heap.size := B_2.size
  have Cp0_3 : w3.cell? ⟨w.heap.size, 0, none⟩ = some (.slice A0 a0.length c0) := (hb3.cell (p := ⟨w.heap.size, 0, none⟩) Zp_2).trans Cp0_2
  have Cp1_3 : w3.cell? ⟨w.heap.size, 1, none⟩ = some (.float .f32 s0) := (hb3.cell (p := ⟨w.heap.size, 1, none⟩) Zp_2).trans Cp1_2
  have Zp_3 : w.heap.size < w3.heap.size := Nat.lt_of_lt_of_le Zp_2 hb3.size
  clear Cp0_2 Cp1_2 Zp_2
  have h0_3 : Rd w3 w3.heap.size (.slice A0 a0.length c0) (fl a0) := h0_2.step hb3
  have h1_3 : Rd w3 w3.heap.size (.slice A1 a1.length c1) (fl a1) := h1_2.step hb3
  have B_3 : Below w.heap.size w w3 := B_2.trans (hb3.mono B_2.size)
  clear h0_2 h1_2 B_2
  clear hb3
  go_wp2_with fail
  refine (toF_any _ a1 _ _ h1_3 (Nat.le_refl _) hm1).mono ?_
  rintro e w4 ⟨g4, rfl, O4, hb4⟩
  replace O4 := Own.row O4
  have SP4 : w.heap.size < w3.heap.size := Zp_3
  have A4x0x4 : Apart (.slice (some ⟨g4, 0, none⟩) a1.length a1.length) (.slice A0 a0.length c0) := apart_of O4 h0_3 (Nat.le_refl _)
  have A4x0x6 : Apart (.slice (some ⟨g4, 0, none⟩) a1.length a1.length) (.slice A1 a1.length c1) := apart_of O4 h1_3 (Nat.le_refl _)
  have A4x0x8 : Apart (.slice (some ⟨g4, 0, none⟩) a1.length a1.length) (.slice (some ⟨g3, 0, none⟩) a0.length a0.length) := apart_of O4 O3.rd (Nat.le_refl _)
  have S4 : w.heap.size ≤ w3.heap.size := B_3.size
  have Cp0_4 : w4.cell? ⟨w.heap.size, 0, none⟩ = some (.slice A0 a0.length c0) := (hb4.cell (p := ⟨w.heap.size, 0, none⟩) Zp_3).trans Cp0_3
  have Cp1_4 : w4.cell? ⟨w.heap.size, 1, none⟩ = some (.float .f32 s0) := (hb4.cell (p := ⟨w.heap.size, 1, none⟩) Zp_3).trans Cp1_3
  have Zp_4 : w.heap.size < w4.heap.size := Nat.lt_of_lt_of_le Zp_3 hb4.size
  clear Cp0_3 Cp1_3 Zp_3
  have h0_4 : Rd w4 w4.heap.size (.slice A0 a0.length c0) (fl a0) := h0_3.step hb4
  have h1_4 : Rd w4 w4.heap.size (.slice A1 a1.length c1) (fl a1) := h1_3.step hb4
  have O3_4 : Own w4 w2.heap.size (.slice (some ⟨g3, 0, none⟩) a0.length a0.length) (fl a0) := O3.below hb4
  have B_4 : Below w.heap.size w w4 := B_3.trans (hb4.mono B_3.size)
  clear h0_3 h1_3 O3 B_3
  clear hb4
  go_wp2_with fail
  refine (HS.out _ _ _ hm0 O3_4.rd O4.rd).mono ?_
  rintro e w5 ⟨r5, rfl, O5, hb5⟩
  have SP5 : w.heap.size < w4.heap.size := Zp_4
  have A5x0x10 : Apart r5 (.slice A0 a0.length c0) := apart_of O5 h0_4 (Nat.le_refl _)
  have A5x0x12 : Apart r5 (.slice A1 a1.length c1) := apart_of O5 h1_4 (Nat.le_refl _)
  have A5x0x14 : Apart r5 (.slice (some ⟨g3, 0, none⟩) a0.length a0.length) := apart_of O5 O3_4.rd (Nat.le_refl _)
  have A5x0x16 : Apart r5 (.slice (some ⟨g4, 0, none⟩) a1.length a1.length) := apart_of O5 O4.rd (Nat.le_refl _)
  have S5 : w.heap.size ≤ w4.heap.size := B_4.size
  have Cp0_5 : w5.cell? ⟨w.heap.size, 0, none⟩ = some (.slice A0 a0.length c0) := (hb5.cell (p := ⟨w.heap.size, 0, none⟩) Zp_4).trans Cp0_4
  have Cp1_5 : w5.cell? ⟨w.heap.size, 1, none⟩ = some (.float .f32 s0) := (hb5.cell (p := ⟨w.heap.size, 1, none⟩) Zp_4).trans Cp1_4
  have Zp_5 : w.heap.size < w5.heap.size := Nat.lt_of_lt_of_le Zp_4 hb5.size
  clear Cp0_4 Cp1_4 Zp_4
  have h0_5 : Rd w5 w5.heap.size (.slice A0 a0.length c0) (fl a0) := h0_4.step hb5
  have h1_5 : Rd w5 w5.heap.size (.slice A1 a1.length c1) (fl a1) := h1_4.step hb5
  have O3_5 : Own w5 w2.heap.size (.slice (some ⟨g3, 0, none⟩) a0.length a0.length) (fl a0) := O3_4.below hb5
  have O4_5 : Own w5 w3.heap.size (.slice (some ⟨g4, 0, none⟩) a1.length a1.length) (fl a1) := O4.below hb5
  have B_5 : Below w.heap.size w w5 := B_4.trans (hb5.mono B_4.size)
  clear h0_4 h1_4 O3_4 O4 B_4
  clear hb5
  clear O3_5 O4_5
  go_wp2_with fail
  refine (Sf.toSch_any _ a0 s0 _ h0_5 hm0).mono ?_
  rintro e w6 ⟨g6, rfl, O6, hb6⟩
  have SP6 : w.heap.size < w5.heap.size := Zp_5
  have A6x0x18 : Apart (.slice (some ⟨g6, 0, none⟩) a0.length a0.length) (.slice A0 a0.length c0) := apart_of O6 h0_5 (Nat.le_refl _)
  have A6x0x20 : Apart (.slice (some ⟨g6, 0, none⟩) a0.length a0.length) (.slice A1 a1.length c1) := apart_of O6 h1_5 (Nat.le_refl _)
  have A6x0x22 : Apart (.slice (some ⟨g6, 0, none⟩) a0.length a0.length) r5 := apart_of O6 O5.rd (Nat.le_refl _)
  have S6 : w.heap.size ≤ w5.heap.size := B_5.size
  have Cp0_6 : w6.cell? ⟨w.heap.size, 0, none⟩ = some (.slice A0 a0.length c0) := (hb6.cell (p := ⟨w.heap.size, 0, none⟩) Zp_5).trans Cp0_5
  have Cp1_6 : w6.cell? ⟨w.heap.size, 1, none⟩ = some (.float .f32 s0) := (hb6.cell (p := ⟨w.heap.size, 1, none⟩) Zp_5).trans Cp1_5
  have Zp_6 : w.heap.size < w6.heap.size := Nat.lt_of_lt_of_le Zp_5 hb6.size
  clear Cp0_5 Cp1_5 Zp_5
  have h0_6 : Rd w6 w6.heap.size (.slice A0 a0.length c0) (fl a0) := h0_5.step hb6
  have h1_6 : Rd w6 w6.heap.size (.slice A1 a1.length c1) (fl a1) := h1_5.step hb6
  have O5_6 : Own w6 w4.heap.size r5 (fl L) := O5.below hb6
  have B_6 : Below w.heap.size w w6 := B_5.trans (hb6.mono B_5.size)
  clear h0_5 h1_5 O5 B_5
  clear hb6
  go_wp2_with fail
  have hb7 : Below w6.heap.size w6 (w6.alloc (.cells #[(.slice (some ⟨g6, 0, none⟩) a0.length a0.length), (.float .f32 s0)] 29)) := (Below.refl _ _).alloc (Nat.le_refl _) _
  have Cx0_7 : (w6.alloc (.cells #[(.slice (some ⟨g6, 0, none⟩) a0.length a0.length), (.float .f32 s0)] 29)).cell? ⟨w6.heap.size, 0, none⟩ = some (.slice (some ⟨g6, 0, none⟩) a0.length a0.length) := (cell_of_row _ _ _ _ _ _ (heap_alloc_new w6 _)).trans rfl
  have Cx1_7 : (w6.alloc (.cells #[(.slice (some ⟨g6, 0, none⟩) a0.length a0.length), (.float .f32 s0)] 29)).cell? ⟨w6.heap.size, 1, none⟩ = some (.float .f32 s0) := (cell_of_row _ _ _ _ _ _ (heap_alloc_new w6 _)).trans rfl
  have Zx_7 : w6.heap.size < (w6.alloc (.cells #[(.slice (some ⟨g6, 0, none⟩) a0.length a0.length), (.float .f32 s0)] 29)).heap.size := by simp
  generalize (w6.alloc (.cells #[(.slice (some ⟨g6, 0, none⟩) a0.length a0.length), (.float .f32 s0)] 29)) = w7 at *
  have Cp0_7 : w7.cell? ⟨w.heap.size, 0, none⟩ = some (.slice A0 a0.length c0) := (hb7.cell (p := ⟨w.heap.size, 0, none⟩) Zp_6).trans Cp0_6
  have Cp1_7 : w7.cell? ⟨w.heap.size, 1, none⟩ = some (.float .f32 s0) := (hb7.cell (p := ⟨w.heap.size, 1, none⟩) Zp_6).trans Cp1_6
  have Zp_7 : w.heap.size < w7.heap.size := Nat.lt_of_lt_of_le Zp_6 hb7.size
  clear Cp0_6 Cp1_6 Zp_6
  have h0_7 : Rd w7 w7.heap.size (.slice A0 a0.length c0) (fl a0) := h0_6.step hb7
  have h1_7 : Rd w7 w7.heap.size (.slice A1 a1.length c1) (fl a1) := h1_6.step hb7
  have O5_7 : Own w7 w4.heap.size r5 (fl L) := O5_6.below hb7
  have O6_7 : Own w7 w5.heap.size (.slice (some ⟨g6, 0, none⟩) a0.length a0.length) (fl a0) := O6.below hb7
  have B_7 : Below w.heap.size w w7 := B_6.trans (hb7.mono B_6.size)
  clear h0_6 h1_6 O5_6 O6 B_6
  clear hb7
  go_wp2_with fail
  refine (toF_any _ a1 _ _ h1_7 (Nat.le_refl _) hm1).mono ?_
  rintro e w8 ⟨g8, rfl, O8, hb8⟩
  replace O8 := Own.row O8
  have SP8 : w.heap.size < w7.heap.size := Zp_7
  have A8x0x24 : Apart (.slice (some ⟨g8, 0, none⟩) a1.length a1.length) (.slice A0 a0.length c0) := apart_of O8 h0_7 (Nat.le_refl _)
  have A8x0x26 : Apart (.slice (some ⟨g8, 0, none⟩) a1.length a1.length) (.slice A1 a1.length c1) := apart_of O8 h1_7 (Nat.le_refl _)
  have A8x0x28 : Apart (.slice (some ⟨g8, 0, none⟩) a1.length a1.length) r5 := apart_of O8 O5_7.rd (Nat.le_refl _)
  have A8x0x30 : Apart (.slice (some ⟨g8, 0, none⟩) a1.length a1.length) (.slice (some ⟨g6, 0, none⟩) a0.length a0.length) := apart_of O8 O6_7.rd (Nat.le_refl _)
  have S8 : w.heap.size ≤ w7.heap.size := B_7.size
  have Cp0_8 : w8.cell? ⟨w.heap.size, 0, none⟩ = some (.slice A0 a0.length c0) := (hb8.cell (p := ⟨w.heap.size, 0, none⟩) Zp_7).trans Cp0_7
  have Cp1_8 : w8.cell? ⟨w.heap.size, 1, none⟩ = some (.float .f32 s0) := (hb8.cell (p := ⟨w.heap.size, 1, none⟩) Zp_7).trans Cp1_7
  have Zp_8 : w.heap.size < w8.heap.size := Nat.lt_of_lt_of_le Zp_7 hb8.size
  have Cx0_8 : w8.cell? ⟨w6.heap.size, 0, none⟩ = some (.slice (some ⟨g6, 0, none⟩) a0.length a0.length) := (hb8.cell (p := ⟨w6.heap.size, 0, none⟩) Zx_7).trans Cx0_7
  have Cx1_8 : w8.cell? ⟨w6.heap.size, 1, none⟩ = some (.float .f32 s0) := (hb8.cell (p := ⟨w6.heap.size, 1, none⟩) Zx_7).trans Cx1_7
  have Zx_8 : w6.heap.size < w8.heap.size := Nat.lt_of_lt_of_le Zx_7 hb8.size
  clear Cp0_7 Cp1_7 Zp_7 Cx0_7 Cx1_7 Zx_7
  have h0_8 : Rd w8 w8.heap.size (.slice A0 a0.length c0) (fl a0) := h0_7.step hb8
  have h1_8 : Rd w8 w8.heap.size (.slice A1 a1.length c1) (fl a1) := h1_7.step hb8
  have O5_8 : Own w8 w4.heap.size r5 (fl L) := O5_7.below hb8
  have O6_8 : Own w8 w5.heap.size (.slice (some ⟨g6, 0, none⟩) a0.length a0.length) (fl a0) := O6_7.below hb8
  have B_8 : Below w.heap.size w w8 := B_7.trans (hb8.mono B_7.size)
  clear h0_7 h1_7 O5_7 O6_7 B_7
  clear hb8
  go_wp2_with fail
  refine (HI.out _ _ _ hm0 O6_8.rd O8.rd).mono ?_
  rintro e w9 ⟨u9, rfl, O9, hb9⟩
  have SP9 : w.heap.size < w8.heap.size := Zp_8
  have A9x0x32 : Apart u9 (.slice A0 a0.length c0) := apart_of O9 h0_8 (Nat.le_refl _)
  have A9x0x34 : Apart u9 (.slice A1 a1.length c1) := apart_of O9 h1_8 (Nat.le_refl _)
  have A9x0x36 : Apart u9 r5 := apart_of O9 O5_8.rd (Nat.le_refl _)
  have A9x0x38 : Apart u9 (.slice (some ⟨g6, 0, none⟩) a0.length a0.length) := apart_of O9 O6_8.rd (Nat.le_refl _)
  have A9x0x40 : Apart u9 (.slice (some ⟨g8, 0, none⟩) a1.length a1.length) := apart_of O9 O8.rd (Nat.le_refl _)
  have S9 : w.heap.size ≤ w8.heap.size := B_8.size
  have Cp0_9 : w9.cell? ⟨w.heap.size, 0, none⟩ = some (.slice A0 a0.length c0) := (hb9.cell (p := ⟨w.heap.size, 0, none⟩) Zp_8).trans Cp0_8
  have Cp1_9 : w9.cell? ⟨w.heap.size, 1, none⟩ = some (.float .f32 s0) := (hb9.cell (p := ⟨w.heap.size, 1, none⟩) Zp_8).trans Cp1_8
  have Zp_9 : w.heap.size < w9.heap.size := Nat.lt_of_lt_of_le Zp_8 hb9.size
  have Cx0_9 : w9.cell? ⟨w6.heap.size, 0, none⟩ = some (.slice (some ⟨g6, 0, none⟩) a0.length a0.length) := (hb9.cell (p := ⟨w6.heap.size, 0, none⟩) Zx_8).trans Cx0_8
  have Cx1_9 : w9.cell? ⟨w6.heap.size, 1, none⟩ = some (.float .f32 s0) := (hb9.cell (p := ⟨w6.heap.size, 1, none⟩) Zx_8).trans Cx1_8
  have Zx_9 : w6.heap.size < w9.heap.size := Nat.lt_of_lt_of_le Zx_8 hb9.size
  clear Cp0_8 Cp1_8 Zp_8 Cx0_8 Cx1_8 Zx_8
  have h0_9 : Rd w9 w9.heap.size (.slice A0 a0.length c0) (fl a0) := h0_8.step hb9
  have h1_9 : Rd w9 w9.heap.size (.slice A1 a1.length c1) (fl a1) := h1_8.step hb9
  have O5_9 : Own w9 w4.heap.size r5 (fl L) := O5_8.below hb9
  have O6_9 : Own w9 w5.heap.size (.slice (some ⟨g6, 0, none⟩) a0.length a0.length) (fl a0) := O6_8.below hb9
  have O8_9 : Own w9 w7.heap.size (.slice (some ⟨g8, 0, none⟩) a1.length a1.length) (fl a1) := O8.below hb9
  have B_9 : Below w.heap.size w w9 := B_8.trans (hb9.mono B_8.size)
  clear h0_8 h1_8 O5_8 O6_8 O8 B_8
  clear hb9
  go_wp2_with fail
  refine (eqF_any _ _ L L _ _ O9.rd O5_9.rd (Worth.refl _) hL).mono ?_
  rintro e w10 ⟨rfl, n10, hw10⟩
  have Cp0_10 : w10.cell? ⟨w.heap.size, 0, none⟩ = some (.slice A0 a0.length c0) := by subst hw10; exact Cp0_9
  have Cp1_10 : w10.cell? ⟨w.heap.size, 1, none⟩ = some (.float .f32 s0) := by subst hw10; exact Cp1_9
  have Zp_10 : w.heap.size < w10.heap.size := by subst hw10; exact Zp_9
  have Cx0_10 : w10.cell? ⟨w6.heap.size, 0, none⟩ = some (.slice (some ⟨g6, 0, none⟩) a0.length a0.length) := by subst hw10; exact Cx0_9
  have Cx1_10 : w10.cell? ⟨w6.heap.size, 1, none⟩ = some (.float .f32 s0) := by subst hw10; exact Cx1_9
  have Zx_10 : w6.heap.size < w10.heap.size := by subst hw10; exact Zx_9
  clear Cp0_9 Cp1_9 Zp_9 Cx0_9 Cx1_9 Zx_9
  have h0_10 : Rd w10 w10.heap.size (.slice A0 a0.length c0) (fl a0) := by subst hw10; exact h0_9
  have h1_10 : Rd w10 w10.heap.size (.slice A1 a1.length c1) (fl a1) := by subst hw10; exact h1_9
  have O5_10 : Own w10 w4.heap.size r5 (fl L) := by subst hw10; exact O5_9
  have O6_10 : Own w10 w5.heap.size (.slice (some ⟨g6, 0, none⟩) a0.length a0.length) (fl a0) := by subst hw10; exact O6_9
  have O8_10 : Own w10 w7.heap.size (.slice (some ⟨g8, 0, none⟩) a1.length a1.length) (fl a1) := by subst hw10; exact O8_9
  have O9_10 : Own w10 w8.heap.size u9 (fl L) := by subst hw10; exact O9
  have B_10 : Below w.heap.size w w10 := by subst hw10; exact below_drawn B_9 _
  clear h0_9 h1_9 O5_9 O6_9 O8_9 O9 B_9
  clear hw10
  go_wp2_with fail
  have HT := Lib.hid (fun (w' : World) (hr : Rd w' w'.heap.size (.slice A0 a0.length c0) (fl a0)) => Sf.toSch_any (.slice A0 a0.length c0) a0 s0 w' hr hm0)
  go_region_held3 (fun w' => w'.cell? ⟨w.heap.size, 0, none⟩ = some (.slice A0 a0.length c0) ∧ w'.cell? ⟨w.heap.size, 1, none⟩ = some (.float .f32 s0) ∧ w'.cell? ⟨w6.heap.size, 0, none⟩ = some (.slice (some ⟨g6, 0, none⟩) a0.length a0.length) ∧ w'.cell? ⟨w6.heap.size, 1, none⟩ = some (.float .f32 s0)) (first | exact ⟨Cp0_10, Cp1_10, Cx0_10, Cx1_10⟩ | exact ⟨Yp0_11, Yp1_11, Yx0_11, Yx1_11⟩ | exact ⟨Xp0_11, Xp1_11, Xx0_11, Xx1_11⟩) ((first | (go_at_call 17; refine (HT.out _ ?_).mono ?_; exact h0_10; rintro e w11 ⟨g11, rfl, O11, hb11⟩; replace hb11 : Below w10.heap.size w10 w11 := below_draw1 hb11; replace O11 : Own w11 w10.heap.size (.slice (some ⟨g11, 0, none⟩) a0.length a0.length) (fl a0) := O11; have Yp0_11 : w11.cell? ⟨w.heap.size, 0, none⟩ = some (.slice A0 a0.length c0) := (hb11.cell (p := ⟨w.heap.size, 0, none⟩) Zp_10).trans Cp0_10; have Yp1_11 : w11.cell? ⟨w.heap.size, 1, none⟩ = some (.float .f32 s0) := (hb11.cell (p := ⟨w.heap.size, 1, none⟩) Zp_10).trans Cp1_10; have Yx0_11 : w11.cell? ⟨w6.heap.size, 0, none⟩ = some (.slice (some ⟨g6, 0, none⟩) a0.length a0.length) := (hb11.cell (p := ⟨w6.heap.size, 0, none⟩) Zx_10).trans Cx0_10; have Yx1_11 : w11.cell? ⟨w6.heap.size, 1, none⟩ = some (.float .f32 s0) := (hb11.cell (p := ⟨w6.heap.size, 1, none⟩) Zx_10).trans Cx1_10) | (go_at_call 21; refine (Sf.eqSch_any _ _ a0 s0 _ ?_ ?_ hm0).mono ?_; exact (O6_10.below hb11).rd; exact O11.rd; rintro e w12 ⟨rfl, hb12⟩; have Xp0_11 : w12.cell? ⟨w.heap.size, 0, none⟩ = some (.slice A0 a0.length c0) := (hb12.cell (p := ⟨w.heap.size, 0, none⟩) (Nat.lt_of_lt_of_le Zp_10 hb11.size)).trans Yp0_11; have Xp1_11 : w12.cell? ⟨w.heap.size, 1, none⟩ = some (.float .f32 s0) := (hb12.cell (p := ⟨w.heap.size, 1, none⟩) (Nat.lt_of_lt_of_le Zp_10 hb11.size)).trans Yp1_11; have Xx0_11 : w12.cell? ⟨w6.heap.size, 0, none⟩ = some (.slice (some ⟨g6, 0, none⟩) a0.length a0.length) := (hb12.cell (p := ⟨w6.heap.size, 0, none⟩) (Nat.lt_of_lt_of_le Zx_10 hb11.size)).trans Yx0_11; have Xx1_11 : w12.cell? ⟨w6.heap.size, 1, none⟩ = some (.float .f32 s0) := (hb12.cell (p := ⟨w6.heap.size, 1, none⟩) (Nat.lt_of_lt_of_le Zx_10 hb11.size)).trans Yx1_11)))
  have hc12 : Below w10.heap.size w10 w12 := hb11.trans (hb12.mono hb11.size)
  clear HT Xp0_11 Yp0_11 Xp1_11 Yp1_11 Xx0_11 Yx0_11 Xx1_11 Yx1_11 O11 hb11 hb12
  have Cp0_12 : w12.cell? ⟨w.heap.size, 0, none⟩ = some (.slice A0 a0.length c0) := (hc12.cell (p := ⟨w.heap.size, 0, none⟩) Zp_10).trans Cp0_10
  have Cp1_12 : w12.cell? ⟨w.heap.size, 1, none⟩ = some (.float .f32 s0) := (hc12.cell (p := ⟨w.heap.size, 1, none⟩) Zp_10).trans Cp1_10
  have Zp_12 : w.heap.size < w12.heap.size := Nat.lt_of_lt_of_le Zp_10 hc12.size
  have Cx0_12 : w12.cell? ⟨w6.heap.size, 0, none⟩ = some (.slice (some ⟨g6, 0, none⟩) a0.length a0.length) := (hc12.cell (p := ⟨w6.heap.size, 0, none⟩) Zx_10).trans Cx0_10
  have Cx1_12 : w12.cell? ⟨w6.heap.size, 1, none⟩ = some (.float .f32 s0) := (hc12.cell (p := ⟨w6.heap.size, 1, none⟩) Zx_10).trans Cx1_10
  have Zx_12 : w6.heap.size < w12.heap.size := Nat.lt_of_lt_of_le Zx_10 hc12.size
  clear Cp0_10 Cp1_10 Zp_10 Cx0_10 Cx1_10 Zx_10
  have h0_12 : Rd w12 w12.heap.size (.slice A0 a0.length c0) (fl a0) := h0_10.step hc12
  have h1_12 : Rd w12 w12.heap.size (.slice A1 a1.length c1) (fl a1) := h1_10.step hc12
  have O5_12 : Own w12 w4.heap.size r5 (fl L) := O5_10.below hc12
  have O6_12 : Own w12 w5.heap.size (.slice (some ⟨g6, 0, none⟩) a0.length a0.length) (fl a0) := O6_10.below hc12
  have O8_12 : Own w12 w7.heap.size (.slice (some ⟨g8, 0, none⟩) a1.length a1.length) (fl a1) := O8_10.below hc12
  have O9_12 : Own w12 w8.heap.size u9 (fl L) := O9_10.below hc12
  have B_12 : Below w.heap.size w w12 := B_10.trans (hc12.mono B_10.size)
  clear h0_10 h1_10 O5_10 O6_10 O8_10 O9_10 B_10
  clear hc12
  go_wp2_with fail
  refine (toF_any _ a1 _ _ h1_12 (Nat.le_refl _) hm1).mono ?_
  rintro e w13 ⟨g13, rfl, O13, hb13⟩
  replace O13 := Own.row O13
  have SP13 : w.heap.size < w12.heap.size := Zp_12
  have A13x0x42 : Apart (.slice (some ⟨g13, 0, none⟩) a1.length a1.length) (.slice A0 a0.length c0) := apart_of O13 h0_12 (Nat.le_refl _)
  have A13x0x44 : Apart (.slice (some ⟨g13, 0, none⟩) a1.length a1.length) (.slice A1 a1.length c1) := apart_of O13 h1_12 (Nat.le_refl _)
  have A13x0x46 : Apart (.slice (some ⟨g13, 0, none⟩) a1.length a1.length) r5 := apart_of O13 O5_12.rd (Nat.le_refl _)
  have A13x0x48 : Apart (.slice (some ⟨g13, 0, none⟩) a1.length a1.length) (.slice (some ⟨g6, 0, none⟩) a0.length a0.length) := apart_of O13 O6_12.rd (Nat.le_refl _)
  have A13x0x50 : Apart (.slice (some ⟨g13, 0, none⟩) a1.length a1.length) (.slice (some ⟨g8, 0, none⟩) a1.length a1.length) := apart_of O13 O8_12.rd (Nat.le_refl _)
  have A13x0x52 : Apart (.slice (some ⟨g13, 0, none⟩) a1.length a1.length) u9 := apart_of O13 O9_12.rd (Nat.le_refl _)
  have S13 : w.heap.size ≤ w12.heap.size := B_12.size
  have Cp0_13 : w13.cell? ⟨w.heap.size, 0, none⟩ = some (.slice A0 a0.length c0) := (hb13.cell (p := ⟨w.heap.size, 0, none⟩) Zp_12).trans Cp0_12
  have Cp1_13 : w13.cell? ⟨w.heap.size, 1, none⟩ = some (.float .f32 s0) := (hb13.cell (p := ⟨w.heap.size, 1, none⟩) Zp_12).trans Cp1_12
  have Zp_13 : w.heap.size < w13.heap.size := Nat.lt_of_lt_of_le Zp_12 hb13.size
  have Cx0_13 : w13.cell? ⟨w6.heap.size, 0, none⟩ = some (.slice (some ⟨g6, 0, none⟩) a0.length a0.length) := (hb13.cell (p := ⟨w6.heap.size, 0, none⟩) Zx_12).trans Cx0_12
  have Cx1_13 : w13.cell? ⟨w6.heap.size, 1, none⟩ = some (.float .f32 s0) := (hb13.cell (p := ⟨w6.heap.size, 1, none⟩) Zx_12).trans Cx1_12
  have Zx_13 : w6.heap.size < w13.heap.size := Nat.lt_of_lt_of_le Zx_12 hb13.size
  clear Cp0_12 Cp1_12 Zp_12 Cx0_12 Cx1_12 Zx_12
  have h0_13 : Rd w13 w13.heap.size (.slice A0 a0.length c0) (fl a0) := h0_12.step hb13
  have h1_13 : Rd w13 w13.heap.size (.slice A1 a1.length c1) (fl a1) := h1_12.step hb13
  have O5_13 : Own w13 w4.heap.size r5 (fl L) := O5_12.below hb13
  have O6_13 : Own w13 w5.heap.size (.slice (some ⟨g6, 0, none⟩) a0.length a0.length) (fl a0) := O6_12.below hb13
  have O8_13 : Own w13 w7.heap.size (.slice (some ⟨g8, 0, none⟩) a1.length a1.length) (fl a1) := O8_12.below hb13
  have O9_13 : Own w13 w8.heap.size u9 (fl L) := O9_12.below hb13
  have B_13 : Below w.heap.size w w13 := B_12.trans (hb13.mono B_12.size)
  clear h0_12 h1_12 O5_12 O6_12 O8_12 O9_12 B_12
  clear hb13
  go_wp2_with fail
  refine (eqF_any _ _ a1 a1 _ _ O8_13.rd O13.rd (Worth.refl _) hm1).mono ?_
  rintro e w14 ⟨rfl, n14, hw14⟩
  have Cp0_14 : w14.cell? ⟨w.heap.size, 0, none⟩ = some (.slice A0 a0.length c0) := by subst hw14; exact Cp0_13
  have Cp1_14 : w14.cell? ⟨w.heap.size, 1, none⟩ = some (.float .f32 s0) := by subst hw14; exact Cp1_13
  have Zp_14 : w.heap.size < w14.heap.size := by subst hw14; exact Zp_13
  have Cx0_14 : w14.cell? ⟨w6.heap.size, 0, none⟩ = some (.slice (some ⟨g6, 0, none⟩) a0.length a0.length) := by subst hw14; exact Cx0_13
  have Cx1_14 : w14.cell? ⟨w6.heap.size, 1, none⟩ = some (.float .f32 s0) := by subst hw14; exact Cx1_13
  have Zx_14 : w6.heap.size < w14.heap.size := by subst hw14; exact Zx_13
  clear Cp0_13 Cp1_13 Zp_13 Cx0_13 Cx1_13 Zx_13
  have h0_14 : Rd w14 w14.heap.size (.slice A0 a0.length c0) (fl a0) := by subst hw14; exact h0_13
  have h1_14 : Rd w14 w14.heap.size (.slice A1 a1.length c1) (fl a1) := by subst hw14; exact h1_13
  have O5_14 : Own w14 w4.heap.size r5 (fl L) := by subst hw14; exact O5_13
  have O6_14 : Own w14 w5.heap.size (.slice (some ⟨g6, 0, none⟩) a0.length a0.length) (fl a0) := by subst hw14; exact O6_13
  have O8_14 : Own w14 w7.heap.size (.slice (some ⟨g8, 0, none⟩) a1.length a1.length) (fl a1) := by subst hw14; exact O8_13
  have O9_14 : Own w14 w8.heap.size u9 (fl L) := by subst hw14; exact O9_13
  have O13_14 : Own w14 w12.heap.size (.slice (some ⟨g13, 0, none⟩) a1.length a1.length) (fl a1) := by subst hw14; exact O13
  have B_14 : Below w.heap.size w w14 := by subst hw14; exact below_drawn B_13 _
  clear h0_13 h1_13 O5_13 O6_13 O8_13 O9_13 O13 B_13
  clear hw14
  clear O13_14
  go_wp2_with fail
  refine (Sf.markS_any _ a0 s0 _ _ _ O6_14 hm0 (by omega) (by omega)).mono ?_
  rintro e w16 ⟨rfl, w15, hb15, hw16⟩
  clear Cx0_14 Cx1_14 Zx_14
  have Cp0_15 : w15.cell? ⟨w.heap.size, 0, none⟩ = some (.slice A0 a0.length c0) := (hb15.cell (p := ⟨w.heap.size, 0, none⟩) Zp_14).trans Cp0_14
  have Cp1_15 : w15.cell? ⟨w.heap.size, 1, none⟩ = some (.float .f32 s0) := (hb15.cell (p := ⟨w.heap.size, 1, none⟩) Zp_14).trans Cp1_14
  have Zp_15 : w.heap.size < w15.heap.size := Nat.lt_of_lt_of_le Zp_14 hb15.size
  clear Cp0_14 Cp1_14 Zp_14
  have h0_15 : Rd w15 w15.heap.size (.slice A0 a0.length c0) (fl a0) := h0_14.step hb15
  have h1_15 : Rd w15 w15.heap.size (.slice A1 a1.length c1) (fl a1) := h1_14.step hb15
  have O5_15 : Own w15 w4.heap.size r5 (fl L) := O5_14.below hb15
  have O6_15 : Own w15 w5.heap.size (.slice (some ⟨g6, 0, none⟩) a0.length a0.length) (fl a0) := O6_14.below hb15
  have O8_15 : Own w15 w7.heap.size (.slice (some ⟨g8, 0, none⟩) a1.length a1.length) (fl a1) := O8_14.below hb15
  have O9_15 : Own w15 w8.heap.size u9 (fl L) := O9_14.below hb15
  have B_15 : Below w.heap.size w w15 := B_14.trans (hb15.mono B_14.size)
  clear h0_14 h1_14 O5_14 O6_14 O8_14 O9_14 B_14
  clear hb15
  have Cp0_16 : w16.cell? ⟨w.heap.size, 0, none⟩ = some (.slice A0 a0.length c0) := by rw [hw16]; exact ((over_below O6_15 _).cell (p := ⟨w.heap.size, 0, none⟩) SP6).trans Cp0_15
  have Cp1_16 : w16.cell? ⟨w.heap.size, 1, none⟩ = some (.float .f32 s0) := by rw [hw16]; exact ((over_below O6_15 _).cell (p := ⟨w.heap.size, 1, none⟩) SP6).trans Cp1_15
  have Zp_16 : w.heap.size < w16.heap.size := by rw [hw16, over_size]; exact Zp_15
  clear Cp0_15 Cp1_15 Zp_15
  have h0_16 : Rd w16 w16.heap.size (.slice A0 a0.length c0) (fl a0) := by rw [hw16, over_size]; exact over_rd O6_15 h0_15 A6x0x18 _
  have h1_16 : Rd w16 w16.heap.size (.slice A1 a1.length c1) (fl a1) := by rw [hw16, over_size]; exact over_rd O6_15 h1_15 A6x0x20 _
  have O5_16 : Own w16 w4.heap.size r5 (fl L) := by rw [hw16]; exact over_ownOther O6_15 O5_15 A6x0x22 _
  have O6_16 : Own w16 w5.heap.size (.slice (some ⟨g6, 0, none⟩) a0.length a0.length) ((List.range a0.length).map (mkF (1))) := by rw [hw16]; have := over_own O6_15 (mkF (1)); rw [fl_len] at this; exact this
  have O8_16 : Own w16 w7.heap.size (.slice (some ⟨g8, 0, none⟩) a1.length a1.length) (fl a1) := by rw [hw16]; exact over_ownOther O6_15 O8_15 A8x0x30.symm _
  have O9_16 : Own w16 w8.heap.size u9 (fl L) := by rw [hw16]; exact over_ownOther O6_15 O9_15 A9x0x38.symm _
  have B_16 : Below w.heap.size w w16 := by rw [hw16]; exact B_15.trans ((over_below O6_15 _).mono S6)
  clear h0_15 h1_15 O5_15 O6_15 O8_15 O9_15 B_15
  clear hw16
  go_wp2_with fail
  refine (markF_any _ a1 _ _ _ O8_16 hm1 (by omega) (by omega)).mono ?_
  rintro e w17 ⟨rfl, hw17⟩
  have Cp0_17 : w17.cell? ⟨w.heap.size, 0, none⟩ = some (.slice A0 a0.length c0) := by rw [hw17]; exact ((over_below O8_16 _).cell (p := ⟨w.heap.size, 0, none⟩) SP8).trans Cp0_16
  have Cp1_17 : w17.cell? ⟨w.heap.size, 1, none⟩ = some (.float .f32 s0) := by rw [hw17]; exact ((over_below O8_16 _).cell (p := ⟨w.heap.size, 1, none⟩) SP8).trans Cp1_16
  have Zp_17 : w.heap.size < w17.heap.size := by rw [hw17, over_size]; exact Zp_16
  clear Cp0_16 Cp1_16 Zp_16
  have h0_17 : Rd w17 w17.heap.size (.slice A0 a0.length c0) (fl a0) := by rw [hw17, over_size]; exact over_rd O8_16 h0_16 A8x0x24 _
  have h1_17 : Rd w17 w17.heap.size (.slice A1 a1.length c1) (fl a1) := by rw [hw17, over_size]; exact over_rd O8_16 h1_16 A8x0x26 _
  have O5_17 : Own w17 w4.heap.size r5 (fl L) := by rw [hw17]; exact over_ownOther O8_16 O5_16 A8x0x28 _
  have O6_17 : Own w17 w5.heap.size (.slice (some ⟨g6, 0, none⟩) a0.length a0.length) ((List.range a0.length).map (mkF (1))) := by rw [hw17]; exact over_ownOther O8_16 O6_16 A8x0x30 _
  have O8_17 : Own w17 w7.heap.size (.slice (some ⟨g8, 0, none⟩) a1.length a1.length) ((List.range a1.length).map (mkF (1 + a0.length))) := by rw [hw17]; have := over_own O8_16 (mkF (1 + a0.length)); rw [fl_len] at this; exact this
  have O9_17 : Own w17 w8.heap.size u9 (fl L) := by rw [hw17]; exact over_ownOther O8_16 O9_16 A9x0x40.symm _
  have B_17 : Below w.heap.size w w17 := by rw [hw17]; exact B_16.trans ((over_below O8_16 _).mono S8)
  clear h0_16 h1_16 O5_16 O6_16 O8_16 O9_16 B_16
  clear hw17
  clear O6_17 O8_17
  go_wp2_with fail
  refine (eqF_any _ _ L L _ _ O9_17.rd O5_17.rd (Worth.refl _) hL).mono ?_
  rintro e w18 ⟨rfl, n18, hw18⟩
  have Cp0_18 : w18.cell? ⟨w.heap.size, 0, none⟩ = some (.slice A0 a0.length c0) := by subst hw18; exact Cp0_17
  have Cp1_18 : w18.cell? ⟨w.heap.size, 1, none⟩ = some (.float .f32 s0) := by subst hw18; exact Cp1_17
  have Zp_18 : w.heap.size < w18.heap.size := by subst hw18; exact Zp_17
  clear Cp0_17 Cp1_17 Zp_17
  have h0_18 : Rd w18 w18.heap.size (.slice A0 a0.length c0) (fl a0) := by subst hw18; exact h0_17
  have h1_18 : Rd w18 w18.heap.size (.slice A1 a1.length c1) (fl a1) := by subst hw18; exact h1_17
  have O5_18 : Own w18 w4.heap.size r5 (fl L) := by subst hw18; exact O5_17
  have O9_18 : Own w18 w8.heap.size u9 (fl L) := by subst hw18; exact O9_17
  have B_18 : Below w.heap.size w w18 := by subst hw18; exact below_drawn B_17 _
  clear h0_17 h1_17 O5_17 O9_17 B_17
  clear hw18
  go_wp2_with fail
  refine (markF_any _ L _ _ _ O9_18 hL (by omega) (by omega)).mono ?_
  rintro e w19 ⟨rfl, hw19⟩
  have Cp0_19 : w19.cell? ⟨w.heap.size, 0, none⟩ = some (.slice A0 a0.length c0) := by rw [hw19]; exact ((over_below O9_18 _).cell (p := ⟨w.heap.size, 0, none⟩) SP9).trans Cp0_18
  have Cp1_19 : w19.cell? ⟨w.heap.size, 1, none⟩ = some (.float .f32 s0) := by rw [hw19]; exact ((over_below O9_18 _).cell (p := ⟨w.heap.size, 1, none⟩) SP9).trans Cp1_18
  have Zp_19 : w.heap.size < w19.heap.size := by rw [hw19, over_size]; exact Zp_18
  clear Cp0_18 Cp1_18 Zp_18
  have h0_19 : Rd w19 w19.heap.size (.slice A0 a0.length c0) (fl a0) := by rw [hw19, over_size]; exact over_rd O9_18 h0_18 A9x0x32 _
  have h1_19 : Rd w19 w19.heap.size (.slice A1 a1.length c1) (fl a1) := by rw [hw19, over_size]; exact over_rd O9_18 h1_18 A9x0x34 _
  have O5_19 : Own w19 w4.heap.size r5 (fl L) := by rw [hw19]; exact over_ownOther O9_18 O5_18 A9x0x36 _
  have O9_19 : Own w19 w8.heap.size u9 ((List.range L.length).map (mkF (1))) := by rw [hw19]; have := over_own O9_18 (mkF (1)); rw [fl_len] at this; exact this
  have B_19 : Below w.heap.size w w19 := by rw [hw19]; exact B_18.trans ((over_below O9_18 _).mono S9)
  clear h0_18 h1_18 O5_18 O9_18 B_18
  clear hw19
  go_wp2_with fail
  refine (heldF_any _ L.length _ _ _ O9_19.rd hL (by omega) (by omega)).mono ?_
  rintro e w' ⟨rfl, rfl⟩
  go_wp2_with fail
  refine (Sf.toSch_any _ a0 s0 _ h0_19 hm0).mono ?_
  rintro e w20 ⟨g20, rfl, O20, hb20⟩
  have SP20 : w.heap.size < w19.heap.size := Zp_19
  have A20x0x54 : Apart (.slice (some ⟨g20, 0, none⟩) a0.length a0.length) (.slice A0 a0.length c0) := apart_of O20 h0_19 (Nat.le_refl _)
  have A20x0x56 : Apart (.slice (some ⟨g20, 0, none⟩) a0.length a0.length) (.slice A1 a1.length c1) := apart_of O20 h1_19 (Nat.le_refl _)
  have A20x0x58 : Apart (.slice (some ⟨g20, 0, none⟩) a0.length a0.length) r5 := apart_of O20 O5_19.rd (Nat.le_refl _)
  have A20x0x60 : Apart (.slice (some ⟨g20, 0, none⟩) a0.length a0.length) u9 := apart_of O20 O9_19.rd (Nat.le_refl _)
  have S20 : w.heap.size ≤ w19.heap.size := B_19.size
  have Cp0_20 : w20.cell? ⟨w.heap.size, 0, none⟩ = some (.slice A0 a0.length c0) := (hb20.cell (p := ⟨w.heap.size, 0, none⟩) Zp_19).trans Cp0_19
  have Cp1_20 : w20.cell? ⟨w.heap.size, 1, none⟩ = some (.float .f32 s0) := (hb20.cell (p := ⟨w.heap.size, 1, none⟩) Zp_19).trans Cp1_19
  have Zp_20 : w.heap.size < w20.heap.size := Nat.lt_of_lt_of_le Zp_19 hb20.size
  clear Cp0_19 Cp1_19 Zp_19
  have h0_20 : Rd w20 w20.heap.size (.slice A0 a0.length c0) (fl a0) := h0_19.step hb20
  have h1_20 : Rd w20 w20.heap.size (.slice A1 a1.length c1) (fl a1) := h1_19.step hb20
  have O5_20 : Own w20 w4.heap.size r5 (fl L) := O5_19.below hb20
  have O9_20 : Own w20 w8.heap.size u9 ((List.range L.length).map (mkF (1))) := O9_19.below hb20
  have B_20 : Below w.heap.size w w20 := B_19.trans (hb20.mono B_19.size)
  clear h0_19 h1_19 O5_19 O9_19 B_19
  clear hb20
  go_wp2_with fail
  refine (toF_any _ a1 _ _ h1_20 (Nat.le_refl _) hm1).mono ?_
  rintro e w21 ⟨g21, rfl, O21, hb21⟩
  replace O21 := Own.row O21
  have SP21 : w.heap.size < w20.heap.size := Zp_20
  have A21x0x62 : Apart (.slice (some ⟨g21, 0, none⟩) a1.length a1.length) (.slice A0 a0.length c0) := apart_of O21 h0_20 (Nat.le_refl _)
  have A21x0x64 : Apart (.slice (some ⟨g21, 0, none⟩) a1.length a1.length) (.slice A1 a1.length c1) := apart_of O21 h1_20 (Nat.le_refl _)
  have A21x0x66 : Apart (.slice (some ⟨g21, 0, none⟩) a1.length a1.length) r5 := apart_of O21 O5_20.rd (Nat.le_refl _)
  have A21x0x68 : Apart (.slice (some ⟨g21, 0, none⟩) a1.length a1.length) u9 := apart_of O21 O9_20.rd (Nat.le_refl _)
  have A21x0x70 : Apart (.slice (some ⟨g21, 0, none⟩) a1.length a1.length) (.slice (some ⟨g20, 0, none⟩) a0.length a0.length) := apart_of O21 O20.rd (Nat.le_refl _)
  have S21 : w.heap.size ≤ w20.heap.size := B_20.size
  have Cp0_21 : w21.cell? ⟨w.heap.size, 0, none⟩ = some (.slice A0 a0.length c0) := (hb21.cell (p := ⟨w.heap.size, 0, none⟩) Zp_20).trans Cp0_20
  have Cp1_21 : w21.cell? ⟨w.heap.size, 1, none⟩ = some (.float .f32 s0) := (hb21.cell (p := ⟨w.heap.size, 1, none⟩) Zp_20).trans Cp1_20
  have Zp_21 : w.heap.size < w21.heap.size := Nat.lt_of_lt_of_le Zp_20 hb21.size
  clear Cp0_20 Cp1_20 Zp_20
  have h0_21 : Rd w21 w21.heap.size (.slice A0 a0.length c0) (fl a0) := h0_20.step hb21
  have h1_21 : Rd w21 w21.heap.size (.slice A1 a1.length c1) (fl a1) := h1_20.step hb21
  have O5_21 : Own w21 w4.heap.size r5 (fl L) := O5_20.below hb21
  have O9_21 : Own w21 w8.heap.size u9 ((List.range L.length).map (mkF (1))) := O9_20.below hb21
  have O20_21 : Own w21 w19.heap.size (.slice (some ⟨g20, 0, none⟩) a0.length a0.length) (fl a0) := O20.below hb21
  have B_21 : Below w.heap.size w w21 := B_20.trans (hb21.mono B_20.size)
  clear h0_20 h1_20 O5_20 O9_20 O20 B_20
  clear hb21
  go_wp2_with fail
  refine (HI.out _ _ _ hm0 O20_21.rd O21.rd).mono ?_
  rintro e w22 ⟨h22, rfl, O22, hb22⟩
  have SP22 : w.heap.size < w21.heap.size := Zp_21
  have A22x0x72 : Apart h22 (.slice A0 a0.length c0) := apart_of O22 h0_21 (Nat.le_refl _)
  have A22x0x74 : Apart h22 (.slice A1 a1.length c1) := apart_of O22 h1_21 (Nat.le_refl _)
  have A22x0x76 : Apart h22 r5 := apart_of O22 O5_21.rd (Nat.le_refl _)
  have A22x0x78 : Apart h22 u9 := apart_of O22 O9_21.rd (Nat.le_refl _)
  have A22x0x80 : Apart h22 (.slice (some ⟨g20, 0, none⟩) a0.length a0.length) := apart_of O22 O20_21.rd (Nat.le_refl _)
  have A22x0x82 : Apart h22 (.slice (some ⟨g21, 0, none⟩) a1.length a1.length) := apart_of O22 O21.rd (Nat.le_refl _)
  have S22 : w.heap.size ≤ w21.heap.size := B_21.size
  have Cp0_22 : w22.cell? ⟨w.heap.size, 0, none⟩ = some (.slice A0 a0.length c0) := (hb22.cell (p := ⟨w.heap.size, 0, none⟩) Zp_21).trans Cp0_21
  have Cp1_22 : w22.cell? ⟨w.heap.size, 1, none⟩ = some (.float .f32 s0) := (hb22.cell (p := ⟨w.heap.size, 1, none⟩) Zp_21).trans Cp1_21
  have Zp_22 : w.heap.size < w22.heap.size := Nat.lt_of_lt_of_le Zp_21 hb22.size
  clear Cp0_21 Cp1_21 Zp_21
  have h0_22 : Rd w22 w22.heap.size (.slice A0 a0.length c0) (fl a0) := h0_21.step hb22
  have h1_22 : Rd w22 w22.heap.size (.slice A1 a1.length c1) (fl a1) := h1_21.step hb22
  have O5_22 : Own w22 w4.heap.size r5 (fl L) := O5_21.below hb22
  have O9_22 : Own w22 w8.heap.size u9 ((List.range L.length).map (mkF (1))) := O9_21.below hb22
  have O20_22 : Own w22 w19.heap.size (.slice (some ⟨g20, 0, none⟩) a0.length a0.length) (fl a0) := O20_21.below hb22
  have O21_22 : Own w22 w20.heap.size (.slice (some ⟨g21, 0, none⟩) a1.length a1.length) (fl a1) := O21.below hb22
  have B_22 : Below w.heap.size w w22 := B_21.trans (hb22.mono B_21.size)
  clear h0_21 h1_21 O5_21 O9_21 O20_21 O21 B_21
  clear hb22
  clear O20_22 O21_22
  go_wp2_with fail
  refine (eqF_any _ _ L L _ _ O22.rd O5_22.rd (Worth.refl _) hL).mono ?_
  rintro e w23 ⟨rfl, n23, hw23⟩
  have Cp0_23 : w23.cell? ⟨w.heap.size, 0, none⟩ = some (.slice A0 a0.length c0) := by subst hw23; exact Cp0_22
  have Cp1_23 : w23.cell? ⟨w.heap.size, 1, none⟩ = some (.float .f32 s0) := by subst hw23; exact Cp1_22
  have Zp_23 : w.heap.size < w23.heap.size := by subst hw23; exact Zp_22
  clear Cp0_22 Cp1_22 Zp_22
  have h0_23 : Rd w23 w23.heap.size (.slice A0 a0.length c0) (fl a0) := by subst hw23; exact h0_22
  have h1_23 : Rd w23 w23.heap.size (.slice A1 a1.length c1) (fl a1) := by subst hw23; exact h1_22
  have O5_23 : Own w23 w4.heap.size r5 (fl L) := by subst hw23; exact O5_22
  have O9_23 : Own w23 w8.heap.size u9 ((List.range L.length).map (mkF (1))) := by subst hw23; exact O9_22
  have O22_23 : Own w23 w21.heap.size h22 (fl L) := by subst hw23; exact O22
  have B_23 : Below w.heap.size w w23 := by subst hw23; exact below_drawn B_22 _
  clear h0_22 h1_22 O5_22 O9_22 O22 B_22
  clear hw23
  go_wp2_with fail
  refine (heldF_any _ L.length _ _ _ O9_23.rd hL (by omega) (by omega)).mono ?_
  rintro e w' ⟨rfl, rfl⟩
  go_wp2_with fail
  go_ret
  exact ⟨rfl, B_23⟩
end Go.Proofs.Ytfbdmhkmkmbipaa
