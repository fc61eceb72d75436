/-
  The walk of the law of EnergiesIn.
-/
import Derived.Test.YtfbdmhkmkmbipaaRows
import Derived.ProofKit
import Derived.OpenShut
import Derived.WalkLawsBesides
import Derived.KernelRfl
import Derived.Deep.RegionHeld3
import Derived.Test.YtfbdmhkmkmbipaaEiI
import Derived.Test.YtfbdmhkmkmbipaaEiS
import Derived.Test.YtfbdmhkmkmbipaaPiM
import Derived.Test.YtfbdmhkmkmbipaaPiL
import Derived.Test.YtfbdmhkmkmbipaaMkF
import Derived.Test.YtfbdmhkmkmbipaaMel
namespace Go.Proofs.Ytfbdmhkmkmbipaa
open Go.RowKit Fl
set_option linter.unusedVariables false
set_option maxRecDepth 100000 in
set_option maxHeartbeats 8000000 in
theorem fnExactEnergiesIn.walk (w : World) (v0 : Value) (p0 q0 : Int) (a0 : List Nat) (y0 : (Lit.int .i64 p0).wf = true) (z0 : (Lit.int .i64 q0).wf = true) (h0 : Rd w w.heap.size v0 (a0.map (.float .f32))) (w0 : ∀ x ∈ a0, x < 2 ^ 32) (a1 : Int) (w1 : (Lit.int .i64 a1).wf = true) :
    Calls Try.prog 11 #[.agg #[.int .i64 p0, .int .i64 q0, v0], .int .i64 a1] w fun e w' => e = .returned (.bool true) ∧ Below w.heap.size w w' := by
  have hle0 := h0.le
  rw [show (a0.map (.float .f32)) = fl a0 from rfl, fl_len] at hle0
  unfold maxLen at hle0
  replace h0 : Rd w w.heap.size v0 (fl a0) := h0
  obtain ⟨A0, c0, hv0, q1, q2, q3⟩ := id h0
  clear q1 q2 q3
  rw [fl_len] at hv0
  subst hv0
  have HX0 := Lib.hid w0
  have hsf : ∀ (a : Addr) (x : Nat) (w : World), (store a (.float .f32 x)).run Try.prog w = stored Try.prog w a (.float .f32 x) .plain := fun a x w => run_store _ w a _ _ rfl
  clear w0 w1 y0 z0
  have hL0 : (eiR p0 q0 a0 a1).length ≤ 1048576 := eiR_len _ _ _ _
  obtain ⟨L, hLe⟩ : ∃ L, L = eiR p0 q0 a0 a1 := ⟨_, rfl⟩
  obtain ⟨b, hbe⟩ : ∃ b, b = eiB p0 q0 a0 a1 := ⟨_, rfl⟩
  rw [← hLe] at hL0
  have hL := hL0
  clear hL0
  have HS := Lib.hid (fun (w' : World) (u0 : Value) (hm0 : a0.length ≤ 1048576) (r0 : Rd w' w'.heap.size u0 (fl a0)) => (show Calls Try.prog 47 #[.agg #[.int .i64 p0, .int .i64 q0, u0], .int .i64 a1] w' (RetEi L b w') by rw [hLe, hbe]; exact eiS_any u0 p0 q0 a1 a0 w' r0 hm0 HX0.out))
  have HI := Lib.hid (fun (w' : World) (u0 : Value) (hm0 : a0.length ≤ 1048576) (r0 : Rd w' w'.heap.size u0 (fl a0)) => (show Calls Try.prog 48 #[.agg #[.int .i64 p0, .int .i64 q0, u0], .int .i64 a1] w' (RetEi L b w') by rw [hLe, hbe]; exact eiI_any u0 p0 q0 a1 a0 w' r0 hm0 HX0.out))
  clear hLe hbe
  go_enter Try.func11, Try.ntmps11
  have B_0 : Below w.heap.size w w := Below.refl _ _
  go_wp2_with fail
  have hb1 : Below w.heap.size w (w.alloc (.cells #[(.int .i64 p0), (.int .i64 q0), (.slice A0 a0.length c0)] 48)) := (Below.refl _ _).alloc (Nat.le_refl _) _
  have Cp0_1 : (w.alloc (.cells #[(.int .i64 p0), (.int .i64 q0), (.slice A0 a0.length c0)] 48)).cell? ⟨w.heap.size, 0, none⟩ = some (.int .i64 p0) := (cell_of_row _ _ _ _ _ _ (heap_alloc_new w _)).trans rfl
  have Cp1_1 : (w.alloc (.cells #[(.int .i64 p0), (.int .i64 q0), (.slice A0 a0.length c0)] 48)).cell? ⟨w.heap.size, 1, none⟩ = some (.int .i64 q0) := (cell_of_row _ _ _ _ _ _ (heap_alloc_new w _)).trans rfl
  have Cp2_1 : (w.alloc (.cells #[(.int .i64 p0), (.int .i64 q0), (.slice A0 a0.length c0)] 48)).cell? ⟨w.heap.size, 2, none⟩ = some (.slice A0 a0.length c0) := (cell_of_row _ _ _ _ _ _ (heap_alloc_new w _)).trans rfl
  have Zp_1 : w.heap.size < (w.alloc (.cells #[(.int .i64 p0), (.int .i64 q0), (.slice A0 a0.length c0)] 48)).heap.size := by simp
  generalize (w.alloc (.cells #[(.int .i64 p0), (.int .i64 q0), (.slice A0 a0.length c0)] 48)) = w1 at *
  have h0_1 : Rd w1 w1.heap.size (.slice A0 a0.length c0) (fl a0) := h0.step hb1
  have B_1 : Below w.heap.size w w1 := B_0.trans (hb1.mono B_0.size)
  clear h0 B_0
  clear hb1
  refine (szPic_any _ p0 q0 a0 1048576 _ h0_1 (by omega) (by omega) hle0).mono ?_
  rintro e w2 ⟨rfl, hb2⟩
  have Cp0_2 : w2.cell? ⟨w.heap.size, 0, none⟩ = some (.int .i64 p0) := (hb2.cell (p := ⟨w.heap.size, 0, none⟩) Zp_1).trans Cp0_1
  have Cp1_2 : w2.cell? ⟨w.heap.size, 1, none⟩ = some (.int .i64 q0) := (hb2.cell (p := ⟨w.heap.size, 1, none⟩) Zp_1).trans Cp1_1
  have Cp2_2 : w2.cell? ⟨w.heap.size, 2, none⟩ = some (.slice A0 a0.length c0) := (hb2.cell (p := ⟨w.heap.size, 2, none⟩) Zp_1).trans Cp2_1
  have Zp_2 : w.heap.size < w2.heap.size := Nat.lt_of_lt_of_le Zp_1 hb2.size
  clear Cp0_1 Cp1_1 Cp2_1 Zp_1
  have h0_2 : Rd w2 w2.heap.size (.slice A0 a0.length c0) (fl a0) := h0_1.step hb2
  have B_2 : Below w.heap.size w w2 := B_1.trans (hb2.mono B_1.size)
  clear h0_1 B_1
  clear hb2
  by_cases hbig0 : (1048576 : Int) < a0.length
  · rw [if_pos hbig0]
    go_wp2_with fail
    go_ret
    exact ⟨rfl, B_2⟩
  rw [if_neg hbig0]
  have hm0 : a0.length ≤ 1048576 := by omega
  have hl0 : 0 ≤ (1048576 : Int) - a0.length := by omega
  clear hbig0
  go_wp2_with fail
  refine (toPic_any _ p0 q0 a0 _ h0_2 hm0).mono ?_
  rintro e w3 ⟨g3, rfl, O3, hb3⟩
  have SP3 : w.heap.size < w2.heap.size := Zp_2
  have A3x0x0 : Apart (.slice (some ⟨g3, 0, none⟩) a0.length a0.length) (.slice A0 a0.length c0) := apart_of O3 h0_2 (Nat.le_refl _)
  have S3 : w.heap.size ≤ w2.heap.size := B_2.size
  have Cp0_3 : w3.cell? ⟨w.heap.size, 0, none⟩ = some (.int .i64 p0) := (hb3.cell (p := ⟨w.heap.size, 0, none⟩) Zp_2).trans Cp0_2
  have Cp1_3 : w3.cell? ⟨w.heap.size, 1, none⟩ = some (.int .i64 q0) := (hb3.cell (p := ⟨w.heap.size, 1, none⟩) Zp_2).trans Cp1_2
  have Cp2_3 : w3.cell? ⟨w.heap.size, 2, none⟩ = some (.slice A0 a0.length c0) := (hb3.cell (p := ⟨w.heap.size, 2, none⟩) Zp_2).trans Cp2_2
  have Zp_3 : w.heap.size < w3.heap.size := Nat.lt_of_lt_of_le Zp_2 hb3.size
  clear Cp0_2 Cp1_2 Cp2_2 Zp_2
  have h0_3 : Rd w3 w3.heap.size (.slice A0 a0.length c0) (fl a0) := h0_2.step hb3
  have B_3 : Below w.heap.size w w3 := B_2.trans (hb3.mono B_2.size)
  clear h0_2 B_2
  clear hb3
  go_wp2_with fail
  refine (HS.out _ _ hm0 O3.rd ).mono ?_
  rintro e w4 ⟨r4, rfl, O4, hb4⟩
  have SP4 : w.heap.size < w3.heap.size := Zp_3
  have A4x0x2 : Apart r4 (.slice A0 a0.length c0) := apart_of O4 h0_3 (Nat.le_refl _)
  have A4x0x4 : Apart r4 (.slice (some ⟨g3, 0, none⟩) a0.length a0.length) := apart_of O4 O3.rd (Nat.le_refl _)
  have S4 : w.heap.size ≤ w3.heap.size := B_3.size
  have Cp0_4 : w4.cell? ⟨w.heap.size, 0, none⟩ = some (.int .i64 p0) := (hb4.cell (p := ⟨w.heap.size, 0, none⟩) Zp_3).trans Cp0_3
  have Cp1_4 : w4.cell? ⟨w.heap.size, 1, none⟩ = some (.int .i64 q0) := (hb4.cell (p := ⟨w.heap.size, 1, none⟩) Zp_3).trans Cp1_3
  have Cp2_4 : w4.cell? ⟨w.heap.size, 2, none⟩ = some (.slice A0 a0.length c0) := (hb4.cell (p := ⟨w.heap.size, 2, none⟩) Zp_3).trans Cp2_3
  have Zp_4 : w.heap.size < w4.heap.size := Nat.lt_of_lt_of_le Zp_3 hb4.size
  clear Cp0_3 Cp1_3 Cp2_3 Zp_3
  have h0_4 : Rd w4 w4.heap.size (.slice A0 a0.length c0) (fl a0) := h0_3.step hb4
  have O3_4 : Own w4 w2.heap.size (.slice (some ⟨g3, 0, none⟩) a0.length a0.length) (fl a0) := O3.below hb4
  have B_4 : Below w.heap.size w w4 := B_3.trans (hb4.mono B_3.size)
  clear h0_3 O3 B_3
  clear hb4
  clear O3_4
  go_wp2_with fail
  refine (toPic_any _ p0 q0 a0 _ h0_4 hm0).mono ?_
  rintro e w5 ⟨g5, rfl, O5, hb5⟩
  have SP5 : w.heap.size < w4.heap.size := Zp_4
  have A5x0x6 : Apart (.slice (some ⟨g5, 0, none⟩) a0.length a0.length) (.slice A0 a0.length c0) := apart_of O5 h0_4 (Nat.le_refl _)
  have A5x0x8 : Apart (.slice (some ⟨g5, 0, none⟩) a0.length a0.length) r4 := apart_of O5 O4.rd (Nat.le_refl _)
  have S5 : w.heap.size ≤ w4.heap.size := B_4.size
  have Cp0_5 : w5.cell? ⟨w.heap.size, 0, none⟩ = some (.int .i64 p0) := (hb5.cell (p := ⟨w.heap.size, 0, none⟩) Zp_4).trans Cp0_4
  have Cp1_5 : w5.cell? ⟨w.heap.size, 1, none⟩ = some (.int .i64 q0) := (hb5.cell (p := ⟨w.heap.size, 1, none⟩) Zp_4).trans Cp1_4
  have Cp2_5 : w5.cell? ⟨w.heap.size, 2, none⟩ = some (.slice A0 a0.length c0) := (hb5.cell (p := ⟨w.heap.size, 2, none⟩) Zp_4).trans Cp2_4
  have Zp_5 : w.heap.size < w5.heap.size := Nat.lt_of_lt_of_le Zp_4 hb5.size
  clear Cp0_4 Cp1_4 Cp2_4 Zp_4
  have h0_5 : Rd w5 w5.heap.size (.slice A0 a0.length c0) (fl a0) := h0_4.step hb5
  have O4_5 : Own w5 w3.heap.size r4 (fl L) := O4.below hb5
  have B_5 : Below w.heap.size w w5 := B_4.trans (hb5.mono B_4.size)
  clear h0_4 O4 B_4
  clear hb5
  go_wp2_with fail
  have hb6 : Below w5.heap.size w5 (w5.alloc (.cells #[(.int .i64 p0), (.int .i64 q0), (.slice (some ⟨g5, 0, none⟩) a0.length a0.length)] 50)) := (Below.refl _ _).alloc (Nat.le_refl _) _
  have Cx0_6 : (w5.alloc (.cells #[(.int .i64 p0), (.int .i64 q0), (.slice (some ⟨g5, 0, none⟩) a0.length a0.length)] 50)).cell? ⟨w5.heap.size, 0, none⟩ = some (.int .i64 p0) := (cell_of_row _ _ _ _ _ _ (heap_alloc_new w5 _)).trans rfl
  have Cx1_6 : (w5.alloc (.cells #[(.int .i64 p0), (.int .i64 q0), (.slice (some ⟨g5, 0, none⟩) a0.length a0.length)] 50)).cell? ⟨w5.heap.size, 1, none⟩ = some (.int .i64 q0) := (cell_of_row _ _ _ _ _ _ (heap_alloc_new w5 _)).trans rfl
  have Cx2_6 : (w5.alloc (.cells #[(.int .i64 p0), (.int .i64 q0), (.slice (some ⟨g5, 0, none⟩) a0.length a0.length)] 50)).cell? ⟨w5.heap.size, 2, none⟩ = some (.slice (some ⟨g5, 0, none⟩) a0.length a0.length) := (cell_of_row _ _ _ _ _ _ (heap_alloc_new w5 _)).trans rfl
  have Zx_6 : w5.heap.size < (w5.alloc (.cells #[(.int .i64 p0), (.int .i64 q0), (.slice (some ⟨g5, 0, none⟩) a0.length a0.length)] 50)).heap.size := by simp
  generalize (w5.alloc (.cells #[(.int .i64 p0), (.int .i64 q0), (.slice (some ⟨g5, 0, none⟩) a0.length a0.length)] 50)) = w6 at *
  have Cp0_6 : w6.cell? ⟨w.heap.size, 0, none⟩ = some (.int .i64 p0) := (hb6.cell (p := ⟨w.heap.size, 0, none⟩) Zp_5).trans Cp0_5
  have Cp1_6 : w6.cell? ⟨w.heap.size, 1, none⟩ = some (.int .i64 q0) := (hb6.cell (p := ⟨w.heap.size, 1, none⟩) Zp_5).trans Cp1_5
  have Cp2_6 : w6.cell? ⟨w.heap.size, 2, none⟩ = some (.slice A0 a0.length c0) := (hb6.cell (p := ⟨w.heap.size, 2, none⟩) Zp_5).trans Cp2_5
  have Zp_6 : w.heap.size < w6.heap.size := Nat.lt_of_lt_of_le Zp_5 hb6.size
  clear Cp0_5 Cp1_5 Cp2_5 Zp_5
  have h0_6 : Rd w6 w6.heap.size (.slice A0 a0.length c0) (fl a0) := h0_5.step hb6
  have O4_6 : Own w6 w3.heap.size r4 (fl L) := O4_5.below hb6
  have O5_6 : Own w6 w4.heap.size (.slice (some ⟨g5, 0, none⟩) a0.length a0.length) (fl a0) := O5.below hb6
  have B_6 : Below w.heap.size w w6 := B_5.trans (hb6.mono B_5.size)
  clear h0_5 O4_5 O5 B_5
  clear hb6
  go_wp2_with fail
  refine (HI.out _ _ hm0 O5_6.rd ).mono ?_
  rintro e w7 ⟨u7, rfl, O7, hb7⟩
  have SP7 : w.heap.size < w6.heap.size := Zp_6
  have A7x0x10 : Apart u7 (.slice A0 a0.length c0) := apart_of O7 h0_6 (Nat.le_refl _)
  have A7x0x12 : Apart u7 r4 := apart_of O7 O4_6.rd (Nat.le_refl _)
  have A7x0x14 : Apart u7 (.slice (some ⟨g5, 0, none⟩) a0.length a0.length) := apart_of O7 O5_6.rd (Nat.le_refl _)
  have S7 : w.heap.size ≤ w6.heap.size := B_6.size
  have Cp0_7 : w7.cell? ⟨w.heap.size, 0, none⟩ = some (.int .i64 p0) := (hb7.cell (p := ⟨w.heap.size, 0, none⟩) Zp_6).trans Cp0_6
  have Cp1_7 : w7.cell? ⟨w.heap.size, 1, none⟩ = some (.int .i64 q0) := (hb7.cell (p := ⟨w.heap.size, 1, none⟩) Zp_6).trans Cp1_6
  have Cp2_7 : w7.cell? ⟨w.heap.size, 2, none⟩ = some (.slice A0 a0.length c0) := (hb7.cell (p := ⟨w.heap.size, 2, none⟩) Zp_6).trans Cp2_6
  have Zp_7 : w.heap.size < w7.heap.size := Nat.lt_of_lt_of_le Zp_6 hb7.size
  have Cx0_7 : w7.cell? ⟨w5.heap.size, 0, none⟩ = some (.int .i64 p0) := (hb7.cell (p := ⟨w5.heap.size, 0, none⟩) Zx_6).trans Cx0_6
  have Cx1_7 : w7.cell? ⟨w5.heap.size, 1, none⟩ = some (.int .i64 q0) := (hb7.cell (p := ⟨w5.heap.size, 1, none⟩) Zx_6).trans Cx1_6
  have Cx2_7 : w7.cell? ⟨w5.heap.size, 2, none⟩ = some (.slice (some ⟨g5, 0, none⟩) a0.length a0.length) := (hb7.cell (p := ⟨w5.heap.size, 2, none⟩) Zx_6).trans Cx2_6
  have Zx_7 : w5.heap.size < w7.heap.size := Nat.lt_of_lt_of_le Zx_6 hb7.size
  clear Cp0_6 Cp1_6 Cp2_6 Zp_6 Cx0_6 Cx1_6 Cx2_6 Zx_6
  have h0_7 : Rd w7 w7.heap.size (.slice A0 a0.length c0) (fl a0) := h0_6.step hb7
  have O4_7 : Own w7 w3.heap.size r4 (fl L) := O4_6.below hb7
  have O5_7 : Own w7 w4.heap.size (.slice (some ⟨g5, 0, none⟩) a0.length a0.length) (fl a0) := O5_6.below hb7
  have B_7 : Below w.heap.size w w7 := B_6.trans (hb7.mono B_6.size)
  clear h0_6 O4_6 O5_6 B_6
  clear hb7
  go_wp2_with fail
  refine (eqF_any _ _ L L _ _ O7.rd O4_7.rd (Worth.refl _) hL).mono ?_
  rintro e w8 ⟨rfl, n8, hw8⟩
  have Cp0_8 : w8.cell? ⟨w.heap.size, 0, none⟩ = some (.int .i64 p0) := by subst hw8; exact Cp0_7
  have Cp1_8 : w8.cell? ⟨w.heap.size, 1, none⟩ = some (.int .i64 q0) := by subst hw8; exact Cp1_7
  have Cp2_8 : w8.cell? ⟨w.heap.size, 2, none⟩ = some (.slice A0 a0.length c0) := by subst hw8; exact Cp2_7
  have Zp_8 : w.heap.size < w8.heap.size := by subst hw8; exact Zp_7
  have Cx0_8 : w8.cell? ⟨w5.heap.size, 0, none⟩ = some (.int .i64 p0) := by subst hw8; exact Cx0_7
  have Cx1_8 : w8.cell? ⟨w5.heap.size, 1, none⟩ = some (.int .i64 q0) := by subst hw8; exact Cx1_7
  have Cx2_8 : w8.cell? ⟨w5.heap.size, 2, none⟩ = some (.slice (some ⟨g5, 0, none⟩) a0.length a0.length) := by subst hw8; exact Cx2_7
  have Zx_8 : w5.heap.size < w8.heap.size := by subst hw8; exact Zx_7
  clear Cp0_7 Cp1_7 Cp2_7 Zp_7 Cx0_7 Cx1_7 Cx2_7 Zx_7
  have h0_8 : Rd w8 w8.heap.size (.slice A0 a0.length c0) (fl a0) := by subst hw8; exact h0_7
  have O4_8 : Own w8 w3.heap.size r4 (fl L) := by subst hw8; exact O4_7
  have O5_8 : Own w8 w4.heap.size (.slice (some ⟨g5, 0, none⟩) a0.length a0.length) (fl a0) := by subst hw8; exact O5_7
  have O7_8 : Own w8 w6.heap.size u7 (fl L) := by subst hw8; exact O7
  have B_8 : Below w.heap.size w w8 := by subst hw8; exact below_drawn B_7 _
  clear h0_7 O4_7 O5_7 O7 B_7
  clear hw8
  go_wp2_with fail
  have HT := Lib.hid (fun (w' : World) (hr : Rd w' w'.heap.size (.slice A0 a0.length c0) (fl a0)) => toPic_any (.slice A0 a0.length c0) p0 q0 a0 w' hr hm0)
  go_region_held3 (fun w' => w'.cell? ⟨w.heap.size, 0, none⟩ = some (.int .i64 p0) ∧ w'.cell? ⟨w.heap.size, 1, none⟩ = some (.int .i64 q0) ∧ w'.cell? ⟨w.heap.size, 2, none⟩ = some (.slice A0 a0.length c0) ∧ w'.cell? ⟨w5.heap.size, 0, none⟩ = some (.int .i64 p0) ∧ w'.cell? ⟨w5.heap.size, 1, none⟩ = some (.int .i64 q0) ∧ w'.cell? ⟨w5.heap.size, 2, none⟩ = some (.slice (some ⟨g5, 0, none⟩) a0.length a0.length)) (first | exact ⟨Cp0_8, Cp1_8, Cp2_8, Cx0_8, Cx1_8, Cx2_8⟩ | exact ⟨Yp0_9, Yp1_9, Yp2_9, Yx0_9, Yx1_9, Yx2_9⟩ | exact ⟨Xp0_9, Xp1_9, Xp2_9, Xx0_9, Xx1_9, Xx2_9⟩) ((first | (go_at_call 36; refine (HT.out _ ?_).mono ?_; exact h0_8; rintro e w9 ⟨g9, rfl, O9, hb9⟩; replace hb9 : Below w8.heap.size w8 w9 := below_draw1 hb9; replace O9 : Own w9 w8.heap.size (.slice (some ⟨g9, 0, none⟩) a0.length a0.length) (fl a0) := O9; have Yp0_9 : w9.cell? ⟨w.heap.size, 0, none⟩ = some (.int .i64 p0) := (hb9.cell (p := ⟨w.heap.size, 0, none⟩) Zp_8).trans Cp0_8; have Yp1_9 : w9.cell? ⟨w.heap.size, 1, none⟩ = some (.int .i64 q0) := (hb9.cell (p := ⟨w.heap.size, 1, none⟩) Zp_8).trans Cp1_8; have Yp2_9 : w9.cell? ⟨w.heap.size, 2, none⟩ = some (.slice A0 a0.length c0) := (hb9.cell (p := ⟨w.heap.size, 2, none⟩) Zp_8).trans Cp2_8; have Yx0_9 : w9.cell? ⟨w5.heap.size, 0, none⟩ = some (.int .i64 p0) := (hb9.cell (p := ⟨w5.heap.size, 0, none⟩) Zx_8).trans Cx0_8; have Yx1_9 : w9.cell? ⟨w5.heap.size, 1, none⟩ = some (.int .i64 q0) := (hb9.cell (p := ⟨w5.heap.size, 1, none⟩) Zx_8).trans Cx1_8; have Yx2_9 : w9.cell? ⟨w5.heap.size, 2, none⟩ = some (.slice (some ⟨g5, 0, none⟩) a0.length a0.length) := (hb9.cell (p := ⟨w5.heap.size, 2, none⟩) Zx_8).trans Cx2_8) | (go_at_call 38; refine (eqPic_any _ _ p0 q0 a0 a0 _ ?_ ?_ (Worth.refl _) hm0).mono ?_; exact (O5_8.below hb9).rd; exact O9.rd; rintro e w10 ⟨rfl, hb10⟩; have Xp0_9 : w10.cell? ⟨w.heap.size, 0, none⟩ = some (.int .i64 p0) := (hb10.cell (p := ⟨w.heap.size, 0, none⟩) (Nat.lt_of_lt_of_le Zp_8 hb9.size)).trans Yp0_9; have Xp1_9 : w10.cell? ⟨w.heap.size, 1, none⟩ = some (.int .i64 q0) := (hb10.cell (p := ⟨w.heap.size, 1, none⟩) (Nat.lt_of_lt_of_le Zp_8 hb9.size)).trans Yp1_9; have Xp2_9 : w10.cell? ⟨w.heap.size, 2, none⟩ = some (.slice A0 a0.length c0) := (hb10.cell (p := ⟨w.heap.size, 2, none⟩) (Nat.lt_of_lt_of_le Zp_8 hb9.size)).trans Yp2_9; have Xx0_9 : w10.cell? ⟨w5.heap.size, 0, none⟩ = some (.int .i64 p0) := (hb10.cell (p := ⟨w5.heap.size, 0, none⟩) (Nat.lt_of_lt_of_le Zx_8 hb9.size)).trans Yx0_9; have Xx1_9 : w10.cell? ⟨w5.heap.size, 1, none⟩ = some (.int .i64 q0) := (hb10.cell (p := ⟨w5.heap.size, 1, none⟩) (Nat.lt_of_lt_of_le Zx_8 hb9.size)).trans Yx1_9; have Xx2_9 : w10.cell? ⟨w5.heap.size, 2, none⟩ = some (.slice (some ⟨g5, 0, none⟩) a0.length a0.length) := (hb10.cell (p := ⟨w5.heap.size, 2, none⟩) (Nat.lt_of_lt_of_le Zx_8 hb9.size)).trans Yx2_9)))
  have hc10 : Below w8.heap.size w8 w10 := hb9.trans (hb10.mono hb9.size)
  clear HT Xp0_9 Yp0_9 Xp1_9 Yp1_9 Xp2_9 Yp2_9 Xx0_9 Yx0_9 Xx1_9 Yx1_9 Xx2_9 Yx2_9 O9 hb9 hb10
  have Cp0_10 : w10.cell? ⟨w.heap.size, 0, none⟩ = some (.int .i64 p0) := (hc10.cell (p := ⟨w.heap.size, 0, none⟩) Zp_8).trans Cp0_8
  have Cp1_10 : w10.cell? ⟨w.heap.size, 1, none⟩ = some (.int .i64 q0) := (hc10.cell (p := ⟨w.heap.size, 1, none⟩) Zp_8).trans Cp1_8
  have Cp2_10 : w10.cell? ⟨w.heap.size, 2, none⟩ = some (.slice A0 a0.length c0) := (hc10.cell (p := ⟨w.heap.size, 2, none⟩) Zp_8).trans Cp2_8
  have Zp_10 : w.heap.size < w10.heap.size := Nat.lt_of_lt_of_le Zp_8 hc10.size
  have Cx0_10 : w10.cell? ⟨w5.heap.size, 0, none⟩ = some (.int .i64 p0) := (hc10.cell (p := ⟨w5.heap.size, 0, none⟩) Zx_8).trans Cx0_8
  have Cx1_10 : w10.cell? ⟨w5.heap.size, 1, none⟩ = some (.int .i64 q0) := (hc10.cell (p := ⟨w5.heap.size, 1, none⟩) Zx_8).trans Cx1_8
  have Cx2_10 : w10.cell? ⟨w5.heap.size, 2, none⟩ = some (.slice (some ⟨g5, 0, none⟩) a0.length a0.length) := (hc10.cell (p := ⟨w5.heap.size, 2, none⟩) Zx_8).trans Cx2_8
  have Zx_10 : w5.heap.size < w10.heap.size := Nat.lt_of_lt_of_le Zx_8 hc10.size
  clear Cp0_8 Cp1_8 Cp2_8 Zp_8 Cx0_8 Cx1_8 Cx2_8 Zx_8
  have h0_10 : Rd w10 w10.heap.size (.slice A0 a0.length c0) (fl a0) := h0_8.step hc10
  have O4_10 : Own w10 w3.heap.size r4 (fl L) := O4_8.below hc10
  have O5_10 : Own w10 w4.heap.size (.slice (some ⟨g5, 0, none⟩) a0.length a0.length) (fl a0) := O5_8.below hc10
  have O7_10 : Own w10 w6.heap.size u7 (fl L) := O7_8.below hc10
  have B_10 : Below w.heap.size w w10 := B_8.trans (hc10.mono B_8.size)
  clear h0_8 O4_8 O5_8 O7_8 B_8
  clear hc10
  go_wp2_with fail
  refine (markPic_any _ p0 q0 a0 _ _ _ O5_10 hm0 (by omega) (by omega)).mono ?_
  rintro e w12 ⟨rfl, w11, hb11, hw12⟩
  clear Cx0_10 Cx1_10 Cx2_10 Zx_10
  have Cp0_11 : w11.cell? ⟨w.heap.size, 0, none⟩ = some (.int .i64 p0) := (hb11.cell (p := ⟨w.heap.size, 0, none⟩) Zp_10).trans Cp0_10
  have Cp1_11 : w11.cell? ⟨w.heap.size, 1, none⟩ = some (.int .i64 q0) := (hb11.cell (p := ⟨w.heap.size, 1, none⟩) Zp_10).trans Cp1_10
  have Cp2_11 : w11.cell? ⟨w.heap.size, 2, none⟩ = some (.slice A0 a0.length c0) := (hb11.cell (p := ⟨w.heap.size, 2, none⟩) Zp_10).trans Cp2_10
  have Zp_11 : w.heap.size < w11.heap.size := Nat.lt_of_lt_of_le Zp_10 hb11.size
  clear Cp0_10 Cp1_10 Cp2_10 Zp_10
  have h0_11 : Rd w11 w11.heap.size (.slice A0 a0.length c0) (fl a0) := h0_10.step hb11
  have O4_11 : Own w11 w3.heap.size r4 (fl L) := O4_10.below hb11
  have O5_11 : Own w11 w4.heap.size (.slice (some ⟨g5, 0, none⟩) a0.length a0.length) (fl a0) := O5_10.below hb11
  have O7_11 : Own w11 w6.heap.size u7 (fl L) := O7_10.below hb11
  have B_11 : Below w.heap.size w w11 := B_10.trans (hb11.mono B_10.size)
  clear h0_10 O4_10 O5_10 O7_10 B_10
  clear hb11
  have Cp0_12 : w12.cell? ⟨w.heap.size, 0, none⟩ = some (.int .i64 p0) := by rw [hw12]; exact ((over_below O5_11 _).cell (p := ⟨w.heap.size, 0, none⟩) SP5).trans Cp0_11
  have Cp1_12 : w12.cell? ⟨w.heap.size, 1, none⟩ = some (.int .i64 q0) := by rw [hw12]; exact ((over_below O5_11 _).cell (p := ⟨w.heap.size, 1, none⟩) SP5).trans Cp1_11
  have Cp2_12 : w12.cell? ⟨w.heap.size, 2, none⟩ = some (.slice A0 a0.length c0) := by rw [hw12]; exact ((over_below O5_11 _).cell (p := ⟨w.heap.size, 2, none⟩) SP5).trans Cp2_11
  have Zp_12 : w.heap.size < w12.heap.size := by rw [hw12, over_size]; exact Zp_11
  clear Cp0_11 Cp1_11 Cp2_11 Zp_11
  have h0_12 : Rd w12 w12.heap.size (.slice A0 a0.length c0) (fl a0) := by rw [hw12, over_size]; exact over_rd O5_11 h0_11 A5x0x6 _
  have O4_12 : Own w12 w3.heap.size r4 (fl L) := by rw [hw12]; exact over_ownOther O5_11 O4_11 A5x0x8 _
  have O5_12 : Own w12 w4.heap.size (.slice (some ⟨g5, 0, none⟩) a0.length a0.length) ((List.range a0.length).map (mkF (1))) := by rw [hw12]; have := over_own O5_11 (mkF (1)); rw [fl_len] at this; exact this
  have O7_12 : Own w12 w6.heap.size u7 (fl L) := by rw [hw12]; exact over_ownOther O5_11 O7_11 A7x0x14.symm _
  have B_12 : Below w.heap.size w w12 := by rw [hw12]; exact B_11.trans ((over_below O5_11 _).mono S5)
  clear h0_11 O4_11 O5_11 O7_11 B_11
  clear hw12
  clear O5_12
  go_wp2_with fail
  refine (eqF_any _ _ L L _ _ O7_12.rd O4_12.rd (Worth.refl _) hL).mono ?_
  rintro e w13 ⟨rfl, n13, hw13⟩
  have Cp0_13 : w13.cell? ⟨w.heap.size, 0, none⟩ = some (.int .i64 p0) := by subst hw13; exact Cp0_12
  have Cp1_13 : w13.cell? ⟨w.heap.size, 1, none⟩ = some (.int .i64 q0) := by subst hw13; exact Cp1_12
  have Cp2_13 : w13.cell? ⟨w.heap.size, 2, none⟩ = some (.slice A0 a0.length c0) := by subst hw13; exact Cp2_12
  have Zp_13 : w.heap.size < w13.heap.size := by subst hw13; exact Zp_12
  clear Cp0_12 Cp1_12 Cp2_12 Zp_12
  have h0_13 : Rd w13 w13.heap.size (.slice A0 a0.length c0) (fl a0) := by subst hw13; exact h0_12
  have O4_13 : Own w13 w3.heap.size r4 (fl L) := by subst hw13; exact O4_12
  have O7_13 : Own w13 w6.heap.size u7 (fl L) := by subst hw13; exact O7_12
  have B_13 : Below w.heap.size w w13 := by subst hw13; exact below_drawn B_12 _
  clear h0_12 O4_12 O7_12 B_12
  clear hw13
  go_wp2_with fail
  refine (markF_any _ L _ _ _ O7_13 hL (by omega) (by omega)).mono ?_
  rintro e w14 ⟨rfl, hw14⟩
  have Cp0_14 : w14.cell? ⟨w.heap.size, 0, none⟩ = some (.int .i64 p0) := by rw [hw14]; exact ((over_below O7_13 _).cell (p := ⟨w.heap.size, 0, none⟩) SP7).trans Cp0_13
  have Cp1_14 : w14.cell? ⟨w.heap.size, 1, none⟩ = some (.int .i64 q0) := by rw [hw14]; exact ((over_below O7_13 _).cell (p := ⟨w.heap.size, 1, none⟩) SP7).trans Cp1_13
  have Cp2_14 : w14.cell? ⟨w.heap.size, 2, none⟩ = some (.slice A0 a0.length c0) := by rw [hw14]; exact ((over_below O7_13 _).cell (p := ⟨w.heap.size, 2, none⟩) SP7).trans Cp2_13
  have Zp_14 : w.heap.size < w14.heap.size := by rw [hw14, over_size]; exact Zp_13
  clear Cp0_13 Cp1_13 Cp2_13 Zp_13
  have h0_14 : Rd w14 w14.heap.size (.slice A0 a0.length c0) (fl a0) := by rw [hw14, over_size]; exact over_rd O7_13 h0_13 A7x0x10 _
  have O4_14 : Own w14 w3.heap.size r4 (fl L) := by rw [hw14]; exact over_ownOther O7_13 O4_13 A7x0x12 _
  have O7_14 : Own w14 w6.heap.size u7 ((List.range L.length).map (mkF (1))) := by rw [hw14]; have := over_own O7_13 (mkF (1)); rw [fl_len] at this; exact this
  have B_14 : Below w.heap.size w w14 := by rw [hw14]; exact B_13.trans ((over_below O7_13 _).mono S7)
  clear h0_13 O4_13 O7_13 B_13
  clear hw14
  go_wp2_with fail
  refine (heldF_any _ L.length _ _ _ O7_14.rd hL (by omega) (by omega)).mono ?_
  rintro e w' ⟨rfl, rfl⟩
  go_wp2_with fail
  refine (toPic_any _ p0 q0 a0 _ h0_14 hm0).mono ?_
  rintro e w15 ⟨g15, rfl, O15, hb15⟩
  have SP15 : w.heap.size < w14.heap.size := Zp_14
  have A15x0x16 : Apart (.slice (some ⟨g15, 0, none⟩) a0.length a0.length) (.slice A0 a0.length c0) := apart_of O15 h0_14 (Nat.le_refl _)
  have A15x0x18 : Apart (.slice (some ⟨g15, 0, none⟩) a0.length a0.length) r4 := apart_of O15 O4_14.rd (Nat.le_refl _)
  have A15x0x20 : Apart (.slice (some ⟨g15, 0, none⟩) a0.length a0.length) u7 := apart_of O15 O7_14.rd (Nat.le_refl _)
  have S15 : w.heap.size ≤ w14.heap.size := B_14.size
  have Cp0_15 : w15.cell? ⟨w.heap.size, 0, none⟩ = some (.int .i64 p0) := (hb15.cell (p := ⟨w.heap.size, 0, none⟩) Zp_14).trans Cp0_14
  have Cp1_15 : w15.cell? ⟨w.heap.size, 1, none⟩ = some (.int .i64 q0) := (hb15.cell (p := ⟨w.heap.size, 1, none⟩) Zp_14).trans Cp1_14
  have Cp2_15 : w15.cell? ⟨w.heap.size, 2, none⟩ = some (.slice A0 a0.length c0) := (hb15.cell (p := ⟨w.heap.size, 2, none⟩) Zp_14).trans Cp2_14
  have Zp_15 : w.heap.size < w15.heap.size := Nat.lt_of_lt_of_le Zp_14 hb15.size
  clear Cp0_14 Cp1_14 Cp2_14 Zp_14
  have h0_15 : Rd w15 w15.heap.size (.slice A0 a0.length c0) (fl a0) := h0_14.step hb15
  have O4_15 : Own w15 w3.heap.size r4 (fl L) := O4_14.below hb15
  have O7_15 : Own w15 w6.heap.size u7 ((List.range L.length).map (mkF (1))) := O7_14.below hb15
  have B_15 : Below w.heap.size w w15 := B_14.trans (hb15.mono B_14.size)
  clear h0_14 O4_14 O7_14 B_14
  clear hb15
  go_wp2_with fail
  refine (HI.out _ _ hm0 O15.rd ).mono ?_
  rintro e w16 ⟨h16, rfl, O16, hb16⟩
  have SP16 : w.heap.size < w15.heap.size := Zp_15
  have A16x0x22 : Apart h16 (.slice A0 a0.length c0) := apart_of O16 h0_15 (Nat.le_refl _)
  have A16x0x24 : Apart h16 r4 := apart_of O16 O4_15.rd (Nat.le_refl _)
  have A16x0x26 : Apart h16 u7 := apart_of O16 O7_15.rd (Nat.le_refl _)
  have A16x0x28 : Apart h16 (.slice (some ⟨g15, 0, none⟩) a0.length a0.length) := apart_of O16 O15.rd (Nat.le_refl _)
  have S16 : w.heap.size ≤ w15.heap.size := B_15.size
  have Cp0_16 : w16.cell? ⟨w.heap.size, 0, none⟩ = some (.int .i64 p0) := (hb16.cell (p := ⟨w.heap.size, 0, none⟩) Zp_15).trans Cp0_15
  have Cp1_16 : w16.cell? ⟨w.heap.size, 1, none⟩ = some (.int .i64 q0) := (hb16.cell (p := ⟨w.heap.size, 1, none⟩) Zp_15).trans Cp1_15
  have Cp2_16 : w16.cell? ⟨w.heap.size, 2, none⟩ = some (.slice A0 a0.length c0) := (hb16.cell (p := ⟨w.heap.size, 2, none⟩) Zp_15).trans Cp2_15
  have Zp_16 : w.heap.size < w16.heap.size := Nat.lt_of_lt_of_le Zp_15 hb16.size
  clear Cp0_15 Cp1_15 Cp2_15 Zp_15
  have h0_16 : Rd w16 w16.heap.size (.slice A0 a0.length c0) (fl a0) := h0_15.step hb16
  have O4_16 : Own w16 w3.heap.size r4 (fl L) := O4_15.below hb16
  have O7_16 : Own w16 w6.heap.size u7 ((List.range L.length).map (mkF (1))) := O7_15.below hb16
  have O15_16 : Own w16 w14.heap.size (.slice (some ⟨g15, 0, none⟩) a0.length a0.length) (fl a0) := O15.below hb16
  have B_16 : Below w.heap.size w w16 := B_15.trans (hb16.mono B_15.size)
  clear h0_15 O4_15 O7_15 O15 B_15
  clear hb16
  clear O15_16
  go_wp2_with fail
  refine (eqF_any _ _ L L _ _ O16.rd O4_16.rd (Worth.refl _) hL).mono ?_
  rintro e w17 ⟨rfl, n17, hw17⟩
  have Cp0_17 : w17.cell? ⟨w.heap.size, 0, none⟩ = some (.int .i64 p0) := by subst hw17; exact Cp0_16
  have Cp1_17 : w17.cell? ⟨w.heap.size, 1, none⟩ = some (.int .i64 q0) := by subst hw17; exact Cp1_16
  have Cp2_17 : w17.cell? ⟨w.heap.size, 2, none⟩ = some (.slice A0 a0.length c0) := by subst hw17; exact Cp2_16
  have Zp_17 : w.heap.size < w17.heap.size := by subst hw17; exact Zp_16
  clear Cp0_16 Cp1_16 Cp2_16 Zp_16
  have h0_17 : Rd w17 w17.heap.size (.slice A0 a0.length c0) (fl a0) := by subst hw17; exact h0_16
  have O4_17 : Own w17 w3.heap.size r4 (fl L) := by subst hw17; exact O4_16
  have O7_17 : Own w17 w6.heap.size u7 ((List.range L.length).map (mkF (1))) := by subst hw17; exact O7_16
  have O16_17 : Own w17 w15.heap.size h16 (fl L) := by subst hw17; exact O16
  have B_17 : Below w.heap.size w w17 := by subst hw17; exact below_drawn B_16 _
  clear h0_16 O4_16 O7_16 O16 B_16
  clear hw17
  go_wp2_with fail
  refine (heldF_any _ L.length _ _ _ O7_17.rd hL (by omega) (by omega)).mono ?_
  rintro e w' ⟨rfl, rfl⟩
  go_wp2_with fail
  go_ret
  exact ⟨rfl, B_17⟩
end Go.Proofs.Ytfbdmhkmkmbipaa
