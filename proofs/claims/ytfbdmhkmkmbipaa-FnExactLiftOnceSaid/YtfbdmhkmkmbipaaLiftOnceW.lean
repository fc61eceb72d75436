/-
  The walk of the law of LiftOnce.
-/
import Derived.Test.YtfbdmhkmkmbipaaRows
import Derived.ProofKit
import Derived.OpenShut
import Derived.WalkLawsBesides
import Derived.KernelRfl
import Derived.Deep.RegionHeld3
import Derived.Test.YtfbdmhkmkmbipaaLtx
import Derived.Test.YtfbdmhkmkmbipaaMkS
import Derived.Test.YtfbdmhkmkmbipaaMkF
import Derived.Test.YtfbdmhkmkmbipaaMel
namespace Go.Proofs.Ytfbdmhkmkmbipaa
open Go.RowKit Fl
set_option linter.unusedVariables false
set_option maxRecDepth 100000 in
set_option maxHeartbeats 8000000 in
theorem fnExactLiftOnce.walk (w : World) (v0 : Value) (a0 : List Nat) (s0 : Nat) (h0 : Rd w w.heap.size v0 (a0.map (.float .f32))) (w0 : ∀ x ∈ a0, x < 2 ^ 32) (z0 : s0 < 2 ^ 32) (v1 : Value) (a1 : List Nat) (h1 : Rd w w.heap.size v1 (a1.map (.float .f32))) (w1 : ∀ x ∈ a1, x < 2 ^ 32) :
    Calls Try.prog 3 #[.agg #[v0, .float .f32 s0], v1] w fun e w' => e = .returned (.bool true) ∧ Below w.heap.size w w' := by
  have hle0 := h0.le
  rw [show (a0.map (.float .f32)) = fl a0 from rfl, fl_len] at hle0
  unfold maxLen at hle0
  have hle1 := h1.le
  rw [show (a1.map (.float .f32)) = fl a1 from rfl, fl_len] at hle1
  unfold maxLen at hle1
  replace h0 : Rd w w.heap.size v0 (fl a0) := h0
  replace h1 : Rd w w.heap.size v1 (fl a1) := h1
  obtain ⟨A0, c0, hv0, q1, q2, q3⟩ := id h0
  clear q1 q2 q3
  obtain ⟨A1, c1, hv1, q1, q2, q3⟩ := id h1
  clear q1 q2 q3
  rw [fl_len] at hv0 hv1
  subst hv0 hv1
  have hsf : ∀ (a : Addr) (x : Nat) (w : World), (store a (.float .f32 x)).run Try.prog w = stored Try.prog w a (.float .f32 x) .plain := fun a x w => run_store _ w a _ _ rfl
  have HX0 := Lib.hid w0
  have HX1 := Lib.hid w1
  have hs0 := z0
  clear w0 w1 z0
  by_cases hbig1 : 1048576 < a1.length
  · go_enter Try.func3, Try.ntmps3
    go_wp2_with fail
    go_ret
    exact ⟨rfl, (Below.refl _ _).alloc (Nat.le_refl _) _⟩
  have hm1 : a1.length ≤ 1048576 := by omega
  have HL := Lib.hid (lor_len2 a0 s0 a1)
  obtain ⟨L, hLe⟩ : ∃ L, L = loEr a0 s0 a1 := ⟨_, rfl⟩
  obtain ⟨M, hMe⟩ : ∃ L, L = loOr a0 s0 a1 := ⟨_, rfl⟩
  obtain ⟨b, hbe⟩ : ∃ b, b = loB a0 s0 a1 := ⟨_, rfl⟩
  have hL : L.length ≤ 1048576 := by rw [hLe]; exact HL.out.1
  have hM : M.length ≤ 1048576 := by rw [hMe]; exact HL.out.2
  have HS := Lib.hid (fun (w' : World) (u0 u1 : Value) (hm0 : a0.length ≤ 1048576) (r0 : Rd w' w'.heap.size u0 (fl a0)) (r1 : Rd w' w'.heap.size u1 (fl a1)) => (show Calls Try.prog 16 #[.agg #[u0, .float .f32 s0], u1] w' (RetL4 L M b w') by rw [hLe, hMe, hbe]; exact (lxS_any s0 a0 a1 u0 u1 w' r0 r1 hm0 hm1 HX0.out HX1.out hs0).mono fun _ _ h => retL4 h))
  have HI := Lib.hid (fun (w' : World) (u0 u1 : Value) (hm0 : a0.length ≤ 1048576) (r0 : Rd w' w'.heap.size u0 (fl a0)) (r1 : Rd w' w'.heap.size u1 (fl a1)) => (show Calls Try.prog 19 #[.agg #[u0, .float .f32 s0], u1] w' (RetL4 L M b w') by rw [hLe, hMe, hbe]; exact (lxI_any s0 a0 a1 u0 u1 w' r0 r1 hm0 hm1 HX0.out HX1.out hs0).mono fun _ _ h => retL4 h))
  clear hLe hMe hbe HL
  go_enter Try.func3, Try.ntmps3
  have B_0 : Below w.heap.size w w := Below.refl _ _
  go_wp2_with fail
  have hb1 : Below w.heap.size w (w.alloc (.cells #[(.slice A0 a0.length c0), (.float .f32 s0)] 25)) := (Below.refl _ _).alloc (Nat.le_refl _) _
  have Cp0_1 : (w.alloc (.cells #[(.slice A0 a0.length c0), (.float .f32 s0)] 25)).cell? ⟨w.heap.size, 0, none⟩ = some (.slice A0 a0.length c0) := (cell_of_row _ _ _ _ _ _ (heap_alloc_new w _)).trans rfl
  have Cp1_1 : (w.alloc (.cells #[(.slice A0 a0.length c0), (.float .f32 s0)] 25)).cell? ⟨w.heap.size, 1, none⟩ = some (.float .f32 s0) := (cell_of_row _ _ _ _ _ _ (heap_alloc_new w _)).trans rfl
  have Zp_1 : w.heap.size < (w.alloc (.cells #[(.slice A0 a0.length c0), (.float .f32 s0)] 25)).heap.size := by simp
  generalize (w.alloc (.cells #[(.slice A0 a0.length c0), (.float .f32 s0)] 25)) = w1 at *
  have h0_1 : Rd w1 w1.heap.size (.slice A0 a0.length c0) (fl a0) := h0.step hb1
  have h1_1 : Rd w1 w1.heap.size (.slice A1 a1.length c1) (fl a1) := h1.step hb1
  have B_1 : Below w.heap.size w w1 := B_0.trans (hb1.mono B_0.size)
  clear h0 h1 B_0
  clear hb1
  refine (Sf.szSch_any _ a0 s0 1048576 _ h0_1 (by omega) (by omega) hle0).mono ?_
  rintro e w2 ⟨rfl, hb2⟩
  have Cp0_2 : w2.cell? ⟨w.heap.size, 0, none⟩ = some (.slice A0 a0.length c0) := (hb2.cell (p := ⟨w.heap.size, 0, none⟩) Zp_1).trans Cp0_1
  have Cp1_2 : w2.cell? ⟨w.heap.size, 1, none⟩ = some (.float .f32 s0) := (hb2.cell (p := ⟨w.heap.size, 1, none⟩) Zp_1).trans Cp1_1
  have Zp_2 : w.heap.size < w2.heap.size := Nat.lt_of_lt_of_le Zp_1 hb2.size
  clear Cp0_1 Cp1_1 Zp_1
  have h0_2 : Rd w2 w2.heap.size (.slice A0 a0.length c0) (fl a0) := h0_1.step hb2
  have h1_2 : Rd w2 w2.heap.size (.slice A1 a1.length c1) (fl a1) := h1_1.step hb2
  have B_2 : Below w.heap.size w w2 := B_1.trans (hb2.mono B_1.size)
  clear h0_1 h1_1 B_1
  clear hb2
  by_cases hbig0 : (1048576 : Int) < a0.length
  · rw [if_pos hbig0]
    go_wp2_with fail
    go_ret
    exact ⟨rfl, B_2⟩
  rw [if_neg hbig0]
  have hm0 : a0.length ≤ 1048576 := by omega
  have hl0 : 0 ≤ (1048576 : Int) - a0.length := by omega
  clear hbig0
  go_wp2_with fail
  refine (Sf.toSch_any _ a0 s0 _ h0_2 hm0).mono ?_
  rintro e w3 ⟨g3, rfl, O3, hb3⟩
  have SP3 : w.heap.size < w2.heap.size := Zp_2
  have A3x0x0 : Apart (.slice (some ⟨g3, 0, none⟩) a0.length a0.length) (.slice A0 a0.length c0) := apart_of O3 h0_2 (Nat.le_refl _)
  have A3x0x2 : Apart (.slice (some ⟨g3, 0, none⟩) a0.length a0.length) (.slice A1 a1.length c1) := apart_of O3 h1_2 (Nat.le_refl _)
  have S3 : w.heap.size ≤ w2.heap.size := B_2.size
  have Cp0_3 : w3.cell? ⟨w.heap.size, 0, none⟩ = some (.slice A0 a0.length c0) := (hb3.cell (p := ⟨w.heap.size, 0, none⟩) Zp_2).trans Cp0_2
  have Cp1_3 : w3.cell? ⟨w.heap.size, 1, none⟩ = some (.float .f32 s0) := (hb3.cell (p := ⟨w.heap.size, 1, none⟩) Zp_2).trans Cp1_2
  have Zp_3 : w.heap.size < w3.heap.size := Nat.lt_of_lt_of_le Zp_2 hb3.size
  clear Cp0_2 Cp1_2 Zp_2
  have h0_3 : Rd w3 w3.heap.size (.slice A0 a0.length c0) (fl a0) := h0_2.step hb3
  have h1_3 : Rd w3 w3.heap.size (.slice A1 a1.length c1) (fl a1) := h1_2.step hb3
  have B_3 : Below w.heap.size w w3 := B_2.trans (hb3.mono B_2.size)
  clear h0_2 h1_2 B_2
  clear hb3
  go_wp2_with fail
  refine (toF_any _ a1 _ _ h1_3 (Nat.le_refl _) hm1).mono ?_
  rintro e w4 ⟨g4, rfl, O4, hb4⟩
  replace O4 := Own.row O4
  have SP4 : w.heap.size < w3.heap.size := Zp_3
  have A4x0x4 : Apart (.slice (some ⟨g4, 0, none⟩) a1.length a1.length) (.slice A0 a0.length c0) := apart_of O4 h0_3 (Nat.le_refl _)
  have A4x0x6 : Apart (.slice (some ⟨g4, 0, none⟩) a1.length a1.length) (.slice A1 a1.length c1) := apart_of O4 h1_3 (Nat.le_refl _)
  have A4x0x8 : Apart (.slice (some ⟨g4, 0, none⟩) a1.length a1.length) (.slice (some ⟨g3, 0, none⟩) a0.length a0.length) := apart_of O4 O3.rd (Nat.le_refl _)
  have S4 : w.heap.size ≤ w3.heap.size := B_3.size
  have Cp0_4 : w4.cell? ⟨w.heap.size, 0, none⟩ = some (.slice A0 a0.length c0) := (hb4.cell (p := ⟨w.heap.size, 0, none⟩) Zp_3).trans Cp0_3
  have Cp1_4 : w4.cell? ⟨w.heap.size, 1, none⟩ = some (.float .f32 s0) := (hb4.cell (p := ⟨w.heap.size, 1, none⟩) Zp_3).trans Cp1_3
  have Zp_4 : w.heap.size < w4.heap.size := Nat.lt_of_lt_of_le Zp_3 hb4.size
  clear Cp0_3 Cp1_3 Zp_3
  have h0_4 : Rd w4 w4.heap.size (.slice A0 a0.length c0) (fl a0) := h0_3.step hb4
  have h1_4 : Rd w4 w4.heap.size (.slice A1 a1.length c1) (fl a1) := h1_3.step hb4
  have O3_4 : Own w4 w2.heap.size (.slice (some ⟨g3, 0, none⟩) a0.length a0.length) (fl a0) := O3.below hb4
  have B_4 : Below w.heap.size w w4 := B_3.trans (hb4.mono B_3.size)
  clear h0_3 h1_3 O3 B_3
  clear hb4
  go_wp2_with fail
  refine (HS.out _ _ _ hm0 O3_4.rd O4.rd).mono ?_
  rintro e w5 ⟨r5, q5, rfl, O5a, O5b, Q5, hb5⟩
  have SP5 : w.heap.size < w4.heap.size := Zp_4
  have A5x0x10 : Apart r5 (.slice A0 a0.length c0) := apart_of O5a h0_4 (Nat.le_refl _)
  have A5x0x12 : Apart r5 (.slice A1 a1.length c1) := apart_of O5a h1_4 (Nat.le_refl _)
  have A5x0x14 : Apart r5 (.slice (some ⟨g3, 0, none⟩) a0.length a0.length) := apart_of O5a O3_4.rd (Nat.le_refl _)
  have A5x0x16 : Apart r5 (.slice (some ⟨g4, 0, none⟩) a1.length a1.length) := apart_of O5a O4.rd (Nat.le_refl _)
  have A5x1x18 : Apart q5 (.slice A0 a0.length c0) := apart_of O5b h0_4 (Nat.le_refl _)
  have A5x1x20 : Apart q5 (.slice A1 a1.length c1) := apart_of O5b h1_4 (Nat.le_refl _)
  have A5x1x22 : Apart q5 (.slice (some ⟨g3, 0, none⟩) a0.length a0.length) := apart_of O5b O3_4.rd (Nat.le_refl _)
  have A5x1x24 : Apart q5 (.slice (some ⟨g4, 0, none⟩) a1.length a1.length) := apart_of O5b O4.rd (Nat.le_refl _)
  have S5 : w.heap.size ≤ w4.heap.size := B_4.size
  have Cp0_5 : w5.cell? ⟨w.heap.size, 0, none⟩ = some (.slice A0 a0.length c0) := (hb5.cell (p := ⟨w.heap.size, 0, none⟩) Zp_4).trans Cp0_4
  have Cp1_5 : w5.cell? ⟨w.heap.size, 1, none⟩ = some (.float .f32 s0) := (hb5.cell (p := ⟨w.heap.size, 1, none⟩) Zp_4).trans Cp1_4
  have Zp_5 : w.heap.size < w5.heap.size := Nat.lt_of_lt_of_le Zp_4 hb5.size
  clear Cp0_4 Cp1_4 Zp_4
  have h0_5 : Rd w5 w5.heap.size (.slice A0 a0.length c0) (fl a0) := h0_4.step hb5
  have h1_5 : Rd w5 w5.heap.size (.slice A1 a1.length c1) (fl a1) := h1_4.step hb5
  have O3_5 : Own w5 w2.heap.size (.slice (some ⟨g3, 0, none⟩) a0.length a0.length) (fl a0) := O3_4.below hb5
  have O4_5 : Own w5 w3.heap.size (.slice (some ⟨g4, 0, none⟩) a1.length a1.length) (fl a1) := O4.below hb5
  have B_5 : Below w.heap.size w w5 := B_4.trans (hb5.mono B_4.size)
  clear h0_4 h1_4 O3_4 O4 B_4
  clear hb5
  clear O3_5 O4_5
  go_wp2_with fail
  refine (Sf.toSch_any _ a0 s0 _ h0_5 hm0).mono ?_
  rintro e w6 ⟨g6, rfl, O6, hb6⟩
  have SP6 : w.heap.size < w5.heap.size := Zp_5
  have A6x0x28 : Apart (.slice (some ⟨g6, 0, none⟩) a0.length a0.length) (.slice A0 a0.length c0) := apart_of O6 h0_5 (Nat.le_refl _)
  have A6x0x30 : Apart (.slice (some ⟨g6, 0, none⟩) a0.length a0.length) (.slice A1 a1.length c1) := apart_of O6 h1_5 (Nat.le_refl _)
  have A6x0x32 : Apart (.slice (some ⟨g6, 0, none⟩) a0.length a0.length) r5 := apart_of O6 O5a.rd (Nat.le_refl _)
  have A6x0x34 : Apart (.slice (some ⟨g6, 0, none⟩) a0.length a0.length) q5 := apart_of O6 O5b.rd (Nat.le_refl _)
  have S6 : w.heap.size ≤ w5.heap.size := B_5.size
  have Cp0_6 : w6.cell? ⟨w.heap.size, 0, none⟩ = some (.slice A0 a0.length c0) := (hb6.cell (p := ⟨w.heap.size, 0, none⟩) Zp_5).trans Cp0_5
  have Cp1_6 : w6.cell? ⟨w.heap.size, 1, none⟩ = some (.float .f32 s0) := (hb6.cell (p := ⟨w.heap.size, 1, none⟩) Zp_5).trans Cp1_5
  have Zp_6 : w.heap.size < w6.heap.size := Nat.lt_of_lt_of_le Zp_5 hb6.size
  clear Cp0_5 Cp1_5 Zp_5
  have h0_6 : Rd w6 w6.heap.size (.slice A0 a0.length c0) (fl a0) := h0_5.step hb6
  have h1_6 : Rd w6 w6.heap.size (.slice A1 a1.length c1) (fl a1) := h1_5.step hb6
  have O5a_6 : Own w6 w4.heap.size r5 (fl L) := O5a.below hb6
  have O5b_6 : Own w6 w4.heap.size q5 (fl M) := O5b.below hb6
  have B_6 : Below w.heap.size w w6 := B_5.trans (hb6.mono B_5.size)
  clear h0_5 h1_5 O5a O5b B_5
  clear hb6
  go_wp2_with fail
  have hb7 : Below w6.heap.size w6 (w6.alloc (.cells #[(.slice (some ⟨g6, 0, none⟩) a0.length a0.length), (.float .f32 s0)] 29)) := (Below.refl _ _).alloc (Nat.le_refl _) _
  have Cx0_7 : (w6.alloc (.cells #[(.slice (some ⟨g6, 0, none⟩) a0.length a0.length), (.float .f32 s0)] 29)).cell? ⟨w6.heap.size, 0, none⟩ = some (.slice (some ⟨g6, 0, none⟩) a0.length a0.length) := (cell_of_row _ _ _ _ _ _ (heap_alloc_new w6 _)).trans rfl
  have Cx1_7 : (w6.alloc (.cells #[(.slice (some ⟨g6, 0, none⟩) a0.length a0.length), (.float .f32 s0)] 29)).cell? ⟨w6.heap.size, 1, none⟩ = some (.float .f32 s0) := (cell_of_row _ _ _ _ _ _ (heap_alloc_new w6 _)).trans rfl
  have Zx_7 : w6.heap.size < (w6.alloc (.cells #[(.slice (some ⟨g6, 0, none⟩) a0.length a0.length), (.float .f32 s0)] 29)).heap.size := by simp
  generalize (w6.alloc (.cells #[(.slice (some ⟨g6, 0, none⟩) a0.length a0.length), (.float .f32 s0)] 29)) = w7 at *
  have Cp0_7 : w7.cell? ⟨w.heap.size, 0, none⟩ = some (.slice A0 a0.length c0) := (hb7.cell (p := ⟨w.heap.size, 0, none⟩) Zp_6).trans Cp0_6
  have Cp1_7 : w7.cell? ⟨w.heap.size, 1, none⟩ = some (.float .f32 s0) := (hb7.cell (p := ⟨w.heap.size, 1, none⟩) Zp_6).trans Cp1_6
  have Zp_7 : w.heap.size < w7.heap.size := Nat.lt_of_lt_of_le Zp_6 hb7.size
  clear Cp0_6 Cp1_6 Zp_6
  have h0_7 : Rd w7 w7.heap.size (.slice A0 a0.length c0) (fl a0) := h0_6.step hb7
  have h1_7 : Rd w7 w7.heap.size (.slice A1 a1.length c1) (fl a1) := h1_6.step hb7
  have O5a_7 : Own w7 w4.heap.size r5 (fl L) := O5a_6.below hb7
  have O5b_7 : Own w7 w4.heap.size q5 (fl M) := O5b_6.below hb7
  have O6_7 : Own w7 w5.heap.size (.slice (some ⟨g6, 0, none⟩) a0.length a0.length) (fl a0) := O6.below hb7
  have B_7 : Below w.heap.size w w7 := B_6.trans (hb7.mono B_6.size)
  clear h0_6 h1_6 O5a_6 O5b_6 O6 B_6
  clear hb7
  go_wp2_with fail
  refine (toF_any _ a1 _ _ h1_7 (Nat.le_refl _) hm1).mono ?_
  rintro e w8 ⟨g8, rfl, O8, hb8⟩
  replace O8 := Own.row O8
  have SP8 : w.heap.size < w7.heap.size := Zp_7
  have A8x0x36 : Apart (.slice (some ⟨g8, 0, none⟩) a1.length a1.length) (.slice A0 a0.length c0) := apart_of O8 h0_7 (Nat.le_refl _)
  have A8x0x38 : Apart (.slice (some ⟨g8, 0, none⟩) a1.length a1.length) (.slice A1 a1.length c1) := apart_of O8 h1_7 (Nat.le_refl _)
  have A8x0x40 : Apart (.slice (some ⟨g8, 0, none⟩) a1.length a1.length) r5 := apart_of O8 O5a_7.rd (Nat.le_refl _)
  have A8x0x42 : Apart (.slice (some ⟨g8, 0, none⟩) a1.length a1.length) q5 := apart_of O8 O5b_7.rd (Nat.le_refl _)
  have A8x0x44 : Apart (.slice (some ⟨g8, 0, none⟩) a1.length a1.length) (.slice (some ⟨g6, 0, none⟩) a0.length a0.length) := apart_of O8 O6_7.rd (Nat.le_refl _)
  have S8 : w.heap.size ≤ w7.heap.size := B_7.size
  have Cp0_8 : w8.cell? ⟨w.heap.size, 0, none⟩ = some (.slice A0 a0.length c0) := (hb8.cell (p := ⟨w.heap.size, 0, none⟩) Zp_7).trans Cp0_7
  have Cp1_8 : w8.cell? ⟨w.heap.size, 1, none⟩ = some (.float .f32 s0) := (hb8.cell (p := ⟨w.heap.size, 1, none⟩) Zp_7).trans Cp1_7
  have Zp_8 : w.heap.size < w8.heap.size := Nat.lt_of_lt_of_le Zp_7 hb8.size
  have Cx0_8 : w8.cell? ⟨w6.heap.size, 0, none⟩ = some (.slice (some ⟨g6, 0, none⟩) a0.length a0.length) := (hb8.cell (p := ⟨w6.heap.size, 0, none⟩) Zx_7).trans Cx0_7
  have Cx1_8 : w8.cell? ⟨w6.heap.size, 1, none⟩ = some (.float .f32 s0) := (hb8.cell (p := ⟨w6.heap.size, 1, none⟩) Zx_7).trans Cx1_7
  have Zx_8 : w6.heap.size < w8.heap.size := Nat.lt_of_lt_of_le Zx_7 hb8.size
  clear Cp0_7 Cp1_7 Zp_7 Cx0_7 Cx1_7 Zx_7
  have h0_8 : Rd w8 w8.heap.size (.slice A0 a0.length c0) (fl a0) := h0_7.step hb8
  have h1_8 : Rd w8 w8.heap.size (.slice A1 a1.length c1) (fl a1) := h1_7.step hb8
  have O5a_8 : Own w8 w4.heap.size r5 (fl L) := O5a_7.below hb8
  have O5b_8 : Own w8 w4.heap.size q5 (fl M) := O5b_7.below hb8
  have O6_8 : Own w8 w5.heap.size (.slice (some ⟨g6, 0, none⟩) a0.length a0.length) (fl a0) := O6_7.below hb8
  have B_8 : Below w.heap.size w w8 := B_7.trans (hb8.mono B_7.size)
  clear h0_7 h1_7 O5a_7 O5b_7 O6_7 B_7
  clear hb8
  go_wp2_with fail
  refine (HI.out _ _ _ hm0 O6_8.rd O8.rd).mono ?_
  rintro e w9 ⟨u9, v9, rfl, O9a, O9b, Q9, hb9⟩
  have SP9 : w.heap.size < w8.heap.size := Zp_8
  have A9x0x46 : Apart u9 (.slice A0 a0.length c0) := apart_of O9a h0_8 (Nat.le_refl _)
  have A9x0x48 : Apart u9 (.slice A1 a1.length c1) := apart_of O9a h1_8 (Nat.le_refl _)
  have A9x0x50 : Apart u9 r5 := apart_of O9a O5a_8.rd (Nat.le_refl _)
  have A9x0x52 : Apart u9 q5 := apart_of O9a O5b_8.rd (Nat.le_refl _)
  have A9x0x54 : Apart u9 (.slice (some ⟨g6, 0, none⟩) a0.length a0.length) := apart_of O9a O6_8.rd (Nat.le_refl _)
  have A9x0x56 : Apart u9 (.slice (some ⟨g8, 0, none⟩) a1.length a1.length) := apart_of O9a O8.rd (Nat.le_refl _)
  have A9x1x58 : Apart v9 (.slice A0 a0.length c0) := apart_of O9b h0_8 (Nat.le_refl _)
  have A9x1x60 : Apart v9 (.slice A1 a1.length c1) := apart_of O9b h1_8 (Nat.le_refl _)
  have A9x1x62 : Apart v9 r5 := apart_of O9b O5a_8.rd (Nat.le_refl _)
  have A9x1x64 : Apart v9 q5 := apart_of O9b O5b_8.rd (Nat.le_refl _)
  have A9x1x66 : Apart v9 (.slice (some ⟨g6, 0, none⟩) a0.length a0.length) := apart_of O9b O6_8.rd (Nat.le_refl _)
  have A9x1x68 : Apart v9 (.slice (some ⟨g8, 0, none⟩) a1.length a1.length) := apart_of O9b O8.rd (Nat.le_refl _)
  have S9 : w.heap.size ≤ w8.heap.size := B_8.size
  have Cp0_9 : w9.cell? ⟨w.heap.size, 0, none⟩ = some (.slice A0 a0.length c0) := (hb9.cell (p := ⟨w.heap.size, 0, none⟩) Zp_8).trans Cp0_8
  have Cp1_9 : w9.cell? ⟨w.heap.size, 1, none⟩ = some (.float .f32 s0) := (hb9.cell (p := ⟨w.heap.size, 1, none⟩) Zp_8).trans Cp1_8
  have Zp_9 : w.heap.size < w9.heap.size := Nat.lt_of_lt_of_le Zp_8 hb9.size
  have Cx0_9 : w9.cell? ⟨w6.heap.size, 0, none⟩ = some (.slice (some ⟨g6, 0, none⟩) a0.length a0.length) := (hb9.cell (p := ⟨w6.heap.size, 0, none⟩) Zx_8).trans Cx0_8
  have Cx1_9 : w9.cell? ⟨w6.heap.size, 1, none⟩ = some (.float .f32 s0) := (hb9.cell (p := ⟨w6.heap.size, 1, none⟩) Zx_8).trans Cx1_8
  have Zx_9 : w6.heap.size < w9.heap.size := Nat.lt_of_lt_of_le Zx_8 hb9.size
  clear Cp0_8 Cp1_8 Zp_8 Cx0_8 Cx1_8 Zx_8
  have h0_9 : Rd w9 w9.heap.size (.slice A0 a0.length c0) (fl a0) := h0_8.step hb9
  have h1_9 : Rd w9 w9.heap.size (.slice A1 a1.length c1) (fl a1) := h1_8.step hb9
  have O5a_9 : Own w9 w4.heap.size r5 (fl L) := O5a_8.below hb9
  have O5b_9 : Own w9 w4.heap.size q5 (fl M) := O5b_8.below hb9
  have O6_9 : Own w9 w5.heap.size (.slice (some ⟨g6, 0, none⟩) a0.length a0.length) (fl a0) := O6_8.below hb9
  have O8_9 : Own w9 w7.heap.size (.slice (some ⟨g8, 0, none⟩) a1.length a1.length) (fl a1) := O8.below hb9
  have B_9 : Below w.heap.size w w9 := B_8.trans (hb9.mono B_8.size)
  clear h0_8 h1_8 O5a_8 O5b_8 O6_8 O8 B_8
  clear hb9
  go_wp2_with fail
  refine (eqF_any _ _ L L _ _ O9a.rd O5a_9.rd (Worth.refl _) hL).mono ?_
  rintro e w10 ⟨rfl, n10, hw10⟩
  have Cp0_10 : w10.cell? ⟨w.heap.size, 0, none⟩ = some (.slice A0 a0.length c0) := by subst hw10; exact Cp0_9
  have Cp1_10 : w10.cell? ⟨w.heap.size, 1, none⟩ = some (.float .f32 s0) := by subst hw10; exact Cp1_9
  have Zp_10 : w.heap.size < w10.heap.size := by subst hw10; exact Zp_9
  have Cx0_10 : w10.cell? ⟨w6.heap.size, 0, none⟩ = some (.slice (some ⟨g6, 0, none⟩) a0.length a0.length) := by subst hw10; exact Cx0_9
  have Cx1_10 : w10.cell? ⟨w6.heap.size, 1, none⟩ = some (.float .f32 s0) := by subst hw10; exact Cx1_9
  have Zx_10 : w6.heap.size < w10.heap.size := by subst hw10; exact Zx_9
  clear Cp0_9 Cp1_9 Zp_9 Cx0_9 Cx1_9 Zx_9
  have h0_10 : Rd w10 w10.heap.size (.slice A0 a0.length c0) (fl a0) := by subst hw10; exact h0_9
  have h1_10 : Rd w10 w10.heap.size (.slice A1 a1.length c1) (fl a1) := by subst hw10; exact h1_9
  have O5a_10 : Own w10 w4.heap.size r5 (fl L) := by subst hw10; exact O5a_9
  have O5b_10 : Own w10 w4.heap.size q5 (fl M) := by subst hw10; exact O5b_9
  have O6_10 : Own w10 w5.heap.size (.slice (some ⟨g6, 0, none⟩) a0.length a0.length) (fl a0) := by subst hw10; exact O6_9
  have O8_10 : Own w10 w7.heap.size (.slice (some ⟨g8, 0, none⟩) a1.length a1.length) (fl a1) := by subst hw10; exact O8_9
  have O9a_10 : Own w10 w8.heap.size u9 (fl L) := by subst hw10; exact O9a
  have O9b_10 : Own w10 w8.heap.size v9 (fl M) := by subst hw10; exact O9b
  have B_10 : Below w.heap.size w w10 := by subst hw10; exact below_drawn B_9 _
  clear h0_9 h1_9 O5a_9 O5b_9 O6_9 O8_9 O9a O9b B_9
  clear hw10
  go_wp2_with fail
  refine (eqF_any _ _ M M _ _ O9b_10.rd O5b_10.rd (Worth.refl _) hM).mono ?_
  rintro e w11 ⟨rfl, n11, hw11⟩
  have Cp0_11 : w11.cell? ⟨w.heap.size, 0, none⟩ = some (.slice A0 a0.length c0) := by subst hw11; exact Cp0_10
  have Cp1_11 : w11.cell? ⟨w.heap.size, 1, none⟩ = some (.float .f32 s0) := by subst hw11; exact Cp1_10
  have Zp_11 : w.heap.size < w11.heap.size := by subst hw11; exact Zp_10
  have Cx0_11 : w11.cell? ⟨w6.heap.size, 0, none⟩ = some (.slice (some ⟨g6, 0, none⟩) a0.length a0.length) := by subst hw11; exact Cx0_10
  have Cx1_11 : w11.cell? ⟨w6.heap.size, 1, none⟩ = some (.float .f32 s0) := by subst hw11; exact Cx1_10
  have Zx_11 : w6.heap.size < w11.heap.size := by subst hw11; exact Zx_10
  clear Cp0_10 Cp1_10 Zp_10 Cx0_10 Cx1_10 Zx_10
  have h0_11 : Rd w11 w11.heap.size (.slice A0 a0.length c0) (fl a0) := by subst hw11; exact h0_10
  have h1_11 : Rd w11 w11.heap.size (.slice A1 a1.length c1) (fl a1) := by subst hw11; exact h1_10
  have O5a_11 : Own w11 w4.heap.size r5 (fl L) := by subst hw11; exact O5a_10
  have O5b_11 : Own w11 w4.heap.size q5 (fl M) := by subst hw11; exact O5b_10
  have O6_11 : Own w11 w5.heap.size (.slice (some ⟨g6, 0, none⟩) a0.length a0.length) (fl a0) := by subst hw11; exact O6_10
  have O8_11 : Own w11 w7.heap.size (.slice (some ⟨g8, 0, none⟩) a1.length a1.length) (fl a1) := by subst hw11; exact O8_10
  have O9a_11 : Own w11 w8.heap.size u9 (fl L) := by subst hw11; exact O9a_10
  have O9b_11 : Own w11 w8.heap.size v9 (fl M) := by subst hw11; exact O9b_10
  have B_11 : Below w.heap.size w w11 := by subst hw11; exact below_drawn B_10 _
  clear h0_10 h1_10 O5a_10 O5b_10 O6_10 O8_10 O9a_10 O9b_10 B_10
  clear hw11
  go_wp2_with fail
  have HT := Lib.hid (fun (w' : World) (hr : Rd w' w'.heap.size (.slice A0 a0.length c0) (fl a0)) => Sf.toSch_any (.slice A0 a0.length c0) a0 s0 w' hr hm0)
  go_region_held3 (fun w' => w'.cell? ⟨w.heap.size, 0, none⟩ = some (.slice A0 a0.length c0) ∧ w'.cell? ⟨w.heap.size, 1, none⟩ = some (.float .f32 s0) ∧ w'.cell? ⟨w6.heap.size, 0, none⟩ = some (.slice (some ⟨g6, 0, none⟩) a0.length a0.length) ∧ w'.cell? ⟨w6.heap.size, 1, none⟩ = some (.float .f32 s0)) (first | exact ⟨Cp0_11, Cp1_11, Cx0_11, Cx1_11⟩ | exact ⟨Yp0_12, Yp1_12, Yx0_12, Yx1_12⟩ | exact ⟨Xp0_12, Xp1_12, Xx0_12, Xx1_12⟩) ((first | (go_at_call 17; refine (HT.out _ ?_).mono ?_; exact h0_11; rintro e w12 ⟨g12, rfl, O12, hb12⟩; replace hb12 : Below w11.heap.size w11 w12 := below_draw1 hb12; replace O12 : Own w12 w11.heap.size (.slice (some ⟨g12, 0, none⟩) a0.length a0.length) (fl a0) := O12; have Yp0_12 : w12.cell? ⟨w.heap.size, 0, none⟩ = some (.slice A0 a0.length c0) := (hb12.cell (p := ⟨w.heap.size, 0, none⟩) Zp_11).trans Cp0_11; have Yp1_12 : w12.cell? ⟨w.heap.size, 1, none⟩ = some (.float .f32 s0) := (hb12.cell (p := ⟨w.heap.size, 1, none⟩) Zp_11).trans Cp1_11; have Yx0_12 : w12.cell? ⟨w6.heap.size, 0, none⟩ = some (.slice (some ⟨g6, 0, none⟩) a0.length a0.length) := (hb12.cell (p := ⟨w6.heap.size, 0, none⟩) Zx_11).trans Cx0_11; have Yx1_12 : w12.cell? ⟨w6.heap.size, 1, none⟩ = some (.float .f32 s0) := (hb12.cell (p := ⟨w6.heap.size, 1, none⟩) Zx_11).trans Cx1_11) | (go_at_call 21; refine (Sf.eqSch_any _ _ a0 s0 _ ?_ ?_ hm0).mono ?_; exact (O6_11.below hb12).rd; exact O12.rd; rintro e w13 ⟨rfl, hb13⟩; have Xp0_12 : w13.cell? ⟨w.heap.size, 0, none⟩ = some (.slice A0 a0.length c0) := (hb13.cell (p := ⟨w.heap.size, 0, none⟩) (Nat.lt_of_lt_of_le Zp_11 hb12.size)).trans Yp0_12; have Xp1_12 : w13.cell? ⟨w.heap.size, 1, none⟩ = some (.float .f32 s0) := (hb13.cell (p := ⟨w.heap.size, 1, none⟩) (Nat.lt_of_lt_of_le Zp_11 hb12.size)).trans Yp1_12; have Xx0_12 : w13.cell? ⟨w6.heap.size, 0, none⟩ = some (.slice (some ⟨g6, 0, none⟩) a0.length a0.length) := (hb13.cell (p := ⟨w6.heap.size, 0, none⟩) (Nat.lt_of_lt_of_le Zx_11 hb12.size)).trans Yx0_12; have Xx1_12 : w13.cell? ⟨w6.heap.size, 1, none⟩ = some (.float .f32 s0) := (hb13.cell (p := ⟨w6.heap.size, 1, none⟩) (Nat.lt_of_lt_of_le Zx_11 hb12.size)).trans Yx1_12)))
  have hc13 : Below w11.heap.size w11 w13 := hb12.trans (hb13.mono hb12.size)
  clear HT Xp0_12 Yp0_12 Xp1_12 Yp1_12 Xx0_12 Yx0_12 Xx1_12 Yx1_12 O12 hb12 hb13
  have Cp0_13 : w13.cell? ⟨w.heap.size, 0, none⟩ = some (.slice A0 a0.length c0) := (hc13.cell (p := ⟨w.heap.size, 0, none⟩) Zp_11).trans Cp0_11
  have Cp1_13 : w13.cell? ⟨w.heap.size, 1, none⟩ = some (.float .f32 s0) := (hc13.cell (p := ⟨w.heap.size, 1, none⟩) Zp_11).trans Cp1_11
  have Zp_13 : w.heap.size < w13.heap.size := Nat.lt_of_lt_of_le Zp_11 hc13.size
  have Cx0_13 : w13.cell? ⟨w6.heap.size, 0, none⟩ = some (.slice (some ⟨g6, 0, none⟩) a0.length a0.length) := (hc13.cell (p := ⟨w6.heap.size, 0, none⟩) Zx_11).trans Cx0_11
  have Cx1_13 : w13.cell? ⟨w6.heap.size, 1, none⟩ = some (.float .f32 s0) := (hc13.cell (p := ⟨w6.heap.size, 1, none⟩) Zx_11).trans Cx1_11
  have Zx_13 : w6.heap.size < w13.heap.size := Nat.lt_of_lt_of_le Zx_11 hc13.size
  clear Cp0_11 Cp1_11 Zp_11 Cx0_11 Cx1_11 Zx_11
  have h0_13 : Rd w13 w13.heap.size (.slice A0 a0.length c0) (fl a0) := h0_11.step hc13
  have h1_13 : Rd w13 w13.heap.size (.slice A1 a1.length c1) (fl a1) := h1_11.step hc13
  have O5a_13 : Own w13 w4.heap.size r5 (fl L) := O5a_11.below hc13
  have O5b_13 : Own w13 w4.heap.size q5 (fl M) := O5b_11.below hc13
  have O6_13 : Own w13 w5.heap.size (.slice (some ⟨g6, 0, none⟩) a0.length a0.length) (fl a0) := O6_11.below hc13
  have O8_13 : Own w13 w7.heap.size (.slice (some ⟨g8, 0, none⟩) a1.length a1.length) (fl a1) := O8_11.below hc13
  have O9a_13 : Own w13 w8.heap.size u9 (fl L) := O9a_11.below hc13
  have O9b_13 : Own w13 w8.heap.size v9 (fl M) := O9b_11.below hc13
  have B_13 : Below w.heap.size w w13 := B_11.trans (hc13.mono B_11.size)
  clear h0_11 h1_11 O5a_11 O5b_11 O6_11 O8_11 O9a_11 O9b_11 B_11
  clear hc13
  go_wp2_with fail
  refine (toF_any _ a1 _ _ h1_13 (Nat.le_refl _) hm1).mono ?_
  rintro e w14 ⟨g14, rfl, O14, hb14⟩
  replace O14 := Own.row O14
  have SP14 : w.heap.size < w13.heap.size := Zp_13
  have A14x0x72 : Apart (.slice (some ⟨g14, 0, none⟩) a1.length a1.length) (.slice A0 a0.length c0) := apart_of O14 h0_13 (Nat.le_refl _)
  have A14x0x74 : Apart (.slice (some ⟨g14, 0, none⟩) a1.length a1.length) (.slice A1 a1.length c1) := apart_of O14 h1_13 (Nat.le_refl _)
  have A14x0x76 : Apart (.slice (some ⟨g14, 0, none⟩) a1.length a1.length) r5 := apart_of O14 O5a_13.rd (Nat.le_refl _)
  have A14x0x78 : Apart (.slice (some ⟨g14, 0, none⟩) a1.length a1.length) q5 := apart_of O14 O5b_13.rd (Nat.le_refl _)
  have A14x0x80 : Apart (.slice (some ⟨g14, 0, none⟩) a1.length a1.length) (.slice (some ⟨g6, 0, none⟩) a0.length a0.length) := apart_of O14 O6_13.rd (Nat.le_refl _)
  have A14x0x82 : Apart (.slice (some ⟨g14, 0, none⟩) a1.length a1.length) (.slice (some ⟨g8, 0, none⟩) a1.length a1.length) := apart_of O14 O8_13.rd (Nat.le_refl _)
  have A14x0x84 : Apart (.slice (some ⟨g14, 0, none⟩) a1.length a1.length) u9 := apart_of O14 O9a_13.rd (Nat.le_refl _)
  have A14x0x86 : Apart (.slice (some ⟨g14, 0, none⟩) a1.length a1.length) v9 := apart_of O14 O9b_13.rd (Nat.le_refl _)
  have S14 : w.heap.size ≤ w13.heap.size := B_13.size
  have Cp0_14 : w14.cell? ⟨w.heap.size, 0, none⟩ = some (.slice A0 a0.length c0) := (hb14.cell (p := ⟨w.heap.size, 0, none⟩) Zp_13).trans Cp0_13
  have Cp1_14 : w14.cell? ⟨w.heap.size, 1, none⟩ = some (.float .f32 s0) := (hb14.cell (p := ⟨w.heap.size, 1, none⟩) Zp_13).trans Cp1_13
  have Zp_14 : w.heap.size < w14.heap.size := Nat.lt_of_lt_of_le Zp_13 hb14.size
  have Cx0_14 : w14.cell? ⟨w6.heap.size, 0, none⟩ = some (.slice (some ⟨g6, 0, none⟩) a0.length a0.length) := (hb14.cell (p := ⟨w6.heap.size, 0, none⟩) Zx_13).trans Cx0_13
  have Cx1_14 : w14.cell? ⟨w6.heap.size, 1, none⟩ = some (.float .f32 s0) := (hb14.cell (p := ⟨w6.heap.size, 1, none⟩) Zx_13).trans Cx1_13
  have Zx_14 : w6.heap.size < w14.heap.size := Nat.lt_of_lt_of_le Zx_13 hb14.size
  clear Cp0_13 Cp1_13 Zp_13 Cx0_13 Cx1_13 Zx_13
  have h0_14 : Rd w14 w14.heap.size (.slice A0 a0.length c0) (fl a0) := h0_13.step hb14
  have h1_14 : Rd w14 w14.heap.size (.slice A1 a1.length c1) (fl a1) := h1_13.step hb14
  have O5a_14 : Own w14 w4.heap.size r5 (fl L) := O5a_13.below hb14
  have O5b_14 : Own w14 w4.heap.size q5 (fl M) := O5b_13.below hb14
  have O6_14 : Own w14 w5.heap.size (.slice (some ⟨g6, 0, none⟩) a0.length a0.length) (fl a0) := O6_13.below hb14
  have O8_14 : Own w14 w7.heap.size (.slice (some ⟨g8, 0, none⟩) a1.length a1.length) (fl a1) := O8_13.below hb14
  have O9a_14 : Own w14 w8.heap.size u9 (fl L) := O9a_13.below hb14
  have O9b_14 : Own w14 w8.heap.size v9 (fl M) := O9b_13.below hb14
  have B_14 : Below w.heap.size w w14 := B_13.trans (hb14.mono B_13.size)
  clear h0_13 h1_13 O5a_13 O5b_13 O6_13 O8_13 O9a_13 O9b_13 B_13
  clear hb14
  go_wp2_with fail
  refine (eqF_any _ _ a1 a1 _ _ O8_14.rd O14.rd (Worth.refl _) hm1).mono ?_
  rintro e w15 ⟨rfl, n15, hw15⟩
  have Cp0_15 : w15.cell? ⟨w.heap.size, 0, none⟩ = some (.slice A0 a0.length c0) := by subst hw15; exact Cp0_14
  have Cp1_15 : w15.cell? ⟨w.heap.size, 1, none⟩ = some (.float .f32 s0) := by subst hw15; exact Cp1_14
  have Zp_15 : w.heap.size < w15.heap.size := by subst hw15; exact Zp_14
  have Cx0_15 : w15.cell? ⟨w6.heap.size, 0, none⟩ = some (.slice (some ⟨g6, 0, none⟩) a0.length a0.length) := by subst hw15; exact Cx0_14
  have Cx1_15 : w15.cell? ⟨w6.heap.size, 1, none⟩ = some (.float .f32 s0) := by subst hw15; exact Cx1_14
  have Zx_15 : w6.heap.size < w15.heap.size := by subst hw15; exact Zx_14
  clear Cp0_14 Cp1_14 Zp_14 Cx0_14 Cx1_14 Zx_14
  have h0_15 : Rd w15 w15.heap.size (.slice A0 a0.length c0) (fl a0) := by subst hw15; exact h0_14
  have h1_15 : Rd w15 w15.heap.size (.slice A1 a1.length c1) (fl a1) := by subst hw15; exact h1_14
  have O5a_15 : Own w15 w4.heap.size r5 (fl L) := by subst hw15; exact O5a_14
  have O5b_15 : Own w15 w4.heap.size q5 (fl M) := by subst hw15; exact O5b_14
  have O6_15 : Own w15 w5.heap.size (.slice (some ⟨g6, 0, none⟩) a0.length a0.length) (fl a0) := by subst hw15; exact O6_14
  have O8_15 : Own w15 w7.heap.size (.slice (some ⟨g8, 0, none⟩) a1.length a1.length) (fl a1) := by subst hw15; exact O8_14
  have O9a_15 : Own w15 w8.heap.size u9 (fl L) := by subst hw15; exact O9a_14
  have O9b_15 : Own w15 w8.heap.size v9 (fl M) := by subst hw15; exact O9b_14
  have O14_15 : Own w15 w13.heap.size (.slice (some ⟨g14, 0, none⟩) a1.length a1.length) (fl a1) := by subst hw15; exact O14
  have B_15 : Below w.heap.size w w15 := by subst hw15; exact below_drawn B_14 _
  clear h0_14 h1_14 O5a_14 O5b_14 O6_14 O8_14 O9a_14 O9b_14 O14 B_14
  clear hw15
  clear O14_15
  go_wp2_with fail
  refine (Sf.markS_any _ a0 s0 _ _ _ O6_15 hm0 (by omega) (by omega)).mono ?_
  rintro e w17 ⟨rfl, w16, hb16, hw17⟩
  clear Cx0_15 Cx1_15 Zx_15
  have Cp0_16 : w16.cell? ⟨w.heap.size, 0, none⟩ = some (.slice A0 a0.length c0) := (hb16.cell (p := ⟨w.heap.size, 0, none⟩) Zp_15).trans Cp0_15
  have Cp1_16 : w16.cell? ⟨w.heap.size, 1, none⟩ = some (.float .f32 s0) := (hb16.cell (p := ⟨w.heap.size, 1, none⟩) Zp_15).trans Cp1_15
  have Zp_16 : w.heap.size < w16.heap.size := Nat.lt_of_lt_of_le Zp_15 hb16.size
  clear Cp0_15 Cp1_15 Zp_15
  have h0_16 : Rd w16 w16.heap.size (.slice A0 a0.length c0) (fl a0) := h0_15.step hb16
  have h1_16 : Rd w16 w16.heap.size (.slice A1 a1.length c1) (fl a1) := h1_15.step hb16
  have O5a_16 : Own w16 w4.heap.size r5 (fl L) := O5a_15.below hb16
  have O5b_16 : Own w16 w4.heap.size q5 (fl M) := O5b_15.below hb16
  have O6_16 : Own w16 w5.heap.size (.slice (some ⟨g6, 0, none⟩) a0.length a0.length) (fl a0) := O6_15.below hb16
  have O8_16 : Own w16 w7.heap.size (.slice (some ⟨g8, 0, none⟩) a1.length a1.length) (fl a1) := O8_15.below hb16
  have O9a_16 : Own w16 w8.heap.size u9 (fl L) := O9a_15.below hb16
  have O9b_16 : Own w16 w8.heap.size v9 (fl M) := O9b_15.below hb16
  have B_16 : Below w.heap.size w w16 := B_15.trans (hb16.mono B_15.size)
  clear h0_15 h1_15 O5a_15 O5b_15 O6_15 O8_15 O9a_15 O9b_15 B_15
  clear hb16
  have Cp0_17 : w17.cell? ⟨w.heap.size, 0, none⟩ = some (.slice A0 a0.length c0) := by rw [hw17]; exact ((over_below O6_16 _).cell (p := ⟨w.heap.size, 0, none⟩) SP6).trans Cp0_16
  have Cp1_17 : w17.cell? ⟨w.heap.size, 1, none⟩ = some (.float .f32 s0) := by rw [hw17]; exact ((over_below O6_16 _).cell (p := ⟨w.heap.size, 1, none⟩) SP6).trans Cp1_16
  have Zp_17 : w.heap.size < w17.heap.size := by rw [hw17, over_size]; exact Zp_16
  clear Cp0_16 Cp1_16 Zp_16
  have h0_17 : Rd w17 w17.heap.size (.slice A0 a0.length c0) (fl a0) := by rw [hw17, over_size]; exact over_rd O6_16 h0_16 A6x0x28 _
  have h1_17 : Rd w17 w17.heap.size (.slice A1 a1.length c1) (fl a1) := by rw [hw17, over_size]; exact over_rd O6_16 h1_16 A6x0x30 _
  have O5a_17 : Own w17 w4.heap.size r5 (fl L) := by rw [hw17]; exact over_ownOther O6_16 O5a_16 A6x0x32 _
  have O5b_17 : Own w17 w4.heap.size q5 (fl M) := by rw [hw17]; exact over_ownOther O6_16 O5b_16 A6x0x34 _
  have O6_17 : Own w17 w5.heap.size (.slice (some ⟨g6, 0, none⟩) a0.length a0.length) ((List.range a0.length).map (mkF (1))) := by rw [hw17]; have := over_own O6_16 (mkF (1)); rw [fl_len] at this; exact this
  have O8_17 : Own w17 w7.heap.size (.slice (some ⟨g8, 0, none⟩) a1.length a1.length) (fl a1) := by rw [hw17]; exact over_ownOther O6_16 O8_16 A8x0x44.symm _
  have O9a_17 : Own w17 w8.heap.size u9 (fl L) := by rw [hw17]; exact over_ownOther O6_16 O9a_16 A9x0x54.symm _
  have O9b_17 : Own w17 w8.heap.size v9 (fl M) := by rw [hw17]; exact over_ownOther O6_16 O9b_16 A9x1x66.symm _
  have B_17 : Below w.heap.size w w17 := by rw [hw17]; exact B_16.trans ((over_below O6_16 _).mono S6)
  clear h0_16 h1_16 O5a_16 O5b_16 O6_16 O8_16 O9a_16 O9b_16 B_16
  clear hw17
  go_wp2_with fail
  refine (markF_any _ a1 _ _ _ O8_17 hm1 (by omega) (by omega)).mono ?_
  rintro e w18 ⟨rfl, hw18⟩
  have Cp0_18 : w18.cell? ⟨w.heap.size, 0, none⟩ = some (.slice A0 a0.length c0) := by rw [hw18]; exact ((over_below O8_17 _).cell (p := ⟨w.heap.size, 0, none⟩) SP8).trans Cp0_17
  have Cp1_18 : w18.cell? ⟨w.heap.size, 1, none⟩ = some (.float .f32 s0) := by rw [hw18]; exact ((over_below O8_17 _).cell (p := ⟨w.heap.size, 1, none⟩) SP8).trans Cp1_17
  have Zp_18 : w.heap.size < w18.heap.size := by rw [hw18, over_size]; exact Zp_17
  clear Cp0_17 Cp1_17 Zp_17
  have h0_18 : Rd w18 w18.heap.size (.slice A0 a0.length c0) (fl a0) := by rw [hw18, over_size]; exact over_rd O8_17 h0_17 A8x0x36 _
  have h1_18 : Rd w18 w18.heap.size (.slice A1 a1.length c1) (fl a1) := by rw [hw18, over_size]; exact over_rd O8_17 h1_17 A8x0x38 _
  have O5a_18 : Own w18 w4.heap.size r5 (fl L) := by rw [hw18]; exact over_ownOther O8_17 O5a_17 A8x0x40 _
  have O5b_18 : Own w18 w4.heap.size q5 (fl M) := by rw [hw18]; exact over_ownOther O8_17 O5b_17 A8x0x42 _
  have O6_18 : Own w18 w5.heap.size (.slice (some ⟨g6, 0, none⟩) a0.length a0.length) ((List.range a0.length).map (mkF (1))) := by rw [hw18]; exact over_ownOther O8_17 O6_17 A8x0x44 _
  have O8_18 : Own w18 w7.heap.size (.slice (some ⟨g8, 0, none⟩) a1.length a1.length) ((List.range a1.length).map (mkF (1 + a0.length))) := by rw [hw18]; have := over_own O8_17 (mkF (1 + a0.length)); rw [fl_len] at this; exact this
  have O9a_18 : Own w18 w8.heap.size u9 (fl L) := by rw [hw18]; exact over_ownOther O8_17 O9a_17 A9x0x56.symm _
  have O9b_18 : Own w18 w8.heap.size v9 (fl M) := by rw [hw18]; exact over_ownOther O8_17 O9b_17 A9x1x68.symm _
  have B_18 : Below w.heap.size w w18 := by rw [hw18]; exact B_17.trans ((over_below O8_17 _).mono S8)
  clear h0_17 h1_17 O5a_17 O5b_17 O6_17 O8_17 O9a_17 O9b_17 B_17
  clear hw18
  clear O6_18 O8_18
  go_wp2_with fail
  refine (eqF_any _ _ L L _ _ O9a_18.rd O5a_18.rd (Worth.refl _) hL).mono ?_
  rintro e w19 ⟨rfl, n19, hw19⟩
  have Cp0_19 : w19.cell? ⟨w.heap.size, 0, none⟩ = some (.slice A0 a0.length c0) := by subst hw19; exact Cp0_18
  have Cp1_19 : w19.cell? ⟨w.heap.size, 1, none⟩ = some (.float .f32 s0) := by subst hw19; exact Cp1_18
  have Zp_19 : w.heap.size < w19.heap.size := by subst hw19; exact Zp_18
  clear Cp0_18 Cp1_18 Zp_18
  have h0_19 : Rd w19 w19.heap.size (.slice A0 a0.length c0) (fl a0) := by subst hw19; exact h0_18
  have h1_19 : Rd w19 w19.heap.size (.slice A1 a1.length c1) (fl a1) := by subst hw19; exact h1_18
  have O5a_19 : Own w19 w4.heap.size r5 (fl L) := by subst hw19; exact O5a_18
  have O5b_19 : Own w19 w4.heap.size q5 (fl M) := by subst hw19; exact O5b_18
  have O9a_19 : Own w19 w8.heap.size u9 (fl L) := by subst hw19; exact O9a_18
  have O9b_19 : Own w19 w8.heap.size v9 (fl M) := by subst hw19; exact O9b_18
  have B_19 : Below w.heap.size w w19 := by subst hw19; exact below_drawn B_18 _
  clear h0_18 h1_18 O5a_18 O5b_18 O9a_18 O9b_18 B_18
  clear hw19
  go_wp2_with fail
  refine (eqF_any _ _ M M _ _ O9b_19.rd O5b_19.rd (Worth.refl _) hM).mono ?_
  rintro e w20 ⟨rfl, n20, hw20⟩
  have Cp0_20 : w20.cell? ⟨w.heap.size, 0, none⟩ = some (.slice A0 a0.length c0) := by subst hw20; exact Cp0_19
  have Cp1_20 : w20.cell? ⟨w.heap.size, 1, none⟩ = some (.float .f32 s0) := by subst hw20; exact Cp1_19
  have Zp_20 : w.heap.size < w20.heap.size := by subst hw20; exact Zp_19
  clear Cp0_19 Cp1_19 Zp_19
  have h0_20 : Rd w20 w20.heap.size (.slice A0 a0.length c0) (fl a0) := by subst hw20; exact h0_19
  have h1_20 : Rd w20 w20.heap.size (.slice A1 a1.length c1) (fl a1) := by subst hw20; exact h1_19
  have O5a_20 : Own w20 w4.heap.size r5 (fl L) := by subst hw20; exact O5a_19
  have O5b_20 : Own w20 w4.heap.size q5 (fl M) := by subst hw20; exact O5b_19
  have O9a_20 : Own w20 w8.heap.size u9 (fl L) := by subst hw20; exact O9a_19
  have O9b_20 : Own w20 w8.heap.size v9 (fl M) := by subst hw20; exact O9b_19
  have B_20 : Below w.heap.size w w20 := by subst hw20; exact below_drawn B_19 _
  clear h0_19 h1_19 O5a_19 O5b_19 O9a_19 O9b_19 B_19
  clear hw20
  go_wp2_with fail
  refine (markF_any _ L _ _ _ O9a_20 hL (by omega) (by omega)).mono ?_
  rintro e w21 ⟨rfl, hw21⟩
  have Cp0_21 : w21.cell? ⟨w.heap.size, 0, none⟩ = some (.slice A0 a0.length c0) := by rw [hw21]; exact ((over_below O9a_20 _).cell (p := ⟨w.heap.size, 0, none⟩) SP9).trans Cp0_20
  have Cp1_21 : w21.cell? ⟨w.heap.size, 1, none⟩ = some (.float .f32 s0) := by rw [hw21]; exact ((over_below O9a_20 _).cell (p := ⟨w.heap.size, 1, none⟩) SP9).trans Cp1_20
  have Zp_21 : w.heap.size < w21.heap.size := by rw [hw21, over_size]; exact Zp_20
  clear Cp0_20 Cp1_20 Zp_20
  have h0_21 : Rd w21 w21.heap.size (.slice A0 a0.length c0) (fl a0) := by rw [hw21, over_size]; exact over_rd O9a_20 h0_20 A9x0x46 _
  have h1_21 : Rd w21 w21.heap.size (.slice A1 a1.length c1) (fl a1) := by rw [hw21, over_size]; exact over_rd O9a_20 h1_20 A9x0x48 _
  have O5a_21 : Own w21 w4.heap.size r5 (fl L) := by rw [hw21]; exact over_ownOther O9a_20 O5a_20 A9x0x50 _
  have O5b_21 : Own w21 w4.heap.size q5 (fl M) := by rw [hw21]; exact over_ownOther O9a_20 O5b_20 A9x0x52 _
  have O9a_21 : Own w21 w8.heap.size u9 ((List.range L.length).map (mkF (1))) := by rw [hw21]; have := over_own O9a_20 (mkF (1)); rw [fl_len] at this; exact this
  have O9b_21 : Own w21 w8.heap.size v9 (fl M) := by rw [hw21]; exact over_ownOther O9a_20 O9b_20 Q9.symm _
  have B_21 : Below w.heap.size w w21 := by rw [hw21]; exact B_20.trans ((over_below O9a_20 _).mono S9)
  clear h0_20 h1_20 O5a_20 O5b_20 O9a_20 O9b_20 B_20
  clear hw21
  go_wp2_with fail
  refine (markF_any _ M _ _ _ O9b_21 hM (by omega) (by omega)).mono ?_
  rintro e w22 ⟨rfl, hw22⟩
  have Cp0_22 : w22.cell? ⟨w.heap.size, 0, none⟩ = some (.slice A0 a0.length c0) := by rw [hw22]; exact ((over_below O9b_21 _).cell (p := ⟨w.heap.size, 0, none⟩) SP9).trans Cp0_21
  have Cp1_22 : w22.cell? ⟨w.heap.size, 1, none⟩ = some (.float .f32 s0) := by rw [hw22]; exact ((over_below O9b_21 _).cell (p := ⟨w.heap.size, 1, none⟩) SP9).trans Cp1_21
  have Zp_22 : w.heap.size < w22.heap.size := by rw [hw22, over_size]; exact Zp_21
  clear Cp0_21 Cp1_21 Zp_21
  have h0_22 : Rd w22 w22.heap.size (.slice A0 a0.length c0) (fl a0) := by rw [hw22, over_size]; exact over_rd O9b_21 h0_21 A9x1x58 _
  have h1_22 : Rd w22 w22.heap.size (.slice A1 a1.length c1) (fl a1) := by rw [hw22, over_size]; exact over_rd O9b_21 h1_21 A9x1x60 _
  have O5a_22 : Own w22 w4.heap.size r5 (fl L) := by rw [hw22]; exact over_ownOther O9b_21 O5a_21 A9x1x62 _
  have O5b_22 : Own w22 w4.heap.size q5 (fl M) := by rw [hw22]; exact over_ownOther O9b_21 O5b_21 A9x1x64 _
  have O9a_22 : Own w22 w8.heap.size u9 ((List.range L.length).map (mkF (1))) := by rw [hw22]; exact over_ownOther O9b_21 O9a_21 Q9 _
  have O9b_22 : Own w22 w8.heap.size v9 ((List.range M.length).map (mkF (1 + L.length))) := by rw [hw22]; have := over_own O9b_21 (mkF (1 + L.length)); rw [fl_len] at this; exact this
  have B_22 : Below w.heap.size w w22 := by rw [hw22]; exact B_21.trans ((over_below O9b_21 _).mono S9)
  clear h0_21 h1_21 O5a_21 O5b_21 O9a_21 O9b_21 B_21
  clear hw22
  go_wp2_with fail
  refine (heldF_any _ L.length _ _ _ O9a_22.rd hL (by omega) (by omega)).mono ?_
  rintro e w' ⟨rfl, rfl⟩
  go_wp2_with fail
  refine (heldF_any _ M.length _ _ _ O9b_22.rd hM (by omega) (by omega)).mono ?_
  rintro e w' ⟨rfl, rfl⟩
  go_wp2_with fail
  refine (Sf.toSch_any _ a0 s0 _ h0_22 hm0).mono ?_
  rintro e w23 ⟨g23, rfl, O23, hb23⟩
  have SP23 : w.heap.size < w22.heap.size := Zp_22
  have A23x0x88 : Apart (.slice (some ⟨g23, 0, none⟩) a0.length a0.length) (.slice A0 a0.length c0) := apart_of O23 h0_22 (Nat.le_refl _)
  have A23x0x90 : Apart (.slice (some ⟨g23, 0, none⟩) a0.length a0.length) (.slice A1 a1.length c1) := apart_of O23 h1_22 (Nat.le_refl _)
  have A23x0x92 : Apart (.slice (some ⟨g23, 0, none⟩) a0.length a0.length) r5 := apart_of O23 O5a_22.rd (Nat.le_refl _)
  have A23x0x94 : Apart (.slice (some ⟨g23, 0, none⟩) a0.length a0.length) q5 := apart_of O23 O5b_22.rd (Nat.le_refl _)
  have A23x0x96 : Apart (.slice (some ⟨g23, 0, none⟩) a0.length a0.length) u9 := apart_of O23 O9a_22.rd (Nat.le_refl _)
  have A23x0x98 : Apart (.slice (some ⟨g23, 0, none⟩) a0.length a0.length) v9 := apart_of O23 O9b_22.rd (Nat.le_refl _)
  have S23 : w.heap.size ≤ w22.heap.size := B_22.size
  have Cp0_23 : w23.cell? ⟨w.heap.size, 0, none⟩ = some (.slice A0 a0.length c0) := (hb23.cell (p := ⟨w.heap.size, 0, none⟩) Zp_22).trans Cp0_22
  have Cp1_23 : w23.cell? ⟨w.heap.size, 1, none⟩ = some (.float .f32 s0) := (hb23.cell (p := ⟨w.heap.size, 1, none⟩) Zp_22).trans Cp1_22
  have Zp_23 : w.heap.size < w23.heap.size := Nat.lt_of_lt_of_le Zp_22 hb23.size
  clear Cp0_22 Cp1_22 Zp_22
  have h0_23 : Rd w23 w23.heap.size (.slice A0 a0.length c0) (fl a0) := h0_22.step hb23
  have h1_23 : Rd w23 w23.heap.size (.slice A1 a1.length c1) (fl a1) := h1_22.step hb23
  have O5a_23 : Own w23 w4.heap.size r5 (fl L) := O5a_22.below hb23
  have O5b_23 : Own w23 w4.heap.size q5 (fl M) := O5b_22.below hb23
  have O9a_23 : Own w23 w8.heap.size u9 ((List.range L.length).map (mkF (1))) := O9a_22.below hb23
  have O9b_23 : Own w23 w8.heap.size v9 ((List.range M.length).map (mkF (1 + L.length))) := O9b_22.below hb23
  have B_23 : Below w.heap.size w w23 := B_22.trans (hb23.mono B_22.size)
  clear h0_22 h1_22 O5a_22 O5b_22 O9a_22 O9b_22 B_22
  clear hb23
  go_wp2_with fail
  refine (toF_any _ a1 _ _ h1_23 (Nat.le_refl _) hm1).mono ?_
  rintro e w24 ⟨g24, rfl, O24, hb24⟩
  replace O24 := Own.row O24
  have SP24 : w.heap.size < w23.heap.size := Zp_23
  have A24x0x100 : Apart (.slice (some ⟨g24, 0, none⟩) a1.length a1.length) (.slice A0 a0.length c0) := apart_of O24 h0_23 (Nat.le_refl _)
  have A24x0x102 : Apart (.slice (some ⟨g24, 0, none⟩) a1.length a1.length) (.slice A1 a1.length c1) := apart_of O24 h1_23 (Nat.le_refl _)
  have A24x0x104 : Apart (.slice (some ⟨g24, 0, none⟩) a1.length a1.length) r5 := apart_of O24 O5a_23.rd (Nat.le_refl _)
  have A24x0x106 : Apart (.slice (some ⟨g24, 0, none⟩) a1.length a1.length) q5 := apart_of O24 O5b_23.rd (Nat.le_refl _)
  have A24x0x108 : Apart (.slice (some ⟨g24, 0, none⟩) a1.length a1.length) u9 := apart_of O24 O9a_23.rd (Nat.le_refl _)
  have A24x0x110 : Apart (.slice (some ⟨g24, 0, none⟩) a1.length a1.length) v9 := apart_of O24 O9b_23.rd (Nat.le_refl _)
  have A24x0x112 : Apart (.slice (some ⟨g24, 0, none⟩) a1.length a1.length) (.slice (some ⟨g23, 0, none⟩) a0.length a0.length) := apart_of O24 O23.rd (Nat.le_refl _)
  have S24 : w.heap.size ≤ w23.heap.size := B_23.size
  have Cp0_24 : w24.cell? ⟨w.heap.size, 0, none⟩ = some (.slice A0 a0.length c0) := (hb24.cell (p := ⟨w.heap.size, 0, none⟩) Zp_23).trans Cp0_23
  have Cp1_24 : w24.cell? ⟨w.heap.size, 1, none⟩ = some (.float .f32 s0) := (hb24.cell (p := ⟨w.heap.size, 1, none⟩) Zp_23).trans Cp1_23
  have Zp_24 : w.heap.size < w24.heap.size := Nat.lt_of_lt_of_le Zp_23 hb24.size
  clear Cp0_23 Cp1_23 Zp_23
  have h0_24 : Rd w24 w24.heap.size (.slice A0 a0.length c0) (fl a0) := h0_23.step hb24
  have h1_24 : Rd w24 w24.heap.size (.slice A1 a1.length c1) (fl a1) := h1_23.step hb24
  have O5a_24 : Own w24 w4.heap.size r5 (fl L) := O5a_23.below hb24
  have O5b_24 : Own w24 w4.heap.size q5 (fl M) := O5b_23.below hb24
  have O9a_24 : Own w24 w8.heap.size u9 ((List.range L.length).map (mkF (1))) := O9a_23.below hb24
  have O9b_24 : Own w24 w8.heap.size v9 ((List.range M.length).map (mkF (1 + L.length))) := O9b_23.below hb24
  have O23_24 : Own w24 w22.heap.size (.slice (some ⟨g23, 0, none⟩) a0.length a0.length) (fl a0) := O23.below hb24
  have B_24 : Below w.heap.size w w24 := B_23.trans (hb24.mono B_23.size)
  clear h0_23 h1_23 O5a_23 O5b_23 O9a_23 O9b_23 O23 B_23
  clear hb24
  go_wp2_with fail
  refine (HI.out _ _ _ hm0 O23_24.rd O24.rd).mono ?_
  rintro e w25 ⟨h25, y25, rfl, O25a, O25b, Q25, hb25⟩
  have SP25 : w.heap.size < w24.heap.size := Zp_24
  have A25x0x114 : Apart h25 (.slice A0 a0.length c0) := apart_of O25a h0_24 (Nat.le_refl _)
  have A25x0x116 : Apart h25 (.slice A1 a1.length c1) := apart_of O25a h1_24 (Nat.le_refl _)
  have A25x0x118 : Apart h25 r5 := apart_of O25a O5a_24.rd (Nat.le_refl _)
  have A25x0x120 : Apart h25 q5 := apart_of O25a O5b_24.rd (Nat.le_refl _)
  have A25x0x122 : Apart h25 u9 := apart_of O25a O9a_24.rd (Nat.le_refl _)
  have A25x0x124 : Apart h25 v9 := apart_of O25a O9b_24.rd (Nat.le_refl _)
  have A25x0x126 : Apart h25 (.slice (some ⟨g23, 0, none⟩) a0.length a0.length) := apart_of O25a O23_24.rd (Nat.le_refl _)
  have A25x0x128 : Apart h25 (.slice (some ⟨g24, 0, none⟩) a1.length a1.length) := apart_of O25a O24.rd (Nat.le_refl _)
  have A25x1x130 : Apart y25 (.slice A0 a0.length c0) := apart_of O25b h0_24 (Nat.le_refl _)
  have A25x1x132 : Apart y25 (.slice A1 a1.length c1) := apart_of O25b h1_24 (Nat.le_refl _)
  have A25x1x134 : Apart y25 r5 := apart_of O25b O5a_24.rd (Nat.le_refl _)
  have A25x1x136 : Apart y25 q5 := apart_of O25b O5b_24.rd (Nat.le_refl _)
  have A25x1x138 : Apart y25 u9 := apart_of O25b O9a_24.rd (Nat.le_refl _)
  have A25x1x140 : Apart y25 v9 := apart_of O25b O9b_24.rd (Nat.le_refl _)
  have A25x1x142 : Apart y25 (.slice (some ⟨g23, 0, none⟩) a0.length a0.length) := apart_of O25b O23_24.rd (Nat.le_refl _)
  have A25x1x144 : Apart y25 (.slice (some ⟨g24, 0, none⟩) a1.length a1.length) := apart_of O25b O24.rd (Nat.le_refl _)
  have S25 : w.heap.size ≤ w24.heap.size := B_24.size
  have Cp0_25 : w25.cell? ⟨w.heap.size, 0, none⟩ = some (.slice A0 a0.length c0) := (hb25.cell (p := ⟨w.heap.size, 0, none⟩) Zp_24).trans Cp0_24
  have Cp1_25 : w25.cell? ⟨w.heap.size, 1, none⟩ = some (.float .f32 s0) := (hb25.cell (p := ⟨w.heap.size, 1, none⟩) Zp_24).trans Cp1_24
  have Zp_25 : w.heap.size < w25.heap.size := Nat.lt_of_lt_of_le Zp_24 hb25.size
  clear Cp0_24 Cp1_24 Zp_24
  have h0_25 : Rd w25 w25.heap.size (.slice A0 a0.length c0) (fl a0) := h0_24.step hb25
  have h1_25 : Rd w25 w25.heap.size (.slice A1 a1.length c1) (fl a1) := h1_24.step hb25
  have O5a_25 : Own w25 w4.heap.size r5 (fl L) := O5a_24.below hb25
  have O5b_25 : Own w25 w4.heap.size q5 (fl M) := O5b_24.below hb25
  have O9a_25 : Own w25 w8.heap.size u9 ((List.range L.length).map (mkF (1))) := O9a_24.below hb25
  have O9b_25 : Own w25 w8.heap.size v9 ((List.range M.length).map (mkF (1 + L.length))) := O9b_24.below hb25
  have O23_25 : Own w25 w22.heap.size (.slice (some ⟨g23, 0, none⟩) a0.length a0.length) (fl a0) := O23_24.below hb25
  have O24_25 : Own w25 w23.heap.size (.slice (some ⟨g24, 0, none⟩) a1.length a1.length) (fl a1) := O24.below hb25
  have B_25 : Below w.heap.size w w25 := B_24.trans (hb25.mono B_24.size)
  clear h0_24 h1_24 O5a_24 O5b_24 O9a_24 O9b_24 O23_24 O24 B_24
  clear hb25
  clear O23_25 O24_25
  go_wp2_with fail
  refine (eqF_any _ _ L L _ _ O25a.rd O5a_25.rd (Worth.refl _) hL).mono ?_
  rintro e w26 ⟨rfl, n26, hw26⟩
  have Cp0_26 : w26.cell? ⟨w.heap.size, 0, none⟩ = some (.slice A0 a0.length c0) := by subst hw26; exact Cp0_25
  have Cp1_26 : w26.cell? ⟨w.heap.size, 1, none⟩ = some (.float .f32 s0) := by subst hw26; exact Cp1_25
  have Zp_26 : w.heap.size < w26.heap.size := by subst hw26; exact Zp_25
  clear Cp0_25 Cp1_25 Zp_25
  have h0_26 : Rd w26 w26.heap.size (.slice A0 a0.length c0) (fl a0) := by subst hw26; exact h0_25
  have h1_26 : Rd w26 w26.heap.size (.slice A1 a1.length c1) (fl a1) := by subst hw26; exact h1_25
  have O5a_26 : Own w26 w4.heap.size r5 (fl L) := by subst hw26; exact O5a_25
  have O5b_26 : Own w26 w4.heap.size q5 (fl M) := by subst hw26; exact O5b_25
  have O9a_26 : Own w26 w8.heap.size u9 ((List.range L.length).map (mkF (1))) := by subst hw26; exact O9a_25
  have O9b_26 : Own w26 w8.heap.size v9 ((List.range M.length).map (mkF (1 + L.length))) := by subst hw26; exact O9b_25
  have O25a_26 : Own w26 w24.heap.size h25 (fl L) := by subst hw26; exact O25a
  have O25b_26 : Own w26 w24.heap.size y25 (fl M) := by subst hw26; exact O25b
  have B_26 : Below w.heap.size w w26 := by subst hw26; exact below_drawn B_25 _
  clear h0_25 h1_25 O5a_25 O5b_25 O9a_25 O9b_25 O25a O25b B_25
  clear hw26
  go_wp2_with fail
  refine (eqF_any _ _ M M _ _ O25b_26.rd O5b_26.rd (Worth.refl _) hM).mono ?_
  rintro e w27 ⟨rfl, n27, hw27⟩
  have Cp0_27 : w27.cell? ⟨w.heap.size, 0, none⟩ = some (.slice A0 a0.length c0) := by subst hw27; exact Cp0_26
  have Cp1_27 : w27.cell? ⟨w.heap.size, 1, none⟩ = some (.float .f32 s0) := by subst hw27; exact Cp1_26
  have Zp_27 : w.heap.size < w27.heap.size := by subst hw27; exact Zp_26
  clear Cp0_26 Cp1_26 Zp_26
  have h0_27 : Rd w27 w27.heap.size (.slice A0 a0.length c0) (fl a0) := by subst hw27; exact h0_26
  have h1_27 : Rd w27 w27.heap.size (.slice A1 a1.length c1) (fl a1) := by subst hw27; exact h1_26
  have O5a_27 : Own w27 w4.heap.size r5 (fl L) := by subst hw27; exact O5a_26
  have O5b_27 : Own w27 w4.heap.size q5 (fl M) := by subst hw27; exact O5b_26
  have O9a_27 : Own w27 w8.heap.size u9 ((List.range L.length).map (mkF (1))) := by subst hw27; exact O9a_26
  have O9b_27 : Own w27 w8.heap.size v9 ((List.range M.length).map (mkF (1 + L.length))) := by subst hw27; exact O9b_26
  have O25a_27 : Own w27 w24.heap.size h25 (fl L) := by subst hw27; exact O25a_26
  have O25b_27 : Own w27 w24.heap.size y25 (fl M) := by subst hw27; exact O25b_26
  have B_27 : Below w.heap.size w w27 := by subst hw27; exact below_drawn B_26 _
  clear h0_26 h1_26 O5a_26 O5b_26 O9a_26 O9b_26 O25a_26 O25b_26 B_26
  clear hw27
  go_wp2_with fail
  refine (heldF_any _ L.length _ _ _ O9a_27.rd hL (by omega) (by omega)).mono ?_
  rintro e w' ⟨rfl, rfl⟩
  go_wp2_with fail
  refine (heldF_any _ M.length _ _ _ O9b_27.rd hM (by omega) (by omega)).mono ?_
  rintro e w' ⟨rfl, rfl⟩
  go_wp2_with fail
  go_ret
  exact ⟨rfl, B_27⟩
end Go.Proofs.Ytfbdmhkmkmbipaa
