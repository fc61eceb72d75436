/-
  At any two lists and pair, JoinRing answers as its model does, in memory of its own, and leaves all as they were.
-/
import Derived.Test.YthkklilfignmpaaRows
import Derived.ProofKit
import Derived.OpenShut
import Derived.WalkLawsBesides
import Derived.KernelRfl
import Derived.Test.YthkklilfignmpaaJrF
import Derived.Test.YthkklilfignmpaaJrI
import Derived.Test.YthkklilfignmpaaMkF
import Derived.Test.YthkklilfignmpaaPai
import Derived.Test.YthkklilfignmpaaMkP
import Derived.Test.YthkklilfignmpaaToP
namespace Go.Proofs.Ythkklilfignmpaa
open Go.RowKit Fl
set_option linter.unusedVariables false
set_option maxRecDepth 100000 in
set_option maxHeartbeats 16000000 in
theorem fnExactJoinRing.walk (w : World) (v0 : Value) (a0 : List Nat) (h0 : Rd w w.heap.size v0 (a0.map (.float .f32))) (w0 : ∀ x ∈ a0, x < 2 ^ 32) (v1 : Value) (a1 : List Nat) (h1 : Rd w w.heap.size v1 (a1.map (.float .f32))) (w1 : ∀ x ∈ a1, x < 2 ^ 32) (v2 : Value) (a2 : List Nat) (h2 : Rd w w.heap.size v2 (a2.map (.float .f32))) (w2 : ∀ x ∈ a2, x < 2 ^ 32) :
    Calls Try.prog 12 #[v0, v1, .agg #[v2]] w fun e w' => e = .returned (.bool true) ∧ Below w.heap.size w w' := by
  have hle0 := h0.le
  rw [show (a0.map (.float .f32)) = fl a0 from rfl, fl_len] at hle0
  unfold maxLen at hle0
  replace h0 : Rd w w.heap.size v0 (fl a0) := h0
  by_cases hbig0 : 1048576 < a0.length
  · obtain ⟨A0, c0, hv0, _, _, _⟩ := id h0
    rw [fl_len] at hv0
    subst hv0
    obtain ⟨A1, c1, hv1, _, _, _⟩ := id h1
    rw [List.length_map] at hv1
    subst hv1
    obtain ⟨A2, c2, hv2, _, _, _⟩ := id h2
    rw [List.length_map] at hv2
    subst hv2
    go_enter Try.func12, Try.ntmps12
    go_wp2_with fail
    go_ret
    exact ⟨rfl, (Below.refl _ _).alloc (Nat.le_refl _) _⟩
  have hm0 : a0.length ≤ 1048576 := by omega
  clear hbig0
  obtain ⟨A0, c0, hv0, hc01, hc02, hcell0⟩ := id h0
  rw [fl_len] at hv0
  clear hcell0 hc01 hc02
  subst hv0
  have HX0 := Lib.hid w0
  clear w0
  have hle1 := h1.le
  rw [show (a1.map (.float .f32)) = fl a1 from rfl, fl_len] at hle1
  unfold maxLen at hle1
  replace h1 : Rd w w.heap.size v1 (fl a1) := h1
  by_cases hbig1 : 1048576 < a1.length
  · obtain ⟨A1, c1, hv1, _, _, _⟩ := id h1
    rw [fl_len] at hv1
    subst hv1
    obtain ⟨A2, c2, hv2, _, _, _⟩ := id h2
    rw [List.length_map] at hv2
    subst hv2
    go_enter Try.func12, Try.ntmps12
    go_wp2_with fail
    go_ret
    exact ⟨rfl, (Below.refl _ _).alloc (Nat.le_refl _) _⟩
  have hm1 : a1.length ≤ 1048576 := by omega
  clear hbig1
  obtain ⟨A1, c1, hv1, hc11, hc12, hcell1⟩ := id h1
  rw [fl_len] at hv1
  clear hcell1 hc11 hc12
  subst hv1
  have HX1 := Lib.hid w1
  clear w1
  have hle2 := h2.le
  rw [show (a2.map (.float .f32)) = fl a2 from rfl, fl_len] at hle2
  unfold maxLen at hle2
  replace h2 : Rd w w.heap.size v2 (fl a2) := h2
  obtain ⟨A2, c2, hv2, hc21, hc22, hcell2⟩ := id h2
  rw [fl_len] at hv2
  clear hcell2 hc21 hc22
  subst hv2
  have HX2 := Lib.hid w2
  clear w2
  have hsf : ∀ (a : Addr) (x : Nat) (w : World), (store a (.float .f32 x)).run Try.prog w = stored Try.prog w a (.float .f32 x) .plain := fun a x w => run_store _ w a _ _ rfl
  obtain ⟨L, hLe⟩ : ∃ L, L = jrL a0 a1 a2 := ⟨_, rfl⟩
  have hL : L.length ≤ 1048576 := by rw [hLe]; exact jrL_len a0 a1 a2
  obtain ⟨b, hbe⟩ : ∃ b, b = jrB a0 a1 a2 := ⟨_, rfl⟩
  have HS0 := Lib.hid (fun (hm0 : a0.length ≤ 1048576) (hm1 : a1.length ≤ 1048576) (hm2 : a2.length ≤ 1048576) (w' : World) (u0 : Value) (u1 : Value) (u2 : Value) (hr0 : Rd w' w'.heap.size u0 (fl a0)) (hr1 : Rd w' w'.heap.size u1 (fl a1)) (hr2 : Rd w' w'.heap.size u2 (fl a2)) => (show Calls Try.prog 56 #[u0, u1, .agg #[u2]] w' (RetLF L b w') by rw [hLe, hbe]; exact jrS_any u0 u1 u2 a0 a1 a2 w' hr0 hr1 hr2 hm0 hm1 hm2 HX0.out HX1.out HX2.out))
  have HI0 := Lib.hid (fun (hm0 : a0.length ≤ 1048576) (hm1 : a1.length ≤ 1048576) (hm2 : a2.length ≤ 1048576) (w' : World) (u0 : Value) (u1 : Value) (u2 : Value) (hr0 : Rd w' w'.heap.size u0 (fl a0)) (hr1 : Rd w' w'.heap.size u1 (fl a1)) (hr2 : Rd w' w'.heap.size u2 (fl a2)) => (show Calls Try.prog 59 #[u0, u1, .agg #[u2]] w' (RetLF L b w') by rw [hLe, hbe]; exact jrI_any u0 u1 u2 a0 a1 a2 w' hr0 hr1 hr2 hm0 hm1 hm2 HX0.out HX1.out HX2.out))
  clear hLe hbe
  go_enter Try.func12, Try.ntmps12
  have F_a0_w : Rd w w.heap.size (.slice A0 a0.length c0) (fl a0) := h0
  have F_a1_w : Rd w w.heap.size (.slice A1 a1.length c1) (fl a1) := h1
  have F_a2_w : Rd w w.heap.size (.slice A2 a2.length c2) (fl a2) := h2
  have B_w : Below w.heap.size w w := Below.refl _ _
  clear h0 h1 h2
  go_wp2_with fail
  have hb1 : Below w.heap.size w (w.alloc (.cells #[(.slice A2 a2.length c2)] 86)) := (Below.refl _ _).alloc (Nat.le_refl _) _
  have O1 := own_box1 w ((.slice A2 a2.length c2)) 86
  generalize w.alloc (.cells #[(.slice A2 a2.length c2)] 86) = w1 at *
  have F_a0_w1 : Rd w1 w.heap.size (.slice A0 a0.length c0) (fl a0) := F_a0_w.below (hb1.mono B_w.size)
  have F_a1_w1 : Rd w1 w.heap.size (.slice A1 a1.length c1) (fl a1) := F_a1_w.below (hb1.mono B_w.size)
  have F_a2_w1 : Rd w1 w.heap.size (.slice A2 a2.length c2) (fl a2) := F_a2_w.below (hb1.mono B_w.size)
  have B_w1 : Below w.heap.size w w1 := B_w.trans (hb1.mono B_w.size)
  have S_pa2 : w.heap.size ≤ w.heap.size := B_w.size
  clear F_a0_w F_a1_w F_a2_w B_w
  have F_pa2_w1 : In w1 w.heap.size w1.heap.size (.slice (some ⟨w.heap.size, 0, none⟩) 1 1) ([(.slice A2 a2.length c2)]) := In.made O1
  have T_pa2_w1 : w1.heap.size ≤ w1.heap.size := Nat.le_refl _
  clear O1
  clear hb1
  refine (szPair_any _ a2 1048576 _ (F_a2_w1.more B_w1.size) (by omega) (by omega) hle2).mono ?_
  rintro e w2 ⟨rfl, hb2⟩
  have F_a0_w2 : Rd w2 w.heap.size (.slice A0 a0.length c0) (fl a0) := F_a0_w1.below (hb2.mono B_w1.size)
  have F_a1_w2 : Rd w2 w.heap.size (.slice A1 a1.length c1) (fl a1) := F_a1_w1.below (hb2.mono B_w1.size)
  have F_a2_w2 : Rd w2 w.heap.size (.slice A2 a2.length c2) (fl a2) := F_a2_w1.below (hb2.mono B_w1.size)
  have F_pa2_w2 : In w2 w.heap.size w1.heap.size (.slice (some ⟨w.heap.size, 0, none⟩) 1 1) ([(.slice A2 a2.length c2)]) := F_pa2_w1.step hb2
  have T_pa2_w2 : w1.heap.size ≤ w2.heap.size := Nat.le_trans T_pa2_w1 hb2.size
  have B_w2 : Below w.heap.size w w2 := B_w1.trans (hb2.mono B_w1.size)
  clear F_a0_w1 F_a1_w1 F_a2_w1 F_pa2_w1 T_pa2_w1 B_w1
  clear hb2
  by_cases hbig2 : (1048576 : Int) < a2.length
  · rw [if_pos hbig2]
    go_wp2_with fail
    go_ret
    exact ⟨rfl, B_w2⟩
  rw [if_neg hbig2]
  have hm2 : a2.length ≤ 1048576 := by omega
  have hl2 : 0 ≤ (1048576 : Int) - a2.length := by omega
  have HS := Lib.hid (HS0.out hm0 hm1 hm2)
  have HI := Lib.hid (HI0.out hm0 hm1 hm2)
  clear HS0 HI0
  clear hbig2
  obtain ⟨_, Z_pa2_w2, c39, _⟩ := F_pa2_w2.1.cells' (by decide)
  have Q_pa2_w2 : w2.cell? ⟨w.heap.size, 0, none⟩ = some (.slice A2 a2.length c2) := c39 0 _ rfl
  clear c39
  have E_a0_w2 : Rd w2 w2.heap.size (.slice A0 a0.length c0) (fl a0) := (F_a0_w2.more B_w2.size)
  have E_a1_w2 : Rd w2 w2.heap.size (.slice A1 a1.length c1) (fl a1) := (F_a1_w2.more B_w2.size)
  have E_a2_w2 : Rd w2 w2.heap.size (.slice A2 a2.length c2) (fl a2) := (F_a2_w2.more B_w2.size)
  go_wp2_with fail
  go_region_held3 (fun w' => w'.cell? ⟨w.heap.size, 0, none⟩ = some (.slice A2 a2.length c2)) (first | exact Q_pa2_w2 | exact Q_pa2_w3 | exact Q_pa2_w4 | exact Q_pa2_w5 | exact Q_pa2_w6) ((first | (go_at_call_of 57 A0; refine (toFP_any (.slice A0 a0.length c0) a0 _ ?_ hm0).mono ?_; exact E_a0_w2; rintro e w3 ⟨g3, rfl, P3, hb3⟩; replace hb3 : Below w2.heap.size w2 w3 := below_draw1 hb3; replace P3 : Own w3 w2.heap.size (.slice (some ⟨g3, 0, none⟩) a0.length a0.length) (fl a0) := P3; have E_a0_w3 := E_a0_w2.step hb3; have E_a1_w3 := E_a1_w2.step hb3; have E_a2_w3 := E_a2_w2.step hb3; have Q_pa2_w3 : w3.cell? ⟨w.heap.size, 0, none⟩ = some (.slice A2 a2.length c2) := (hb3.cell (p := ⟨w.heap.size, 0, none⟩) Z_pa2_w2).trans Q_pa2_w2; have Z_pa2_w3 := Nat.lt_of_lt_of_le Z_pa2_w2 hb3.size; have E_c0_w3 := P3.rd) | (go_at_call_of 57 A1; refine (toFP_any (.slice A1 a1.length c1) a1 _ ?_ hm1).mono ?_; exact E_a1_w3; rintro e w4 ⟨g4, rfl, P4, hb4⟩; have E_a0_w4 := E_a0_w3.step hb4; have E_a1_w4 := E_a1_w3.step hb4; have E_a2_w4 := E_a2_w3.step hb4; have E_c0_w4 := E_c0_w3.step hb4; have Q_pa2_w4 : w4.cell? ⟨w.heap.size, 0, none⟩ = some (.slice A2 a2.length c2) := (hb4.cell (p := ⟨w.heap.size, 0, none⟩) Z_pa2_w3).trans Q_pa2_w3; have Z_pa2_w4 := Nat.lt_of_lt_of_le Z_pa2_w3 hb4.size; have E_c1_w4 := P4.rd) | (go_at_call 58; refine (toPair_any (.slice A2 a2.length c2) a2 _ ?_ hm2).mono ?_; exact E_a2_w4; rintro e w5 ⟨g5, rfl, P5, hb5⟩; have E_a0_w5 := E_a0_w4.step hb5; have E_a1_w5 := E_a1_w4.step hb5; have E_a2_w5 := E_a2_w4.step hb5; have E_c0_w5 := E_c0_w4.step hb5; have E_c1_w5 := E_c1_w4.step hb5; have Q_pa2_w5 : w5.cell? ⟨w.heap.size, 0, none⟩ = some (.slice A2 a2.length c2) := (hb5.cell (p := ⟨w.heap.size, 0, none⟩) Z_pa2_w4).trans Q_pa2_w4; have Z_pa2_w5 := Nat.lt_of_lt_of_le Z_pa2_w4 hb5.size; have E_c2_w5 := P5.rd) | (go_at_call 56; refine (HS.out _ _ _ _ ?_ ?_ ?_).mono ?_; exact E_c0_w5; exact E_c1_w5; exact E_c2_w5; rintro e w6 ⟨r0, rfl, O6x, hb6⟩; have E_a0_w6 := E_a0_w5.step hb6; have E_a1_w6 := E_a1_w5.step hb6; have E_a2_w6 := E_a2_w5.step hb6; have E_c0_w6 := E_c0_w5.step hb6; have E_c1_w6 := E_c1_w5.step hb6; have E_c2_w6 := E_c2_w5.step hb6; have Q_pa2_w6 : w6.cell? ⟨w.heap.size, 0, none⟩ = some (.slice A2 a2.length c2) := (hb6.cell (p := ⟨w.heap.size, 0, none⟩) Z_pa2_w5).trans Q_pa2_w5; have Z_pa2_w6 := Nat.lt_of_lt_of_le Z_pa2_w5 hb6.size)))
  have hc7 : Below w2.heap.size w2 w6 := (((hb3.trans (hb4.mono (by have := hb3.size; omega))).trans (hb5.mono (by have := hb3.size; have := hb4.size; omega))).trans (hb6.mono (by have := hb3.size; have := hb4.size; have := hb5.size; omega)))
  have O6x' := O6x.less (lo' := w2.heap.size) (by have := hb3.size; have := hb4.size; have := hb5.size; omega)
  have F_a0_w6 : Rd w6 w.heap.size (.slice A0 a0.length c0) (fl a0) := F_a0_w2.below (hc7.mono B_w2.size)
  have F_a1_w6 : Rd w6 w.heap.size (.slice A1 a1.length c1) (fl a1) := F_a1_w2.below (hc7.mono B_w2.size)
  have F_a2_w6 : Rd w6 w.heap.size (.slice A2 a2.length c2) (fl a2) := F_a2_w2.below (hc7.mono B_w2.size)
  have F_pa2_w6 : In w6 w.heap.size w1.heap.size (.slice (some ⟨w.heap.size, 0, none⟩) 1 1) ([(.slice A2 a2.length c2)]) := F_pa2_w2.step hc7
  have T_pa2_w6 : w1.heap.size ≤ w6.heap.size := Nat.le_trans T_pa2_w2 hc7.size
  have B_w6 : Below w.heap.size w w6 := B_w2.trans (hc7.mono B_w2.size)
  have S_r0 : w.heap.size ≤ w2.heap.size := B_w2.size
  have D_pa2_r0 : w1.heap.size ≤ w2.heap.size := T_pa2_w2
  clear F_a0_w2 F_a1_w2 F_a2_w2 F_pa2_w2 T_pa2_w2 B_w2
  have F_r0_w6 : In w6 w2.heap.size w6.heap.size r0 (fl L) := In.made O6x'
  have T_r0_w6 : w6.heap.size ≤ w6.heap.size := Nat.le_refl _
  clear O6x'
  clear hc7
  go_wp2_with fail
  refine (toF_any _ a0 _ _ (F_a0_w6.more B_w6.size) (Nat.le_refl _) hm0).mono ?_
  rintro e w8 ⟨g8, rfl, P8, hb8⟩
  have O8 := Own.row P8
  clear P8
  have F_a0_w8 : Rd w8 w.heap.size (.slice A0 a0.length c0) (fl a0) := F_a0_w6.below (hb8.mono B_w6.size)
  have F_a1_w8 : Rd w8 w.heap.size (.slice A1 a1.length c1) (fl a1) := F_a1_w6.below (hb8.mono B_w6.size)
  have F_a2_w8 : Rd w8 w.heap.size (.slice A2 a2.length c2) (fl a2) := F_a2_w6.below (hb8.mono B_w6.size)
  have F_pa2_w8 : In w8 w.heap.size w1.heap.size (.slice (some ⟨w.heap.size, 0, none⟩) 1 1) ([(.slice A2 a2.length c2)]) := F_pa2_w6.step hb8
  have T_pa2_w8 : w1.heap.size ≤ w8.heap.size := Nat.le_trans T_pa2_w6 hb8.size
  have F_r0_w8 : In w8 w2.heap.size w6.heap.size r0 (fl L) := F_r0_w6.step hb8
  have T_r0_w8 : w6.heap.size ≤ w8.heap.size := Nat.le_trans T_r0_w6 hb8.size
  have B_w8 : Below w.heap.size w w8 := B_w6.trans (hb8.mono B_w6.size)
  have S_x0 : w.heap.size ≤ w6.heap.size := B_w6.size
  have D_pa2_x0 : w1.heap.size ≤ w6.heap.size := T_pa2_w6
  have D_r0_x0 : w6.heap.size ≤ w6.heap.size := T_r0_w6
  clear F_a0_w6 F_a1_w6 F_a2_w6 F_pa2_w6 T_pa2_w6 F_r0_w6 T_r0_w6 B_w6
  have F_x0_w8 : In w8 w6.heap.size w8.heap.size (.slice (some ⟨g8, 0, none⟩) a0.length a0.length) (fl a0) := In.made O8
  have T_x0_w8 : w8.heap.size ≤ w8.heap.size := Nat.le_refl _
  clear O8
  clear hb8
  go_wp2_with fail
  refine (toF_any _ a1 _ _ (F_a1_w8.more B_w8.size) (Nat.le_refl _) hm1).mono ?_
  rintro e w9 ⟨g9, rfl, P9, hb9⟩
  have O9 := Own.row P9
  clear P9
  have F_a0_w9 : Rd w9 w.heap.size (.slice A0 a0.length c0) (fl a0) := F_a0_w8.below (hb9.mono B_w8.size)
  have F_a1_w9 : Rd w9 w.heap.size (.slice A1 a1.length c1) (fl a1) := F_a1_w8.below (hb9.mono B_w8.size)
  have F_a2_w9 : Rd w9 w.heap.size (.slice A2 a2.length c2) (fl a2) := F_a2_w8.below (hb9.mono B_w8.size)
  have F_pa2_w9 : In w9 w.heap.size w1.heap.size (.slice (some ⟨w.heap.size, 0, none⟩) 1 1) ([(.slice A2 a2.length c2)]) := F_pa2_w8.step hb9
  have T_pa2_w9 : w1.heap.size ≤ w9.heap.size := Nat.le_trans T_pa2_w8 hb9.size
  have F_r0_w9 : In w9 w2.heap.size w6.heap.size r0 (fl L) := F_r0_w8.step hb9
  have T_r0_w9 : w6.heap.size ≤ w9.heap.size := Nat.le_trans T_r0_w8 hb9.size
  have F_x0_w9 : In w9 w6.heap.size w8.heap.size (.slice (some ⟨g8, 0, none⟩) a0.length a0.length) (fl a0) := F_x0_w8.step hb9
  have T_x0_w9 : w8.heap.size ≤ w9.heap.size := Nat.le_trans T_x0_w8 hb9.size
  have B_w9 : Below w.heap.size w w9 := B_w8.trans (hb9.mono B_w8.size)
  have S_x1 : w.heap.size ≤ w8.heap.size := B_w8.size
  have D_pa2_x1 : w1.heap.size ≤ w8.heap.size := T_pa2_w8
  have D_r0_x1 : w6.heap.size ≤ w8.heap.size := T_r0_w8
  have D_x0_x1 : w8.heap.size ≤ w8.heap.size := T_x0_w8
  clear F_a0_w8 F_a1_w8 F_a2_w8 F_pa2_w8 T_pa2_w8 F_r0_w8 T_r0_w8 F_x0_w8 T_x0_w8 B_w8
  have F_x1_w9 : In w9 w8.heap.size w9.heap.size (.slice (some ⟨g9, 0, none⟩) a1.length a1.length) (fl a1) := In.made O9
  have T_x1_w9 : w9.heap.size ≤ w9.heap.size := Nat.le_refl _
  clear O9
  clear hb9
  obtain ⟨_, Z_pa2_w9, c107, _⟩ := F_pa2_w9.1.cells' (by decide)
  have Q_pa2_w9 : w9.cell? ⟨w.heap.size, 0, none⟩ = some (.slice A2 a2.length c2) := c107 0 _ rfl
  clear c107
  go_wp2_with fail
  refine (toPair_any _ a2 _ (F_a2_w9.more B_w9.size) hm2).mono ?_
  rintro e w10 ⟨g10, rfl, O10, hb10⟩
  have F_a0_w10 : Rd w10 w.heap.size (.slice A0 a0.length c0) (fl a0) := F_a0_w9.below (hb10.mono B_w9.size)
  have F_a1_w10 : Rd w10 w.heap.size (.slice A1 a1.length c1) (fl a1) := F_a1_w9.below (hb10.mono B_w9.size)
  have F_a2_w10 : Rd w10 w.heap.size (.slice A2 a2.length c2) (fl a2) := F_a2_w9.below (hb10.mono B_w9.size)
  have F_pa2_w10 : In w10 w.heap.size w1.heap.size (.slice (some ⟨w.heap.size, 0, none⟩) 1 1) ([(.slice A2 a2.length c2)]) := F_pa2_w9.step hb10
  have T_pa2_w10 : w1.heap.size ≤ w10.heap.size := Nat.le_trans T_pa2_w9 hb10.size
  have F_r0_w10 : In w10 w2.heap.size w6.heap.size r0 (fl L) := F_r0_w9.step hb10
  have T_r0_w10 : w6.heap.size ≤ w10.heap.size := Nat.le_trans T_r0_w9 hb10.size
  have F_x0_w10 : In w10 w6.heap.size w8.heap.size (.slice (some ⟨g8, 0, none⟩) a0.length a0.length) (fl a0) := F_x0_w9.step hb10
  have T_x0_w10 : w8.heap.size ≤ w10.heap.size := Nat.le_trans T_x0_w9 hb10.size
  have F_x1_w10 : In w10 w8.heap.size w9.heap.size (.slice (some ⟨g9, 0, none⟩) a1.length a1.length) (fl a1) := F_x1_w9.step hb10
  have T_x1_w10 : w9.heap.size ≤ w10.heap.size := Nat.le_trans T_x1_w9 hb10.size
  have B_w10 : Below w.heap.size w w10 := B_w9.trans (hb10.mono B_w9.size)
  have S_x2 : w.heap.size ≤ w9.heap.size := B_w9.size
  have D_pa2_x2 : w1.heap.size ≤ w9.heap.size := T_pa2_w9
  have D_r0_x2 : w6.heap.size ≤ w9.heap.size := T_r0_w9
  have D_x0_x2 : w8.heap.size ≤ w9.heap.size := T_x0_w9
  have D_x1_x2 : w9.heap.size ≤ w9.heap.size := T_x1_w9
  clear F_a0_w9 F_a1_w9 F_a2_w9 F_pa2_w9 T_pa2_w9 F_r0_w9 T_r0_w9 F_x0_w9 T_x0_w9 F_x1_w9 T_x1_w9 B_w9
  have F_x2_w10 : In w10 w9.heap.size w10.heap.size (.slice (some ⟨g10, 0, none⟩) a2.length a2.length) (fl a2) := In.made O10
  have T_x2_w10 : w10.heap.size ≤ w10.heap.size := Nat.le_refl _
  clear O10
  clear hb10
  clear Z_pa2_w9 Q_pa2_w9
  go_wp2_with fail
  have hb11 : Below w10.heap.size w10 (w10.alloc (.cells #[(.slice (some ⟨g10, 0, none⟩) a2.length a2.length)] 91)) := (Below.refl _ _).alloc (Nat.le_refl _) _
  have O11 := own_box1 w10 ((.slice (some ⟨g10, 0, none⟩) a2.length a2.length)) 91
  generalize w10.alloc (.cells #[(.slice (some ⟨g10, 0, none⟩) a2.length a2.length)] 91) = w11 at *
  have F_a0_w11 : Rd w11 w.heap.size (.slice A0 a0.length c0) (fl a0) := F_a0_w10.below (hb11.mono B_w10.size)
  have F_a1_w11 : Rd w11 w.heap.size (.slice A1 a1.length c1) (fl a1) := F_a1_w10.below (hb11.mono B_w10.size)
  have F_a2_w11 : Rd w11 w.heap.size (.slice A2 a2.length c2) (fl a2) := F_a2_w10.below (hb11.mono B_w10.size)
  have F_pa2_w11 : In w11 w.heap.size w1.heap.size (.slice (some ⟨w.heap.size, 0, none⟩) 1 1) ([(.slice A2 a2.length c2)]) := F_pa2_w10.step hb11
  have T_pa2_w11 : w1.heap.size ≤ w11.heap.size := Nat.le_trans T_pa2_w10 hb11.size
  have F_r0_w11 : In w11 w2.heap.size w6.heap.size r0 (fl L) := F_r0_w10.step hb11
  have T_r0_w11 : w6.heap.size ≤ w11.heap.size := Nat.le_trans T_r0_w10 hb11.size
  have F_x0_w11 : In w11 w6.heap.size w8.heap.size (.slice (some ⟨g8, 0, none⟩) a0.length a0.length) (fl a0) := F_x0_w10.step hb11
  have T_x0_w11 : w8.heap.size ≤ w11.heap.size := Nat.le_trans T_x0_w10 hb11.size
  have F_x1_w11 : In w11 w8.heap.size w9.heap.size (.slice (some ⟨g9, 0, none⟩) a1.length a1.length) (fl a1) := F_x1_w10.step hb11
  have T_x1_w11 : w9.heap.size ≤ w11.heap.size := Nat.le_trans T_x1_w10 hb11.size
  have F_x2_w11 : In w11 w9.heap.size w10.heap.size (.slice (some ⟨g10, 0, none⟩) a2.length a2.length) (fl a2) := F_x2_w10.step hb11
  have T_x2_w11 : w10.heap.size ≤ w11.heap.size := Nat.le_trans T_x2_w10 hb11.size
  have B_w11 : Below w.heap.size w w11 := B_w10.trans (hb11.mono B_w10.size)
  have S_px2 : w.heap.size ≤ w10.heap.size := B_w10.size
  have D_pa2_px2 : w1.heap.size ≤ w10.heap.size := T_pa2_w10
  have D_r0_px2 : w6.heap.size ≤ w10.heap.size := T_r0_w10
  have D_x0_px2 : w8.heap.size ≤ w10.heap.size := T_x0_w10
  have D_x1_px2 : w9.heap.size ≤ w10.heap.size := T_x1_w10
  have D_x2_px2 : w10.heap.size ≤ w10.heap.size := T_x2_w10
  clear F_a0_w10 F_a1_w10 F_a2_w10 F_pa2_w10 T_pa2_w10 F_r0_w10 T_r0_w10 F_x0_w10 T_x0_w10 F_x1_w10 T_x1_w10 F_x2_w10 T_x2_w10 B_w10
  have F_px2_w11 : In w11 w10.heap.size w11.heap.size (.slice (some ⟨w10.heap.size, 0, none⟩) 1 1) ([(.slice (some ⟨g10, 0, none⟩) a2.length a2.length)]) := In.made O11
  have T_px2_w11 : w11.heap.size ≤ w11.heap.size := Nat.le_refl _
  clear O11
  clear hb11
  refine (HI.out _ _ _ _ F_x0_w11.rd F_x1_w11.rd F_x2_w11.rd).mono ?_
  rintro e w12 ⟨g0, rfl, O12x, hb12⟩
  have F_a0_w12 : Rd w12 w.heap.size (.slice A0 a0.length c0) (fl a0) := F_a0_w11.below (hb12.mono B_w11.size)
  have F_a1_w12 : Rd w12 w.heap.size (.slice A1 a1.length c1) (fl a1) := F_a1_w11.below (hb12.mono B_w11.size)
  have F_a2_w12 : Rd w12 w.heap.size (.slice A2 a2.length c2) (fl a2) := F_a2_w11.below (hb12.mono B_w11.size)
  have F_pa2_w12 : In w12 w.heap.size w1.heap.size (.slice (some ⟨w.heap.size, 0, none⟩) 1 1) ([(.slice A2 a2.length c2)]) := F_pa2_w11.step hb12
  have T_pa2_w12 : w1.heap.size ≤ w12.heap.size := Nat.le_trans T_pa2_w11 hb12.size
  have F_r0_w12 : In w12 w2.heap.size w6.heap.size r0 (fl L) := F_r0_w11.step hb12
  have T_r0_w12 : w6.heap.size ≤ w12.heap.size := Nat.le_trans T_r0_w11 hb12.size
  have F_x0_w12 : In w12 w6.heap.size w8.heap.size (.slice (some ⟨g8, 0, none⟩) a0.length a0.length) (fl a0) := F_x0_w11.step hb12
  have T_x0_w12 : w8.heap.size ≤ w12.heap.size := Nat.le_trans T_x0_w11 hb12.size
  have F_x1_w12 : In w12 w8.heap.size w9.heap.size (.slice (some ⟨g9, 0, none⟩) a1.length a1.length) (fl a1) := F_x1_w11.step hb12
  have T_x1_w12 : w9.heap.size ≤ w12.heap.size := Nat.le_trans T_x1_w11 hb12.size
  have F_x2_w12 : In w12 w9.heap.size w10.heap.size (.slice (some ⟨g10, 0, none⟩) a2.length a2.length) (fl a2) := F_x2_w11.step hb12
  have T_x2_w12 : w10.heap.size ≤ w12.heap.size := Nat.le_trans T_x2_w11 hb12.size
  have F_px2_w12 : In w12 w10.heap.size w11.heap.size (.slice (some ⟨w10.heap.size, 0, none⟩) 1 1) ([(.slice (some ⟨g10, 0, none⟩) a2.length a2.length)]) := F_px2_w11.step hb12
  have T_px2_w12 : w11.heap.size ≤ w12.heap.size := Nat.le_trans T_px2_w11 hb12.size
  have B_w12 : Below w.heap.size w w12 := B_w11.trans (hb12.mono B_w11.size)
  have S_g0 : w.heap.size ≤ w11.heap.size := B_w11.size
  have D_pa2_g0 : w1.heap.size ≤ w11.heap.size := T_pa2_w11
  have D_r0_g0 : w6.heap.size ≤ w11.heap.size := T_r0_w11
  have D_x0_g0 : w8.heap.size ≤ w11.heap.size := T_x0_w11
  have D_x1_g0 : w9.heap.size ≤ w11.heap.size := T_x1_w11
  have D_x2_g0 : w10.heap.size ≤ w11.heap.size := T_x2_w11
  have D_px2_g0 : w11.heap.size ≤ w11.heap.size := T_px2_w11
  clear F_a0_w11 F_a1_w11 F_a2_w11 F_pa2_w11 T_pa2_w11 F_r0_w11 T_r0_w11 F_x0_w11 T_x0_w11 F_x1_w11 T_x1_w11 F_x2_w11 T_x2_w11 F_px2_w11 T_px2_w11 B_w11
  have F_g0_w12 : In w12 w11.heap.size w12.heap.size g0 (fl L) := In.made O12x
  have T_g0_w12 : w12.heap.size ≤ w12.heap.size := Nat.le_refl _
  clear O12x
  clear hb12
  go_wp2_with fail
  refine (eqF_any _ _ L L _ _ F_g0_w12.rd F_r0_w12.rd (Worth.refl _) hL).mono ?_
  rintro e w13 ⟨rfl, q13, hw13⟩
  have hb13 : Below w12.heap.size w12 w13 := by rw [hw13]; exact below_drawn (Below.refl _ _) _
  clear hw13
  have F_a0_w13 : Rd w13 w.heap.size (.slice A0 a0.length c0) (fl a0) := F_a0_w12.below (hb13.mono B_w12.size)
  have F_a1_w13 : Rd w13 w.heap.size (.slice A1 a1.length c1) (fl a1) := F_a1_w12.below (hb13.mono B_w12.size)
  have F_a2_w13 : Rd w13 w.heap.size (.slice A2 a2.length c2) (fl a2) := F_a2_w12.below (hb13.mono B_w12.size)
  have F_pa2_w13 : In w13 w.heap.size w1.heap.size (.slice (some ⟨w.heap.size, 0, none⟩) 1 1) ([(.slice A2 a2.length c2)]) := F_pa2_w12.step hb13
  have T_pa2_w13 : w1.heap.size ≤ w13.heap.size := Nat.le_trans T_pa2_w12 hb13.size
  have F_r0_w13 : In w13 w2.heap.size w6.heap.size r0 (fl L) := F_r0_w12.step hb13
  have T_r0_w13 : w6.heap.size ≤ w13.heap.size := Nat.le_trans T_r0_w12 hb13.size
  have F_x0_w13 : In w13 w6.heap.size w8.heap.size (.slice (some ⟨g8, 0, none⟩) a0.length a0.length) (fl a0) := F_x0_w12.step hb13
  have T_x0_w13 : w8.heap.size ≤ w13.heap.size := Nat.le_trans T_x0_w12 hb13.size
  have F_x1_w13 : In w13 w8.heap.size w9.heap.size (.slice (some ⟨g9, 0, none⟩) a1.length a1.length) (fl a1) := F_x1_w12.step hb13
  have T_x1_w13 : w9.heap.size ≤ w13.heap.size := Nat.le_trans T_x1_w12 hb13.size
  have F_x2_w13 : In w13 w9.heap.size w10.heap.size (.slice (some ⟨g10, 0, none⟩) a2.length a2.length) (fl a2) := F_x2_w12.step hb13
  have T_x2_w13 : w10.heap.size ≤ w13.heap.size := Nat.le_trans T_x2_w12 hb13.size
  have F_px2_w13 : In w13 w10.heap.size w11.heap.size (.slice (some ⟨w10.heap.size, 0, none⟩) 1 1) ([(.slice (some ⟨g10, 0, none⟩) a2.length a2.length)]) := F_px2_w12.step hb13
  have T_px2_w13 : w11.heap.size ≤ w13.heap.size := Nat.le_trans T_px2_w12 hb13.size
  have F_g0_w13 : In w13 w11.heap.size w12.heap.size g0 (fl L) := F_g0_w12.step hb13
  have T_g0_w13 : w12.heap.size ≤ w13.heap.size := Nat.le_trans T_g0_w12 hb13.size
  have B_w13 : Below w.heap.size w w13 := B_w12.trans (hb13.mono B_w12.size)
  clear F_a0_w12 F_a1_w12 F_a2_w12 F_pa2_w12 T_pa2_w12 F_r0_w12 T_r0_w12 F_x0_w12 T_x0_w12 F_x1_w12 T_x1_w12 F_x2_w12 T_x2_w12 F_px2_w12 T_px2_w12 F_g0_w12 T_g0_w12 B_w12
  clear hb13
  go_wp2_with fail
  refine (toF_any _ a0 _ _ (F_a0_w13.more B_w13.size) (Nat.le_refl _) hm0).mono ?_
  rintro e w14 ⟨g14, rfl, P14, hb14⟩
  have O14 := Own.row P14
  clear P14
  have F_a0_w14 : Rd w14 w.heap.size (.slice A0 a0.length c0) (fl a0) := F_a0_w13.below (hb14.mono B_w13.size)
  have F_a1_w14 : Rd w14 w.heap.size (.slice A1 a1.length c1) (fl a1) := F_a1_w13.below (hb14.mono B_w13.size)
  have F_a2_w14 : Rd w14 w.heap.size (.slice A2 a2.length c2) (fl a2) := F_a2_w13.below (hb14.mono B_w13.size)
  have F_pa2_w14 : In w14 w.heap.size w1.heap.size (.slice (some ⟨w.heap.size, 0, none⟩) 1 1) ([(.slice A2 a2.length c2)]) := F_pa2_w13.step hb14
  have T_pa2_w14 : w1.heap.size ≤ w14.heap.size := Nat.le_trans T_pa2_w13 hb14.size
  have F_r0_w14 : In w14 w2.heap.size w6.heap.size r0 (fl L) := F_r0_w13.step hb14
  have T_r0_w14 : w6.heap.size ≤ w14.heap.size := Nat.le_trans T_r0_w13 hb14.size
  have F_x0_w14 : In w14 w6.heap.size w8.heap.size (.slice (some ⟨g8, 0, none⟩) a0.length a0.length) (fl a0) := F_x0_w13.step hb14
  have T_x0_w14 : w8.heap.size ≤ w14.heap.size := Nat.le_trans T_x0_w13 hb14.size
  have F_x1_w14 : In w14 w8.heap.size w9.heap.size (.slice (some ⟨g9, 0, none⟩) a1.length a1.length) (fl a1) := F_x1_w13.step hb14
  have T_x1_w14 : w9.heap.size ≤ w14.heap.size := Nat.le_trans T_x1_w13 hb14.size
  have F_x2_w14 : In w14 w9.heap.size w10.heap.size (.slice (some ⟨g10, 0, none⟩) a2.length a2.length) (fl a2) := F_x2_w13.step hb14
  have T_x2_w14 : w10.heap.size ≤ w14.heap.size := Nat.le_trans T_x2_w13 hb14.size
  have F_px2_w14 : In w14 w10.heap.size w11.heap.size (.slice (some ⟨w10.heap.size, 0, none⟩) 1 1) ([(.slice (some ⟨g10, 0, none⟩) a2.length a2.length)]) := F_px2_w13.step hb14
  have T_px2_w14 : w11.heap.size ≤ w14.heap.size := Nat.le_trans T_px2_w13 hb14.size
  have F_g0_w14 : In w14 w11.heap.size w12.heap.size g0 (fl L) := F_g0_w13.step hb14
  have T_g0_w14 : w12.heap.size ≤ w14.heap.size := Nat.le_trans T_g0_w13 hb14.size
  have B_w14 : Below w.heap.size w w14 := B_w13.trans (hb14.mono B_w13.size)
  have S_d0 : w.heap.size ≤ w13.heap.size := B_w13.size
  have D_pa2_d0 : w1.heap.size ≤ w13.heap.size := T_pa2_w13
  have D_r0_d0 : w6.heap.size ≤ w13.heap.size := T_r0_w13
  have D_x0_d0 : w8.heap.size ≤ w13.heap.size := T_x0_w13
  have D_x1_d0 : w9.heap.size ≤ w13.heap.size := T_x1_w13
  have D_x2_d0 : w10.heap.size ≤ w13.heap.size := T_x2_w13
  have D_px2_d0 : w11.heap.size ≤ w13.heap.size := T_px2_w13
  have D_g0_d0 : w12.heap.size ≤ w13.heap.size := T_g0_w13
  clear F_a0_w13 F_a1_w13 F_a2_w13 F_pa2_w13 T_pa2_w13 F_r0_w13 T_r0_w13 F_x0_w13 T_x0_w13 F_x1_w13 T_x1_w13 F_x2_w13 T_x2_w13 F_px2_w13 T_px2_w13 F_g0_w13 T_g0_w13 B_w13
  have F_d0_w14 : In w14 w13.heap.size w14.heap.size (.slice (some ⟨g14, 0, none⟩) a0.length a0.length) (fl a0) := In.made O14
  have T_d0_w14 : w14.heap.size ≤ w14.heap.size := Nat.le_refl _
  clear O14
  clear hb14
  go_wp2_with fail
  refine (eqF_any _ _ a0 a0 _ _ F_x0_w14.rd F_d0_w14.rd (Worth.refl _) hm0).mono ?_
  rintro e w15 ⟨rfl, q15, hw15⟩
  have hb15 : Below w14.heap.size w14 w15 := by rw [hw15]; exact below_drawn (Below.refl _ _) _
  clear hw15
  have F_a0_w15 : Rd w15 w.heap.size (.slice A0 a0.length c0) (fl a0) := F_a0_w14.below (hb15.mono B_w14.size)
  have F_a1_w15 : Rd w15 w.heap.size (.slice A1 a1.length c1) (fl a1) := F_a1_w14.below (hb15.mono B_w14.size)
  have F_a2_w15 : Rd w15 w.heap.size (.slice A2 a2.length c2) (fl a2) := F_a2_w14.below (hb15.mono B_w14.size)
  have F_pa2_w15 : In w15 w.heap.size w1.heap.size (.slice (some ⟨w.heap.size, 0, none⟩) 1 1) ([(.slice A2 a2.length c2)]) := F_pa2_w14.step hb15
  have T_pa2_w15 : w1.heap.size ≤ w15.heap.size := Nat.le_trans T_pa2_w14 hb15.size
  have F_r0_w15 : In w15 w2.heap.size w6.heap.size r0 (fl L) := F_r0_w14.step hb15
  have T_r0_w15 : w6.heap.size ≤ w15.heap.size := Nat.le_trans T_r0_w14 hb15.size
  have F_x0_w15 : In w15 w6.heap.size w8.heap.size (.slice (some ⟨g8, 0, none⟩) a0.length a0.length) (fl a0) := F_x0_w14.step hb15
  have T_x0_w15 : w8.heap.size ≤ w15.heap.size := Nat.le_trans T_x0_w14 hb15.size
  have F_x1_w15 : In w15 w8.heap.size w9.heap.size (.slice (some ⟨g9, 0, none⟩) a1.length a1.length) (fl a1) := F_x1_w14.step hb15
  have T_x1_w15 : w9.heap.size ≤ w15.heap.size := Nat.le_trans T_x1_w14 hb15.size
  have F_x2_w15 : In w15 w9.heap.size w10.heap.size (.slice (some ⟨g10, 0, none⟩) a2.length a2.length) (fl a2) := F_x2_w14.step hb15
  have T_x2_w15 : w10.heap.size ≤ w15.heap.size := Nat.le_trans T_x2_w14 hb15.size
  have F_px2_w15 : In w15 w10.heap.size w11.heap.size (.slice (some ⟨w10.heap.size, 0, none⟩) 1 1) ([(.slice (some ⟨g10, 0, none⟩) a2.length a2.length)]) := F_px2_w14.step hb15
  have T_px2_w15 : w11.heap.size ≤ w15.heap.size := Nat.le_trans T_px2_w14 hb15.size
  have F_g0_w15 : In w15 w11.heap.size w12.heap.size g0 (fl L) := F_g0_w14.step hb15
  have T_g0_w15 : w12.heap.size ≤ w15.heap.size := Nat.le_trans T_g0_w14 hb15.size
  have F_d0_w15 : In w15 w13.heap.size w14.heap.size (.slice (some ⟨g14, 0, none⟩) a0.length a0.length) (fl a0) := F_d0_w14.step hb15
  have T_d0_w15 : w14.heap.size ≤ w15.heap.size := Nat.le_trans T_d0_w14 hb15.size
  have B_w15 : Below w.heap.size w w15 := B_w14.trans (hb15.mono B_w14.size)
  clear F_a0_w14 F_a1_w14 F_a2_w14 F_pa2_w14 T_pa2_w14 F_r0_w14 T_r0_w14 F_x0_w14 T_x0_w14 F_x1_w14 T_x1_w14 F_x2_w14 T_x2_w14 F_px2_w14 T_px2_w14 F_g0_w14 T_g0_w14 F_d0_w14 T_d0_w14 B_w14
  clear hb15
  clear F_d0_w15 T_d0_w15
  go_wp2_with fail
  refine (toF_any _ a1 _ _ (F_a1_w15.more B_w15.size) (Nat.le_refl _) hm1).mono ?_
  rintro e w16 ⟨g16, rfl, P16, hb16⟩
  have O16 := Own.row P16
  clear P16
  have F_a0_w16 : Rd w16 w.heap.size (.slice A0 a0.length c0) (fl a0) := F_a0_w15.below (hb16.mono B_w15.size)
  have F_a1_w16 : Rd w16 w.heap.size (.slice A1 a1.length c1) (fl a1) := F_a1_w15.below (hb16.mono B_w15.size)
  have F_a2_w16 : Rd w16 w.heap.size (.slice A2 a2.length c2) (fl a2) := F_a2_w15.below (hb16.mono B_w15.size)
  have F_pa2_w16 : In w16 w.heap.size w1.heap.size (.slice (some ⟨w.heap.size, 0, none⟩) 1 1) ([(.slice A2 a2.length c2)]) := F_pa2_w15.step hb16
  have T_pa2_w16 : w1.heap.size ≤ w16.heap.size := Nat.le_trans T_pa2_w15 hb16.size
  have F_r0_w16 : In w16 w2.heap.size w6.heap.size r0 (fl L) := F_r0_w15.step hb16
  have T_r0_w16 : w6.heap.size ≤ w16.heap.size := Nat.le_trans T_r0_w15 hb16.size
  have F_x0_w16 : In w16 w6.heap.size w8.heap.size (.slice (some ⟨g8, 0, none⟩) a0.length a0.length) (fl a0) := F_x0_w15.step hb16
  have T_x0_w16 : w8.heap.size ≤ w16.heap.size := Nat.le_trans T_x0_w15 hb16.size
  have F_x1_w16 : In w16 w8.heap.size w9.heap.size (.slice (some ⟨g9, 0, none⟩) a1.length a1.length) (fl a1) := F_x1_w15.step hb16
  have T_x1_w16 : w9.heap.size ≤ w16.heap.size := Nat.le_trans T_x1_w15 hb16.size
  have F_x2_w16 : In w16 w9.heap.size w10.heap.size (.slice (some ⟨g10, 0, none⟩) a2.length a2.length) (fl a2) := F_x2_w15.step hb16
  have T_x2_w16 : w10.heap.size ≤ w16.heap.size := Nat.le_trans T_x2_w15 hb16.size
  have F_px2_w16 : In w16 w10.heap.size w11.heap.size (.slice (some ⟨w10.heap.size, 0, none⟩) 1 1) ([(.slice (some ⟨g10, 0, none⟩) a2.length a2.length)]) := F_px2_w15.step hb16
  have T_px2_w16 : w11.heap.size ≤ w16.heap.size := Nat.le_trans T_px2_w15 hb16.size
  have F_g0_w16 : In w16 w11.heap.size w12.heap.size g0 (fl L) := F_g0_w15.step hb16
  have T_g0_w16 : w12.heap.size ≤ w16.heap.size := Nat.le_trans T_g0_w15 hb16.size
  have B_w16 : Below w.heap.size w w16 := B_w15.trans (hb16.mono B_w15.size)
  have S_d1 : w.heap.size ≤ w15.heap.size := B_w15.size
  have D_pa2_d1 : w1.heap.size ≤ w15.heap.size := T_pa2_w15
  have D_r0_d1 : w6.heap.size ≤ w15.heap.size := T_r0_w15
  have D_x0_d1 : w8.heap.size ≤ w15.heap.size := T_x0_w15
  have D_x1_d1 : w9.heap.size ≤ w15.heap.size := T_x1_w15
  have D_x2_d1 : w10.heap.size ≤ w15.heap.size := T_x2_w15
  have D_px2_d1 : w11.heap.size ≤ w15.heap.size := T_px2_w15
  have D_g0_d1 : w12.heap.size ≤ w15.heap.size := T_g0_w15
  clear F_a0_w15 F_a1_w15 F_a2_w15 F_pa2_w15 T_pa2_w15 F_r0_w15 T_r0_w15 F_x0_w15 T_x0_w15 F_x1_w15 T_x1_w15 F_x2_w15 T_x2_w15 F_px2_w15 T_px2_w15 F_g0_w15 T_g0_w15 B_w15
  have F_d1_w16 : In w16 w15.heap.size w16.heap.size (.slice (some ⟨g16, 0, none⟩) a1.length a1.length) (fl a1) := In.made O16
  have T_d1_w16 : w16.heap.size ≤ w16.heap.size := Nat.le_refl _
  clear O16
  clear hb16
  go_wp2_with fail
  refine (eqF_any _ _ a1 a1 _ _ F_x1_w16.rd F_d1_w16.rd (Worth.refl _) hm1).mono ?_
  rintro e w17 ⟨rfl, q17, hw17⟩
  have hb17 : Below w16.heap.size w16 w17 := by rw [hw17]; exact below_drawn (Below.refl _ _) _
  clear hw17
  have F_a0_w17 : Rd w17 w.heap.size (.slice A0 a0.length c0) (fl a0) := F_a0_w16.below (hb17.mono B_w16.size)
  have F_a1_w17 : Rd w17 w.heap.size (.slice A1 a1.length c1) (fl a1) := F_a1_w16.below (hb17.mono B_w16.size)
  have F_a2_w17 : Rd w17 w.heap.size (.slice A2 a2.length c2) (fl a2) := F_a2_w16.below (hb17.mono B_w16.size)
  have F_pa2_w17 : In w17 w.heap.size w1.heap.size (.slice (some ⟨w.heap.size, 0, none⟩) 1 1) ([(.slice A2 a2.length c2)]) := F_pa2_w16.step hb17
  have T_pa2_w17 : w1.heap.size ≤ w17.heap.size := Nat.le_trans T_pa2_w16 hb17.size
  have F_r0_w17 : In w17 w2.heap.size w6.heap.size r0 (fl L) := F_r0_w16.step hb17
  have T_r0_w17 : w6.heap.size ≤ w17.heap.size := Nat.le_trans T_r0_w16 hb17.size
  have F_x0_w17 : In w17 w6.heap.size w8.heap.size (.slice (some ⟨g8, 0, none⟩) a0.length a0.length) (fl a0) := F_x0_w16.step hb17
  have T_x0_w17 : w8.heap.size ≤ w17.heap.size := Nat.le_trans T_x0_w16 hb17.size
  have F_x1_w17 : In w17 w8.heap.size w9.heap.size (.slice (some ⟨g9, 0, none⟩) a1.length a1.length) (fl a1) := F_x1_w16.step hb17
  have T_x1_w17 : w9.heap.size ≤ w17.heap.size := Nat.le_trans T_x1_w16 hb17.size
  have F_x2_w17 : In w17 w9.heap.size w10.heap.size (.slice (some ⟨g10, 0, none⟩) a2.length a2.length) (fl a2) := F_x2_w16.step hb17
  have T_x2_w17 : w10.heap.size ≤ w17.heap.size := Nat.le_trans T_x2_w16 hb17.size
  have F_px2_w17 : In w17 w10.heap.size w11.heap.size (.slice (some ⟨w10.heap.size, 0, none⟩) 1 1) ([(.slice (some ⟨g10, 0, none⟩) a2.length a2.length)]) := F_px2_w16.step hb17
  have T_px2_w17 : w11.heap.size ≤ w17.heap.size := Nat.le_trans T_px2_w16 hb17.size
  have F_g0_w17 : In w17 w11.heap.size w12.heap.size g0 (fl L) := F_g0_w16.step hb17
  have T_g0_w17 : w12.heap.size ≤ w17.heap.size := Nat.le_trans T_g0_w16 hb17.size
  have F_d1_w17 : In w17 w15.heap.size w16.heap.size (.slice (some ⟨g16, 0, none⟩) a1.length a1.length) (fl a1) := F_d1_w16.step hb17
  have T_d1_w17 : w16.heap.size ≤ w17.heap.size := Nat.le_trans T_d1_w16 hb17.size
  have B_w17 : Below w.heap.size w w17 := B_w16.trans (hb17.mono B_w16.size)
  clear F_a0_w16 F_a1_w16 F_a2_w16 F_pa2_w16 T_pa2_w16 F_r0_w16 T_r0_w16 F_x0_w16 T_x0_w16 F_x1_w16 T_x1_w16 F_x2_w16 T_x2_w16 F_px2_w16 T_px2_w16 F_g0_w16 T_g0_w16 F_d1_w16 T_d1_w16 B_w16
  clear hb17
  clear F_d1_w17 T_d1_w17
  obtain ⟨_, Z_pa2_w17, c348, _⟩ := F_pa2_w17.1.cells' (by decide)
  have Q_pa2_w17 : w17.cell? ⟨w.heap.size, 0, none⟩ = some (.slice A2 a2.length c2) := c348 0 _ rfl
  clear c348
  obtain ⟨_, Z_px2_w17, c351, _⟩ := F_px2_w17.1.cells' (by decide)
  have Q_px2_w17 : w17.cell? ⟨w10.heap.size, 0, none⟩ = some (.slice (some ⟨g10, 0, none⟩) a2.length a2.length) := c351 0 _ rfl
  clear c351
  have E_a2_w17 : Rd w17 w17.heap.size (.slice A2 a2.length c2) (fl a2) := (F_a2_w17.more B_w17.size)
  have E_x2_w17 : Rd w17 w17.heap.size (.slice (some ⟨g10, 0, none⟩) a2.length a2.length) (fl a2) := F_x2_w17.rd
  go_wp2_with fail
  go_region_held3 (fun w' => w'.cell? ⟨w.heap.size, 0, none⟩ = some (.slice A2 a2.length c2) ∧ w'.cell? ⟨w10.heap.size, 0, none⟩ = some (.slice (some ⟨g10, 0, none⟩) a2.length a2.length)) (first | exact ⟨Q_pa2_w17, Q_px2_w17⟩ | exact ⟨Q_pa2_w18, Q_px2_w18⟩ | exact ⟨Q_pa2_w19, Q_px2_w19⟩) ((first | (go_at_call 58; refine (toPair_any (.slice A2 a2.length c2) a2 _ ?_ hm2).mono ?_; exact E_a2_w17; rintro e w18 ⟨g18, rfl, P18, hb18⟩; replace hb18 : Below w17.heap.size w17 w18 := below_draw1 hb18; replace P18 : Own w18 w17.heap.size (.slice (some ⟨g18, 0, none⟩) a2.length a2.length) (fl a2) := P18; have E_a2_w18 := E_a2_w17.step hb18; have E_x2_w18 := E_x2_w17.step hb18; have Q_pa2_w18 : w18.cell? ⟨w.heap.size, 0, none⟩ = some (.slice A2 a2.length c2) := (hb18.cell (p := ⟨w.heap.size, 0, none⟩) Z_pa2_w17).trans Q_pa2_w17; have Z_pa2_w18 := Nat.lt_of_lt_of_le Z_pa2_w17 hb18.size; have Q_px2_w18 : w18.cell? ⟨w10.heap.size, 0, none⟩ = some (.slice (some ⟨g10, 0, none⟩) a2.length a2.length) := (hb18.cell (p := ⟨w10.heap.size, 0, none⟩) Z_px2_w17).trans Q_px2_w17; have Z_px2_w18 := Nat.lt_of_lt_of_le Z_px2_w17 hb18.size; have E_d2_w18 := P18.rd) | (go_at_call 61; refine (eqPair_any _ _ a2 a2 _ ?_ ?_ (Worth.refl _) hm2).mono ?_; exact E_x2_w18; exact E_d2_w18; rintro e w19 ⟨rfl, hb19⟩; have E_a2_w19 := E_a2_w18.step hb19; have E_x2_w19 := E_x2_w18.step hb19; have E_d2_w19 := E_d2_w18.step hb19; have Q_pa2_w19 : w19.cell? ⟨w.heap.size, 0, none⟩ = some (.slice A2 a2.length c2) := (hb19.cell (p := ⟨w.heap.size, 0, none⟩) Z_pa2_w18).trans Q_pa2_w18; have Z_pa2_w19 := Nat.lt_of_lt_of_le Z_pa2_w18 hb19.size; have Q_px2_w19 : w19.cell? ⟨w10.heap.size, 0, none⟩ = some (.slice (some ⟨g10, 0, none⟩) a2.length a2.length) := (hb19.cell (p := ⟨w10.heap.size, 0, none⟩) Z_px2_w18).trans Q_px2_w18; have Z_px2_w19 := Nat.lt_of_lt_of_le Z_px2_w18 hb19.size)))
  have hc20 : Below w17.heap.size w17 w19 := (hb18.trans (hb19.mono (by have := hb18.size; omega)))
  have F_a0_w19 : Rd w19 w.heap.size (.slice A0 a0.length c0) (fl a0) := F_a0_w17.below (hc20.mono B_w17.size)
  have F_a1_w19 : Rd w19 w.heap.size (.slice A1 a1.length c1) (fl a1) := F_a1_w17.below (hc20.mono B_w17.size)
  have F_a2_w19 : Rd w19 w.heap.size (.slice A2 a2.length c2) (fl a2) := F_a2_w17.below (hc20.mono B_w17.size)
  have F_pa2_w19 : In w19 w.heap.size w1.heap.size (.slice (some ⟨w.heap.size, 0, none⟩) 1 1) ([(.slice A2 a2.length c2)]) := F_pa2_w17.step hc20
  have T_pa2_w19 : w1.heap.size ≤ w19.heap.size := Nat.le_trans T_pa2_w17 hc20.size
  have F_r0_w19 : In w19 w2.heap.size w6.heap.size r0 (fl L) := F_r0_w17.step hc20
  have T_r0_w19 : w6.heap.size ≤ w19.heap.size := Nat.le_trans T_r0_w17 hc20.size
  have F_x0_w19 : In w19 w6.heap.size w8.heap.size (.slice (some ⟨g8, 0, none⟩) a0.length a0.length) (fl a0) := F_x0_w17.step hc20
  have T_x0_w19 : w8.heap.size ≤ w19.heap.size := Nat.le_trans T_x0_w17 hc20.size
  have F_x1_w19 : In w19 w8.heap.size w9.heap.size (.slice (some ⟨g9, 0, none⟩) a1.length a1.length) (fl a1) := F_x1_w17.step hc20
  have T_x1_w19 : w9.heap.size ≤ w19.heap.size := Nat.le_trans T_x1_w17 hc20.size
  have F_x2_w19 : In w19 w9.heap.size w10.heap.size (.slice (some ⟨g10, 0, none⟩) a2.length a2.length) (fl a2) := F_x2_w17.step hc20
  have T_x2_w19 : w10.heap.size ≤ w19.heap.size := Nat.le_trans T_x2_w17 hc20.size
  have F_px2_w19 : In w19 w10.heap.size w11.heap.size (.slice (some ⟨w10.heap.size, 0, none⟩) 1 1) ([(.slice (some ⟨g10, 0, none⟩) a2.length a2.length)]) := F_px2_w17.step hc20
  have T_px2_w19 : w11.heap.size ≤ w19.heap.size := Nat.le_trans T_px2_w17 hc20.size
  have F_g0_w19 : In w19 w11.heap.size w12.heap.size g0 (fl L) := F_g0_w17.step hc20
  have T_g0_w19 : w12.heap.size ≤ w19.heap.size := Nat.le_trans T_g0_w17 hc20.size
  have B_w19 : Below w.heap.size w w19 := B_w17.trans (hc20.mono B_w17.size)
  clear F_a0_w17 F_a1_w17 F_a2_w17 F_pa2_w17 T_pa2_w17 F_r0_w17 T_r0_w17 F_x0_w17 T_x0_w17 F_x1_w17 T_x1_w17 F_x2_w17 T_x2_w17 F_px2_w17 T_px2_w17 F_g0_w17 T_g0_w17 B_w17
  clear hc20
  go_wp2_with fail
  refine (markF_any _ a0 _ _ _ F_x0_w19.1 hm0 (by omega) (by omega)).mono ?_
  rintro e w21 ⟨rfl, hw21⟩
  have ht21 : Tw w6.heap.size w8.heap.size w19 w21 := by rw [hw21]; exact over_tw F_x0_w19.1 F_x0_w19.2 _
  have NF21 : In w21 w6.heap.size w8.heap.size (.slice (some ⟨g8, 0, none⟩) a0.length a0.length) ((List.range a0.length).map (mkF (1))) := by rw [hw21]; have := F_x0_w19.over (mkF (1)); rw [fl_len] at this; exact this
  clear hw21
  have F_a0_w21 : Rd w21 w.heap.size (.slice A0 a0.length c0) (fl a0) := F_a0_w19.tw ht21 S_x0 B_w19.size
  have F_a1_w21 : Rd w21 w.heap.size (.slice A1 a1.length c1) (fl a1) := F_a1_w19.tw ht21 S_x0 B_w19.size
  have F_a2_w21 : Rd w21 w.heap.size (.slice A2 a2.length c2) (fl a2) := F_a2_w19.tw ht21 S_x0 B_w19.size
  have F_pa2_w21 : In w21 w.heap.size w1.heap.size (.slice (some ⟨w.heap.size, 0, none⟩) 1 1) ([(.slice A2 a2.length c2)]) := F_pa2_w19.tw ht21 (.inl D_pa2_x0)
  have T_pa2_w21 : w1.heap.size ≤ w21.heap.size := Nat.le_trans T_pa2_w19 ht21.size
  have F_r0_w21 : In w21 w2.heap.size w6.heap.size r0 (fl L) := F_r0_w19.tw ht21 (.inl D_r0_x0)
  have T_r0_w21 : w6.heap.size ≤ w21.heap.size := Nat.le_trans T_r0_w19 ht21.size
  have F_x0_w21 : In w21 w6.heap.size w8.heap.size (.slice (some ⟨g8, 0, none⟩) a0.length a0.length) ((List.range a0.length).map (mkF (1))) := NF21
  have T_x0_w21 : w8.heap.size ≤ w21.heap.size := Nat.le_trans T_x0_w19 ht21.size
  have F_x1_w21 : In w21 w8.heap.size w9.heap.size (.slice (some ⟨g9, 0, none⟩) a1.length a1.length) (fl a1) := F_x1_w19.tw ht21 (.inr D_x0_x1)
  have T_x1_w21 : w9.heap.size ≤ w21.heap.size := Nat.le_trans T_x1_w19 ht21.size
  have F_x2_w21 : In w21 w9.heap.size w10.heap.size (.slice (some ⟨g10, 0, none⟩) a2.length a2.length) (fl a2) := F_x2_w19.tw ht21 (.inr D_x0_x2)
  have T_x2_w21 : w10.heap.size ≤ w21.heap.size := Nat.le_trans T_x2_w19 ht21.size
  have F_px2_w21 : In w21 w10.heap.size w11.heap.size (.slice (some ⟨w10.heap.size, 0, none⟩) 1 1) ([(.slice (some ⟨g10, 0, none⟩) a2.length a2.length)]) := F_px2_w19.tw ht21 (.inr D_x0_px2)
  have T_px2_w21 : w11.heap.size ≤ w21.heap.size := Nat.le_trans T_px2_w19 ht21.size
  have F_g0_w21 : In w21 w11.heap.size w12.heap.size g0 (fl L) := F_g0_w19.tw ht21 (.inr D_x0_g0)
  have T_g0_w21 : w12.heap.size ≤ w21.heap.size := Nat.le_trans T_g0_w19 ht21.size
  have B_w21 : Below w.heap.size w w21 := B_w19.trans (ht21.below S_x0 B_w19.size)
  clear F_a0_w19 F_a1_w19 F_a2_w19 F_pa2_w19 T_pa2_w19 F_r0_w19 T_r0_w19 F_x0_w19 T_x0_w19 F_x1_w19 T_x1_w19 F_x2_w19 T_x2_w19 F_px2_w19 T_px2_w19 F_g0_w19 T_g0_w19 B_w19
  clear ht21 NF21
  go_wp2_with fail
  refine (markF_any _ a1 _ _ _ F_x1_w21.1 hm1 (by omega) (by omega)).mono ?_
  rintro e w22 ⟨rfl, hw22⟩
  have ht22 : Tw w8.heap.size w9.heap.size w21 w22 := by rw [hw22]; exact over_tw F_x1_w21.1 F_x1_w21.2 _
  have NF22 : In w22 w8.heap.size w9.heap.size (.slice (some ⟨g9, 0, none⟩) a1.length a1.length) ((List.range a1.length).map (mkF (1 + a0.length))) := by rw [hw22]; have := F_x1_w21.over (mkF (1 + a0.length)); rw [fl_len] at this; exact this
  clear hw22
  have F_a0_w22 : Rd w22 w.heap.size (.slice A0 a0.length c0) (fl a0) := F_a0_w21.tw ht22 S_x1 B_w21.size
  have F_a1_w22 : Rd w22 w.heap.size (.slice A1 a1.length c1) (fl a1) := F_a1_w21.tw ht22 S_x1 B_w21.size
  have F_a2_w22 : Rd w22 w.heap.size (.slice A2 a2.length c2) (fl a2) := F_a2_w21.tw ht22 S_x1 B_w21.size
  have F_pa2_w22 : In w22 w.heap.size w1.heap.size (.slice (some ⟨w.heap.size, 0, none⟩) 1 1) ([(.slice A2 a2.length c2)]) := F_pa2_w21.tw ht22 (.inl D_pa2_x1)
  have T_pa2_w22 : w1.heap.size ≤ w22.heap.size := Nat.le_trans T_pa2_w21 ht22.size
  have F_r0_w22 : In w22 w2.heap.size w6.heap.size r0 (fl L) := F_r0_w21.tw ht22 (.inl D_r0_x1)
  have T_r0_w22 : w6.heap.size ≤ w22.heap.size := Nat.le_trans T_r0_w21 ht22.size
  have F_x0_w22 : In w22 w6.heap.size w8.heap.size (.slice (some ⟨g8, 0, none⟩) a0.length a0.length) ((List.range a0.length).map (mkF (1))) := F_x0_w21.tw ht22 (.inl D_x0_x1)
  have T_x0_w22 : w8.heap.size ≤ w22.heap.size := Nat.le_trans T_x0_w21 ht22.size
  have F_x1_w22 : In w22 w8.heap.size w9.heap.size (.slice (some ⟨g9, 0, none⟩) a1.length a1.length) ((List.range a1.length).map (mkF (1 + a0.length))) := NF22
  have T_x1_w22 : w9.heap.size ≤ w22.heap.size := Nat.le_trans T_x1_w21 ht22.size
  have F_x2_w22 : In w22 w9.heap.size w10.heap.size (.slice (some ⟨g10, 0, none⟩) a2.length a2.length) (fl a2) := F_x2_w21.tw ht22 (.inr D_x1_x2)
  have T_x2_w22 : w10.heap.size ≤ w22.heap.size := Nat.le_trans T_x2_w21 ht22.size
  have F_px2_w22 : In w22 w10.heap.size w11.heap.size (.slice (some ⟨w10.heap.size, 0, none⟩) 1 1) ([(.slice (some ⟨g10, 0, none⟩) a2.length a2.length)]) := F_px2_w21.tw ht22 (.inr D_x1_px2)
  have T_px2_w22 : w11.heap.size ≤ w22.heap.size := Nat.le_trans T_px2_w21 ht22.size
  have F_g0_w22 : In w22 w11.heap.size w12.heap.size g0 (fl L) := F_g0_w21.tw ht22 (.inr D_x1_g0)
  have T_g0_w22 : w12.heap.size ≤ w22.heap.size := Nat.le_trans T_g0_w21 ht22.size
  have B_w22 : Below w.heap.size w w22 := B_w21.trans (ht22.below S_x1 B_w21.size)
  clear F_a0_w21 F_a1_w21 F_a2_w21 F_pa2_w21 T_pa2_w21 F_r0_w21 T_r0_w21 F_x0_w21 T_x0_w21 F_x1_w21 T_x1_w21 F_x2_w21 T_x2_w21 F_px2_w21 T_px2_w21 F_g0_w21 T_g0_w21 B_w21
  clear ht22 NF22
  obtain ⟨_, Z_px2_w22, c431, _⟩ := F_px2_w22.1.cells' (by decide)
  have Q_px2_w22 : w22.cell? ⟨w10.heap.size, 0, none⟩ = some (.slice (some ⟨g10, 0, none⟩) a2.length a2.length) := c431 0 _ rfl
  clear c431
  go_wp2_with fail
  refine (markP_any _ a2 _ _ _ F_x2_w22.1 hm2 (by omega) (by omega)).mono ?_
  rintro e w24 ⟨rfl, w23, hb23, hw24⟩
  clear Z_px2_w22 Q_px2_w22
  have F_a0_w23 : Rd w23 w.heap.size (.slice A0 a0.length c0) (fl a0) := F_a0_w22.below (hb23.mono B_w22.size)
  have F_a1_w23 : Rd w23 w.heap.size (.slice A1 a1.length c1) (fl a1) := F_a1_w22.below (hb23.mono B_w22.size)
  have F_a2_w23 : Rd w23 w.heap.size (.slice A2 a2.length c2) (fl a2) := F_a2_w22.below (hb23.mono B_w22.size)
  have F_pa2_w23 : In w23 w.heap.size w1.heap.size (.slice (some ⟨w.heap.size, 0, none⟩) 1 1) ([(.slice A2 a2.length c2)]) := F_pa2_w22.step hb23
  have T_pa2_w23 : w1.heap.size ≤ w23.heap.size := Nat.le_trans T_pa2_w22 hb23.size
  have F_r0_w23 : In w23 w2.heap.size w6.heap.size r0 (fl L) := F_r0_w22.step hb23
  have T_r0_w23 : w6.heap.size ≤ w23.heap.size := Nat.le_trans T_r0_w22 hb23.size
  have F_x0_w23 : In w23 w6.heap.size w8.heap.size (.slice (some ⟨g8, 0, none⟩) a0.length a0.length) ((List.range a0.length).map (mkF (1))) := F_x0_w22.step hb23
  have T_x0_w23 : w8.heap.size ≤ w23.heap.size := Nat.le_trans T_x0_w22 hb23.size
  have F_x1_w23 : In w23 w8.heap.size w9.heap.size (.slice (some ⟨g9, 0, none⟩) a1.length a1.length) ((List.range a1.length).map (mkF (1 + a0.length))) := F_x1_w22.step hb23
  have T_x1_w23 : w9.heap.size ≤ w23.heap.size := Nat.le_trans T_x1_w22 hb23.size
  have F_x2_w23 : In w23 w9.heap.size w10.heap.size (.slice (some ⟨g10, 0, none⟩) a2.length a2.length) (fl a2) := F_x2_w22.step hb23
  have T_x2_w23 : w10.heap.size ≤ w23.heap.size := Nat.le_trans T_x2_w22 hb23.size
  have F_px2_w23 : In w23 w10.heap.size w11.heap.size (.slice (some ⟨w10.heap.size, 0, none⟩) 1 1) ([(.slice (some ⟨g10, 0, none⟩) a2.length a2.length)]) := F_px2_w22.step hb23
  have T_px2_w23 : w11.heap.size ≤ w23.heap.size := Nat.le_trans T_px2_w22 hb23.size
  have F_g0_w23 : In w23 w11.heap.size w12.heap.size g0 (fl L) := F_g0_w22.step hb23
  have T_g0_w23 : w12.heap.size ≤ w23.heap.size := Nat.le_trans T_g0_w22 hb23.size
  have B_w23 : Below w.heap.size w w23 := B_w22.trans (hb23.mono B_w22.size)
  clear F_a0_w22 F_a1_w22 F_a2_w22 F_pa2_w22 T_pa2_w22 F_r0_w22 T_r0_w22 F_x0_w22 T_x0_w22 F_x1_w22 T_x1_w22 F_x2_w22 T_x2_w22 F_px2_w22 T_px2_w22 F_g0_w22 T_g0_w22 B_w22
  clear hb23
  have ht24 : Tw w9.heap.size w10.heap.size w23 w24 := by rw [hw24]; exact over_tw F_x2_w23.1 F_x2_w23.2 _
  have NF24 : In w24 w9.heap.size w10.heap.size (.slice (some ⟨g10, 0, none⟩) a2.length a2.length) ((List.range a2.length).map (mkF (1 + a0.length + a1.length))) := by rw [hw24]; have := F_x2_w23.over (mkF (1 + a0.length + a1.length)); rw [fl_len] at this; exact this
  clear hw24
  have F_a0_w24 : Rd w24 w.heap.size (.slice A0 a0.length c0) (fl a0) := F_a0_w23.tw ht24 S_x2 B_w23.size
  have F_a1_w24 : Rd w24 w.heap.size (.slice A1 a1.length c1) (fl a1) := F_a1_w23.tw ht24 S_x2 B_w23.size
  have F_a2_w24 : Rd w24 w.heap.size (.slice A2 a2.length c2) (fl a2) := F_a2_w23.tw ht24 S_x2 B_w23.size
  have F_pa2_w24 : In w24 w.heap.size w1.heap.size (.slice (some ⟨w.heap.size, 0, none⟩) 1 1) ([(.slice A2 a2.length c2)]) := F_pa2_w23.tw ht24 (.inl D_pa2_x2)
  have T_pa2_w24 : w1.heap.size ≤ w24.heap.size := Nat.le_trans T_pa2_w23 ht24.size
  have F_r0_w24 : In w24 w2.heap.size w6.heap.size r0 (fl L) := F_r0_w23.tw ht24 (.inl D_r0_x2)
  have T_r0_w24 : w6.heap.size ≤ w24.heap.size := Nat.le_trans T_r0_w23 ht24.size
  have F_x0_w24 : In w24 w6.heap.size w8.heap.size (.slice (some ⟨g8, 0, none⟩) a0.length a0.length) ((List.range a0.length).map (mkF (1))) := F_x0_w23.tw ht24 (.inl D_x0_x2)
  have T_x0_w24 : w8.heap.size ≤ w24.heap.size := Nat.le_trans T_x0_w23 ht24.size
  have F_x1_w24 : In w24 w8.heap.size w9.heap.size (.slice (some ⟨g9, 0, none⟩) a1.length a1.length) ((List.range a1.length).map (mkF (1 + a0.length))) := F_x1_w23.tw ht24 (.inl D_x1_x2)
  have T_x1_w24 : w9.heap.size ≤ w24.heap.size := Nat.le_trans T_x1_w23 ht24.size
  have F_x2_w24 : In w24 w9.heap.size w10.heap.size (.slice (some ⟨g10, 0, none⟩) a2.length a2.length) ((List.range a2.length).map (mkF (1 + a0.length + a1.length))) := NF24
  have T_x2_w24 : w10.heap.size ≤ w24.heap.size := Nat.le_trans T_x2_w23 ht24.size
  have F_px2_w24 : In w24 w10.heap.size w11.heap.size (.slice (some ⟨w10.heap.size, 0, none⟩) 1 1) ([(.slice (some ⟨g10, 0, none⟩) a2.length a2.length)]) := F_px2_w23.tw ht24 (.inr D_x2_px2)
  have T_px2_w24 : w11.heap.size ≤ w24.heap.size := Nat.le_trans T_px2_w23 ht24.size
  have F_g0_w24 : In w24 w11.heap.size w12.heap.size g0 (fl L) := F_g0_w23.tw ht24 (.inr D_x2_g0)
  have T_g0_w24 : w12.heap.size ≤ w24.heap.size := Nat.le_trans T_g0_w23 ht24.size
  have B_w24 : Below w.heap.size w w24 := B_w23.trans (ht24.below S_x2 B_w23.size)
  clear F_a0_w23 F_a1_w23 F_a2_w23 F_pa2_w23 T_pa2_w23 F_r0_w23 T_r0_w23 F_x0_w23 T_x0_w23 F_x1_w23 T_x1_w23 F_x2_w23 T_x2_w23 F_px2_w23 T_px2_w23 F_g0_w23 T_g0_w23 B_w23
  clear ht24 NF24
  go_wp2_with fail
  refine (eqF_any _ _ L L _ _ F_g0_w24.rd F_r0_w24.rd (Worth.refl _) hL).mono ?_
  rintro e w25 ⟨rfl, q25, hw25⟩
  have hb25 : Below w24.heap.size w24 w25 := by rw [hw25]; exact below_drawn (Below.refl _ _) _
  clear hw25
  have F_a0_w25 : Rd w25 w.heap.size (.slice A0 a0.length c0) (fl a0) := F_a0_w24.below (hb25.mono B_w24.size)
  have F_a1_w25 : Rd w25 w.heap.size (.slice A1 a1.length c1) (fl a1) := F_a1_w24.below (hb25.mono B_w24.size)
  have F_a2_w25 : Rd w25 w.heap.size (.slice A2 a2.length c2) (fl a2) := F_a2_w24.below (hb25.mono B_w24.size)
  have F_pa2_w25 : In w25 w.heap.size w1.heap.size (.slice (some ⟨w.heap.size, 0, none⟩) 1 1) ([(.slice A2 a2.length c2)]) := F_pa2_w24.step hb25
  have T_pa2_w25 : w1.heap.size ≤ w25.heap.size := Nat.le_trans T_pa2_w24 hb25.size
  have F_r0_w25 : In w25 w2.heap.size w6.heap.size r0 (fl L) := F_r0_w24.step hb25
  have T_r0_w25 : w6.heap.size ≤ w25.heap.size := Nat.le_trans T_r0_w24 hb25.size
  have F_x0_w25 : In w25 w6.heap.size w8.heap.size (.slice (some ⟨g8, 0, none⟩) a0.length a0.length) ((List.range a0.length).map (mkF (1))) := F_x0_w24.step hb25
  have T_x0_w25 : w8.heap.size ≤ w25.heap.size := Nat.le_trans T_x0_w24 hb25.size
  have F_x1_w25 : In w25 w8.heap.size w9.heap.size (.slice (some ⟨g9, 0, none⟩) a1.length a1.length) ((List.range a1.length).map (mkF (1 + a0.length))) := F_x1_w24.step hb25
  have T_x1_w25 : w9.heap.size ≤ w25.heap.size := Nat.le_trans T_x1_w24 hb25.size
  have F_x2_w25 : In w25 w9.heap.size w10.heap.size (.slice (some ⟨g10, 0, none⟩) a2.length a2.length) ((List.range a2.length).map (mkF (1 + a0.length + a1.length))) := F_x2_w24.step hb25
  have T_x2_w25 : w10.heap.size ≤ w25.heap.size := Nat.le_trans T_x2_w24 hb25.size
  have F_px2_w25 : In w25 w10.heap.size w11.heap.size (.slice (some ⟨w10.heap.size, 0, none⟩) 1 1) ([(.slice (some ⟨g10, 0, none⟩) a2.length a2.length)]) := F_px2_w24.step hb25
  have T_px2_w25 : w11.heap.size ≤ w25.heap.size := Nat.le_trans T_px2_w24 hb25.size
  have F_g0_w25 : In w25 w11.heap.size w12.heap.size g0 (fl L) := F_g0_w24.step hb25
  have T_g0_w25 : w12.heap.size ≤ w25.heap.size := Nat.le_trans T_g0_w24 hb25.size
  have B_w25 : Below w.heap.size w w25 := B_w24.trans (hb25.mono B_w24.size)
  clear F_a0_w24 F_a1_w24 F_a2_w24 F_pa2_w24 T_pa2_w24 F_r0_w24 T_r0_w24 F_x0_w24 T_x0_w24 F_x1_w24 T_x1_w24 F_x2_w24 T_x2_w24 F_px2_w24 T_px2_w24 F_g0_w24 T_g0_w24 B_w24
  clear hb25
  clear F_x0_w25 T_x0_w25 F_x1_w25 T_x1_w25 F_x2_w25 T_x2_w25 F_px2_w25 T_px2_w25
  go_wp2_with fail
  refine (markF_any _ L _ _ _ F_g0_w25.1 hL (by omega) (by omega)).mono ?_
  rintro e w26 ⟨rfl, hw26⟩
  have ht26 : Tw w11.heap.size w12.heap.size w25 w26 := by rw [hw26]; exact over_tw F_g0_w25.1 F_g0_w25.2 _
  have NF26 : In w26 w11.heap.size w12.heap.size g0 ((List.range L.length).map (mkF (1))) := by rw [hw26]; have := F_g0_w25.over (mkF (1)); rw [fl_len] at this; exact this
  clear hw26
  have F_a0_w26 : Rd w26 w.heap.size (.slice A0 a0.length c0) (fl a0) := F_a0_w25.tw ht26 S_g0 B_w25.size
  have F_a1_w26 : Rd w26 w.heap.size (.slice A1 a1.length c1) (fl a1) := F_a1_w25.tw ht26 S_g0 B_w25.size
  have F_a2_w26 : Rd w26 w.heap.size (.slice A2 a2.length c2) (fl a2) := F_a2_w25.tw ht26 S_g0 B_w25.size
  have F_pa2_w26 : In w26 w.heap.size w1.heap.size (.slice (some ⟨w.heap.size, 0, none⟩) 1 1) ([(.slice A2 a2.length c2)]) := F_pa2_w25.tw ht26 (.inl D_pa2_g0)
  have T_pa2_w26 : w1.heap.size ≤ w26.heap.size := Nat.le_trans T_pa2_w25 ht26.size
  have F_r0_w26 : In w26 w2.heap.size w6.heap.size r0 (fl L) := F_r0_w25.tw ht26 (.inl D_r0_g0)
  have T_r0_w26 : w6.heap.size ≤ w26.heap.size := Nat.le_trans T_r0_w25 ht26.size
  have F_g0_w26 : In w26 w11.heap.size w12.heap.size g0 ((List.range L.length).map (mkF (1))) := NF26
  have T_g0_w26 : w12.heap.size ≤ w26.heap.size := Nat.le_trans T_g0_w25 ht26.size
  have B_w26 : Below w.heap.size w w26 := B_w25.trans (ht26.below S_g0 B_w25.size)
  clear F_a0_w25 F_a1_w25 F_a2_w25 F_pa2_w25 T_pa2_w25 F_r0_w25 T_r0_w25 F_g0_w25 T_g0_w25 B_w25
  clear ht26 NF26
  go_wp2_with fail
  refine (heldF_any _ L.length _ _ _ F_g0_w26.rd hL (by omega) (by omega)).mono ?_
  rintro e w' ⟨rfl, rfl⟩
  obtain ⟨_, Z_pa2_w26, c528, _⟩ := F_pa2_w26.1.cells' (by decide)
  have Q_pa2_w26 : w26.cell? ⟨w.heap.size, 0, none⟩ = some (.slice A2 a2.length c2) := c528 0 _ rfl
  clear c528
  have E_a0_w26 : Rd w26 w26.heap.size (.slice A0 a0.length c0) (fl a0) := (F_a0_w26.more B_w26.size)
  have E_a1_w26 : Rd w26 w26.heap.size (.slice A1 a1.length c1) (fl a1) := (F_a1_w26.more B_w26.size)
  have E_a2_w26 : Rd w26 w26.heap.size (.slice A2 a2.length c2) (fl a2) := (F_a2_w26.more B_w26.size)
  go_wp2_with fail
  go_region_held3 (fun w' => w'.cell? ⟨w.heap.size, 0, none⟩ = some (.slice A2 a2.length c2)) (first | exact Q_pa2_w26 | exact Q_pa2_w27 | exact Q_pa2_w28 | exact Q_pa2_w29 | exact Q_pa2_w30) ((first | (go_at_call_of 57 A0; refine (toFP_any (.slice A0 a0.length c0) a0 _ ?_ hm0).mono ?_; exact E_a0_w26; rintro e w27 ⟨g27, rfl, P27, hb27⟩; replace hb27 : Below w26.heap.size w26 w27 := below_draw1 hb27; replace P27 : Own w27 w26.heap.size (.slice (some ⟨g27, 0, none⟩) a0.length a0.length) (fl a0) := P27; have E_a0_w27 := E_a0_w26.step hb27; have E_a1_w27 := E_a1_w26.step hb27; have E_a2_w27 := E_a2_w26.step hb27; have Q_pa2_w27 : w27.cell? ⟨w.heap.size, 0, none⟩ = some (.slice A2 a2.length c2) := (hb27.cell (p := ⟨w.heap.size, 0, none⟩) Z_pa2_w26).trans Q_pa2_w26; have Z_pa2_w27 := Nat.lt_of_lt_of_le Z_pa2_w26 hb27.size; have E_y0_w27 := P27.rd) | (go_at_call_of 57 A1; refine (toFP_any (.slice A1 a1.length c1) a1 _ ?_ hm1).mono ?_; exact E_a1_w27; rintro e w28 ⟨g28, rfl, P28, hb28⟩; have E_a0_w28 := E_a0_w27.step hb28; have E_a1_w28 := E_a1_w27.step hb28; have E_a2_w28 := E_a2_w27.step hb28; have E_y0_w28 := E_y0_w27.step hb28; have Q_pa2_w28 : w28.cell? ⟨w.heap.size, 0, none⟩ = some (.slice A2 a2.length c2) := (hb28.cell (p := ⟨w.heap.size, 0, none⟩) Z_pa2_w27).trans Q_pa2_w27; have Z_pa2_w28 := Nat.lt_of_lt_of_le Z_pa2_w27 hb28.size; have E_y1_w28 := P28.rd) | (go_at_call 58; refine (toPair_any (.slice A2 a2.length c2) a2 _ ?_ hm2).mono ?_; exact E_a2_w28; rintro e w29 ⟨g29, rfl, P29, hb29⟩; have E_a0_w29 := E_a0_w28.step hb29; have E_a1_w29 := E_a1_w28.step hb29; have E_a2_w29 := E_a2_w28.step hb29; have E_y0_w29 := E_y0_w28.step hb29; have E_y1_w29 := E_y1_w28.step hb29; have Q_pa2_w29 : w29.cell? ⟨w.heap.size, 0, none⟩ = some (.slice A2 a2.length c2) := (hb29.cell (p := ⟨w.heap.size, 0, none⟩) Z_pa2_w28).trans Q_pa2_w28; have Z_pa2_w29 := Nat.lt_of_lt_of_le Z_pa2_w28 hb29.size; have E_y2_w29 := P29.rd) | (go_at_call 59; refine (HI.out _ _ _ _ ?_ ?_ ?_).mono ?_; exact E_y0_w29; exact E_y1_w29; exact E_y2_w29; rintro e w30 ⟨h0, rfl, O30x, hb30⟩; have E_a0_w30 := E_a0_w29.step hb30; have E_a1_w30 := E_a1_w29.step hb30; have E_a2_w30 := E_a2_w29.step hb30; have E_y0_w30 := E_y0_w29.step hb30; have E_y1_w30 := E_y1_w29.step hb30; have E_y2_w30 := E_y2_w29.step hb30; have Q_pa2_w30 : w30.cell? ⟨w.heap.size, 0, none⟩ = some (.slice A2 a2.length c2) := (hb30.cell (p := ⟨w.heap.size, 0, none⟩) Z_pa2_w29).trans Q_pa2_w29; have Z_pa2_w30 := Nat.lt_of_lt_of_le Z_pa2_w29 hb30.size)))
  have hc31 : Below w26.heap.size w26 w30 := (((hb27.trans (hb28.mono (by have := hb27.size; omega))).trans (hb29.mono (by have := hb27.size; have := hb28.size; omega))).trans (hb30.mono (by have := hb27.size; have := hb28.size; have := hb29.size; omega)))
  have O30x' := O30x.less (lo' := w26.heap.size) (by have := hb27.size; have := hb28.size; have := hb29.size; omega)
  have F_a0_w30 : Rd w30 w.heap.size (.slice A0 a0.length c0) (fl a0) := F_a0_w26.below (hc31.mono B_w26.size)
  have F_a1_w30 : Rd w30 w.heap.size (.slice A1 a1.length c1) (fl a1) := F_a1_w26.below (hc31.mono B_w26.size)
  have F_a2_w30 : Rd w30 w.heap.size (.slice A2 a2.length c2) (fl a2) := F_a2_w26.below (hc31.mono B_w26.size)
  have F_pa2_w30 : In w30 w.heap.size w1.heap.size (.slice (some ⟨w.heap.size, 0, none⟩) 1 1) ([(.slice A2 a2.length c2)]) := F_pa2_w26.step hc31
  have T_pa2_w30 : w1.heap.size ≤ w30.heap.size := Nat.le_trans T_pa2_w26 hc31.size
  have F_r0_w30 : In w30 w2.heap.size w6.heap.size r0 (fl L) := F_r0_w26.step hc31
  have T_r0_w30 : w6.heap.size ≤ w30.heap.size := Nat.le_trans T_r0_w26 hc31.size
  have F_g0_w30 : In w30 w11.heap.size w12.heap.size g0 ((List.range L.length).map (mkF (1))) := F_g0_w26.step hc31
  have T_g0_w30 : w12.heap.size ≤ w30.heap.size := Nat.le_trans T_g0_w26 hc31.size
  have B_w30 : Below w.heap.size w w30 := B_w26.trans (hc31.mono B_w26.size)
  have S_h0 : w.heap.size ≤ w26.heap.size := B_w26.size
  have D_pa2_h0 : w1.heap.size ≤ w26.heap.size := T_pa2_w26
  have D_r0_h0 : w6.heap.size ≤ w26.heap.size := T_r0_w26
  have D_g0_h0 : w12.heap.size ≤ w26.heap.size := T_g0_w26
  clear F_a0_w26 F_a1_w26 F_a2_w26 F_pa2_w26 T_pa2_w26 F_r0_w26 T_r0_w26 F_g0_w26 T_g0_w26 B_w26
  have F_h0_w30 : In w30 w26.heap.size w30.heap.size h0 (fl L) := In.made O30x'
  have T_h0_w30 : w30.heap.size ≤ w30.heap.size := Nat.le_refl _
  clear O30x'
  clear hc31
  go_wp2_with fail
  refine (eqF_any _ _ L L _ _ F_h0_w30.rd F_r0_w30.rd (Worth.refl _) hL).mono ?_
  rintro e w32 ⟨rfl, q32, hw32⟩
  have hb32 : Below w30.heap.size w30 w32 := by rw [hw32]; exact below_drawn (Below.refl _ _) _
  clear hw32
  have F_a0_w32 : Rd w32 w.heap.size (.slice A0 a0.length c0) (fl a0) := F_a0_w30.below (hb32.mono B_w30.size)
  have F_a1_w32 : Rd w32 w.heap.size (.slice A1 a1.length c1) (fl a1) := F_a1_w30.below (hb32.mono B_w30.size)
  have F_a2_w32 : Rd w32 w.heap.size (.slice A2 a2.length c2) (fl a2) := F_a2_w30.below (hb32.mono B_w30.size)
  have F_pa2_w32 : In w32 w.heap.size w1.heap.size (.slice (some ⟨w.heap.size, 0, none⟩) 1 1) ([(.slice A2 a2.length c2)]) := F_pa2_w30.step hb32
  have T_pa2_w32 : w1.heap.size ≤ w32.heap.size := Nat.le_trans T_pa2_w30 hb32.size
  have F_r0_w32 : In w32 w2.heap.size w6.heap.size r0 (fl L) := F_r0_w30.step hb32
  have T_r0_w32 : w6.heap.size ≤ w32.heap.size := Nat.le_trans T_r0_w30 hb32.size
  have F_g0_w32 : In w32 w11.heap.size w12.heap.size g0 ((List.range L.length).map (mkF (1))) := F_g0_w30.step hb32
  have T_g0_w32 : w12.heap.size ≤ w32.heap.size := Nat.le_trans T_g0_w30 hb32.size
  have F_h0_w32 : In w32 w26.heap.size w30.heap.size h0 (fl L) := F_h0_w30.step hb32
  have T_h0_w32 : w30.heap.size ≤ w32.heap.size := Nat.le_trans T_h0_w30 hb32.size
  have B_w32 : Below w.heap.size w w32 := B_w30.trans (hb32.mono B_w30.size)
  clear F_a0_w30 F_a1_w30 F_a2_w30 F_pa2_w30 T_pa2_w30 F_r0_w30 T_r0_w30 F_g0_w30 T_g0_w30 F_h0_w30 T_h0_w30 B_w30
  clear hb32
  go_wp2_with fail
  refine (heldF_any _ L.length _ _ _ F_g0_w32.rd hL (by omega) (by omega)).mono ?_
  rintro e w' ⟨rfl, rfl⟩
  go_wp2_with fail
  go_ret
  exact ⟨rfl, B_w32⟩

namespace fnExactJoinRing
open Go.ChangeShapes Go.WideShapes Go.ChangeAt Go.RowKit
open Go.ChangeMaps (open_string)
set_option linter.unusedVariables false
theorem own : ownKnob Try.prog.godebug = none := by kernel_rfl
theorem laidOut : laidOutB Try.prog = true := by kernel_rfl
set_option maxRecDepth 100000 in
theorem lifted (os : Os) (started : os.Started) (H : Type) (enc : TypeId × Value → H) :
    ReturnsInHanded {} Try.checked os 12 .any (Rows.fnExactJoinRingSpec.pre6 enc Try.prog Try.f12 Rows.fnExactJoinRingRow.domain false) (Rows.fnExactJoinRingSpec.post enc Try.prog Try.f12 false true false false) := by
  refine returnsInHanded_of_change (C := Try.checked) own started (by kernel_rfl) Try.func12
    (ChangeSpec.witness6 (enc := enc) (C := Try.checked) false ⟨#[], #[.slice none 0 0, .slice none 0 0, .agg #[.slice none 0 0]], []⟩ 8 (by kernel_rfl) (by kernel_rfl) (by kernel_rfl) (by kernel_rfl)) ?_
  intro W base args ds gs before hval0 hW hcnd _
  have hval : ∀ (j : Nat) t v, Try.f12.params[j]? = some t → args[j]? = some v → Value.okWide Try.prog W .any base t v := hval0
  have hW' := hW
  have hlt0 := hW.lt
  obtain ⟨p, q, hA0, hV, rfl, hfz, hnd⟩ := hW
  have hA : DataW.TrodAll enc Try.prog W 0 (fun _ => true) true Try.f12.params.toList args.toList ds p := hA0
  have hAk := hA
  have hltp : ∀ x ∈ p, x.block < W.heap.size := fun x hx => hlt0 x (List.mem_append_left _ hx)
  have hread : ∀ t ∈ Try.f12.params.toList, Try.prog.readableRec t = true ∧ t < Try.prog.types.size := by
    rw [Try.params12]
    intro t ht
    simp only [List.mem_cons, List.not_mem_nil, or_false] at ht
    rcases ht with rfl | rfl | rfl <;> exact ⟨by kernel_rfl, of_decide_eq_true (by kernel_rfl)⟩
  rw [Try.params12] at hA hval
  obtain ⟨v0, vs0, d0, ds0, p0, q0, hargs, rfl, rfl, h0, r0⟩ := trodAll_cons hA
  obtain ⟨v1, vs1, d1, ds1, p1, q1, rfl, rfl, rfl, h1, r1⟩ := trodAll_cons r0
  obtain ⟨v2, vs2, d2, ds2, p2, q2, rfl, rfl, rfl, h2, r2⟩ := trodAll_cons r1
  obtain ⟨rfl, rfl, rfl⟩ := trodAll_nil r2
  obtain rfl : args = #[v0, v1, v2] := by cases args; simp_all
  obtain ⟨rfl, rfl⟩ := trodVars_none hV
  obtain ⟨a0, g0, w0⟩ := open_floats Try.underlying22 Try.underlying23 (by kernel_rfl) (hval 0 22 v0 rfl rfl) h0 (fun x hx => hltp x (by simp [hx]))
  obtain ⟨a1, g1, w1⟩ := open_floats Try.underlying22 Try.underlying23 (by kernel_rfl) (hval 1 22 v1 rfl rfl) h1 (fun x hx => hltp x (by simp [hx]))
  obtain ⟨b2, a2, rfl, g2, w2⟩ := open_pair Try.underlying86 (by kernel_rfl) (by kernel_rfl) Try.underlying22 Try.underlying23 (by kernel_rfl) (hval 2 86 v2 rfl rfl) h2 (fun x hx => hltp x (by simp [hx]))
  clear hA0 hval0
  refine (walk W v0 a0 g0 w0 v1 a1 g1 w1 b2 a2 g2 w2).mono fun e W' ⟨he, hg⟩ => ?_
  subst he
  exact ⟨_, rfl, post_grown (pv := []) hW' hg (fun _ _ _ => (trodAll_cons_mk (shut_bool Try.underlying4 _) trodAll_mk0)) (trodAll_low laidOut hg _ _ _ _ hread hltp hAk) rfl rfl⟩

theorem over : Rows.fnExactJoinRingRow.holds Try.pinned (OpenSpec.ofChange Rows.fnExactJoinRingSpec) :=
  OpenClaim.holds_of_wide 12 Try.f12 rfl rfl rfl rfl rfl rfl rfl ⟨rfl, rfl, rfl, rfl, rfl⟩ rfl rfl rfl rfl rfl (by kernel_rfl) Try.func12 (by kernel_rfl)
    (of_decide_eq_true (by kernel_rfl)) (by unfold Func.isWrapper; first | (rw [if_pos (by decide +kernel)]; kernel_rfl) | (rw [if_neg (by decide +kernel)]; exact ⟨rfl, rfl⟩))
    (fun os started H enc _ => lifted os started H enc)

theorem proved : Rows.FnExactJoinRingSaid := over
end fnExactJoinRing
end Go.Proofs.Ythkklilfignmpaa
