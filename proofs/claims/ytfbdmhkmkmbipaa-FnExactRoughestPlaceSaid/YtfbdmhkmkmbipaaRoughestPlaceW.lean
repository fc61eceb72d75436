/-
  The walk of the law of RoughestPlace.
-/
import Derived.Test.YtfbdmhkmkmbipaaRows
import Derived.ProofKit
import Derived.OpenShut
import Derived.WalkLawsBesides
import Derived.KernelRfl
import Derived.Test.YtfbdmhkmkmbipaaPiL
import Derived.Test.YtfbdmhkmkmbipaaRghI
import Derived.Test.YtfbdmhkmkmbipaaRghS
namespace Go.Proofs.Ytfbdmhkmkmbipaa
open Go.RowKit Fl
set_option linter.unusedVariables false
set_option maxRecDepth 100000 in
set_option maxHeartbeats 8000000 in
theorem fnExactRoughestPlace.walk (w : World) (v0 : Value) (p0 q0 : Int) (a0 : List Nat) (y0 : (Lit.int .i64 p0).wf = true) (z0 : (Lit.int .i64 q0).wf = true) (h0 : Rd w w.heap.size v0 (a0.map (.float .f32))) (w0 : ∀ x ∈ a0, x < 2 ^ 32) (a1 : Int) (w1 : (Lit.int .i64 a1).wf = true) :
    Calls Try.prog 14 #[.agg #[.int .i64 p0, .int .i64 q0, v0], .int .i64 a1] w fun e w' => e = .returned (.bool true) ∧ Below w.heap.size w w' := by
  have hle0 : a0.length ≤ 9223372036854775807 := by
    have := h0.le
    rw [show (a0.map (.float .f32)) = fl a0 from rfl, fl_len] at this
    unfold maxLen at this
    omega
  replace h0 : Rd w w.heap.size v0 (fl a0) := h0
  obtain ⟨A0, c0, hv0, hc01, hc02, hcell0⟩ := id h0
  rw [fl_len] at hv0
  clear hcell0 hc01 hc02
  subst hv0
  have HX0 := Lib.hid w0
  clear w0
  obtain ⟨X, hXe⟩ : ∃ x, x = rpX p0 q0 a0 a1 := ⟨_, rfl⟩
  obtain ⟨Y, hYe⟩ : ∃ x, x = rpY p0 q0 a0 a1 := ⟨_, rfl⟩
  obtain ⟨c, hce⟩ : ∃ x, x = rpC p0 q0 a0 a1 := ⟨_, rfl⟩
  obtain ⟨b, hbe⟩ : ∃ x, x = rpB p0 q0 a0 a1 := ⟨_, rfl⟩
  have HS0 := Lib.hid (fun (hm0 : a0.length ≤ 1048576) (w' : World) (u0 : Value) (hr0 : Rd w' w'.heap.size u0 (fl a0)) => (show Calls Try.prog 53 #[.agg #[.int .i64 p0, .int .i64 q0, u0], .int .i64 a1] w' (RetQ4 X Y c b w') by rw [hXe, hYe, hce, hbe]; exact rghS_any u0 p0 q0 a0 a1 w' hr0 hm0 HX0.out))
  have HI0 := Lib.hid (fun (hm0 : a0.length ≤ 1048576) (w' : World) (u0 : Value) (hr0 : Rd w' w'.heap.size u0 (fl a0)) => (show Calls Try.prog 54 #[.agg #[.int .i64 p0, .int .i64 q0, u0], .int .i64 a1] w' (RetQ4 X Y c b w') by rw [hXe, hYe, hce, hbe]; exact rghI_any u0 p0 q0 a0 a1 w' hr0 hm0 HX0.out))
  clear hXe hYe hce hbe
  have hsf : ∀ (a : Addr) (x : Nat) (w : World), (store a (.float .f32 x)).run Try.prog w = stored Try.prog w a (.float .f32 x) .plain := fun a x w => run_store _ w a _ _ rfl
  go_enter Try.func14, Try.ntmps14
  have F_a0_w : Rd w w.heap.size (.slice A0 a0.length c0) (fl a0) := h0
  have B_w : Below w.heap.size w w := Below.refl _ _
  clear h0
  go_wp2_with fail
  have hb1 : Below w.heap.size w (w.alloc (.cells #[.int .i64 p0, .int .i64 q0, (.slice A0 a0.length c0)] 48)) := (Below.refl _ _).alloc (Nat.le_refl _) _
  have O1 := own_box3 w (.int .i64 p0) (.int .i64 q0) ((.slice A0 a0.length c0)) 48
  generalize w.alloc (.cells #[.int .i64 p0, .int .i64 q0, (.slice A0 a0.length c0)] 48) = w1 at *
  have F_a0_w1 : Rd w1 w.heap.size (.slice A0 a0.length c0) (fl a0) := F_a0_w.below (hb1.mono B_w.size)
  have B_w1 : Below w.heap.size w w1 := B_w.trans (hb1.mono B_w.size)
  have S_pa0 : w.heap.size ≤ w.heap.size := B_w.size
  clear F_a0_w B_w
  have F_pa0_w1 : In w1 w.heap.size w1.heap.size (.slice (some ⟨w.heap.size, 0, none⟩) 3 3) ([.int .i64 p0, .int .i64 q0, (.slice A0 a0.length c0)]) := In.made O1
  have T_pa0_w1 : w1.heap.size ≤ w1.heap.size := Nat.le_refl _
  clear O1
  clear hb1
  refine (szPic_any _ p0 q0 a0 (1048576) _ (F_a0_w1.more B_w1.size) (by omega) (by omega) hle0).mono ?_
  rintro e w2 ⟨rfl, hb2⟩
  have F_a0_w2 : Rd w2 w.heap.size (.slice A0 a0.length c0) (fl a0) := F_a0_w1.below (hb2.mono B_w1.size)
  have F_pa0_w2 : In w2 w.heap.size w1.heap.size (.slice (some ⟨w.heap.size, 0, none⟩) 3 3) ([.int .i64 p0, .int .i64 q0, (.slice A0 a0.length c0)]) := F_pa0_w1.step hb2
  have T_pa0_w2 : w1.heap.size ≤ w2.heap.size := Nat.le_trans T_pa0_w1 hb2.size
  have B_w2 : Below w.heap.size w w2 := B_w1.trans (hb2.mono B_w1.size)
  clear F_a0_w1 F_pa0_w1 T_pa0_w1 B_w1
  clear hb2
  by_cases hbig0 : (1048576 : Int) < a0.length
  · rw [if_pos hbig0]
    go_wp2_with fail
    go_ret
    exact ⟨rfl, B_w2⟩
  rw [if_neg hbig0]
  have hm0 : a0.length ≤ 1048576 := by omega
  have hl0 : 0 ≤ (1048576 : Int) - a0.length := by omega
  clear hbig0
  have HS := Lib.hid (HS0.out hm0)
  have HI := Lib.hid (HI0.out hm0)
  clear HS0 HI0
  obtain ⟨_, Z_pa0_w2, c36, _⟩ := F_pa0_w2.1.cells' (by decide)
  have Q_pa00_w2 : w2.cell? ⟨w.heap.size, 0, none⟩ = some (.int .i64 p0) := c36 0 _ rfl
  have Q_pa01_w2 : w2.cell? ⟨w.heap.size, 1, none⟩ = some (.int .i64 q0) := c36 1 _ rfl
  have Q_pa02_w2 : w2.cell? ⟨w.heap.size, 2, none⟩ = some ((.slice A0 a0.length c0)) := c36 2 _ rfl
  clear c36
  go_wp2_with fail
  clear Z_pa0_w2 Q_pa00_w2 Q_pa01_w2 Q_pa02_w2
  refine (toPic_any _ p0 q0 a0 _ (F_a0_w2.more B_w2.size) hm0).mono ?_
  rintro e w3 ⟨g3, rfl, O3, hb3⟩
  have F_a0_w3 : Rd w3 w.heap.size (.slice A0 a0.length c0) (fl a0) := F_a0_w2.below (hb3.mono B_w2.size)
  have F_pa0_w3 : In w3 w.heap.size w1.heap.size (.slice (some ⟨w.heap.size, 0, none⟩) 3 3) ([.int .i64 p0, .int .i64 q0, (.slice A0 a0.length c0)]) := F_pa0_w2.step hb3
  have T_pa0_w3 : w1.heap.size ≤ w3.heap.size := Nat.le_trans T_pa0_w2 hb3.size
  have B_w3 : Below w.heap.size w w3 := B_w2.trans (hb3.mono B_w2.size)
  have S_c0 : w.heap.size ≤ w2.heap.size := B_w2.size
  have D_pa0_c0 : w1.heap.size ≤ w2.heap.size := T_pa0_w2
  clear F_a0_w2 F_pa0_w2 T_pa0_w2 B_w2
  have F_c0_w3 : In w3 w2.heap.size w3.heap.size (.slice (some ⟨g3, 0, none⟩) a0.length a0.length) (fl a0) := In.made O3
  have T_c0_w3 : w3.heap.size ≤ w3.heap.size := Nat.le_refl _
  clear O3
  clear hb3
  go_wp2_with fail
  refine (HS.out _ _ F_c0_w3.rd).mono ?_
  rintro e w4 ⟨rfl, hb4⟩
  have F_a0_w4 : Rd w4 w.heap.size (.slice A0 a0.length c0) (fl a0) := F_a0_w3.below (hb4.mono B_w3.size)
  have F_pa0_w4 : In w4 w.heap.size w1.heap.size (.slice (some ⟨w.heap.size, 0, none⟩) 3 3) ([.int .i64 p0, .int .i64 q0, (.slice A0 a0.length c0)]) := F_pa0_w3.step hb4
  have T_pa0_w4 : w1.heap.size ≤ w4.heap.size := Nat.le_trans T_pa0_w3 hb4.size
  have F_c0_w4 : In w4 w2.heap.size w3.heap.size (.slice (some ⟨g3, 0, none⟩) a0.length a0.length) (fl a0) := F_c0_w3.step hb4
  have T_c0_w4 : w3.heap.size ≤ w4.heap.size := Nat.le_trans T_c0_w3 hb4.size
  have B_w4 : Below w.heap.size w w4 := B_w3.trans (hb4.mono B_w3.size)
  clear F_a0_w3 F_pa0_w3 T_pa0_w3 F_c0_w3 T_c0_w3 B_w3
  clear hb4
  clear F_c0_w4 T_c0_w4
  obtain ⟨_, Z_pa0_w4, c68, _⟩ := F_pa0_w4.1.cells' (by decide)
  have Q_pa00_w4 : w4.cell? ⟨w.heap.size, 0, none⟩ = some (.int .i64 p0) := c68 0 _ rfl
  have Q_pa01_w4 : w4.cell? ⟨w.heap.size, 1, none⟩ = some (.int .i64 q0) := c68 1 _ rfl
  have Q_pa02_w4 : w4.cell? ⟨w.heap.size, 2, none⟩ = some ((.slice A0 a0.length c0)) := c68 2 _ rfl
  clear c68
  go_wp2_with fail
  clear Z_pa0_w4 Q_pa00_w4 Q_pa01_w4 Q_pa02_w4
  refine (toPic_any _ p0 q0 a0 _ (F_a0_w4.more B_w4.size) hm0).mono ?_
  rintro e w5 ⟨g5, rfl, O5, hb5⟩
  have F_a0_w5 : Rd w5 w.heap.size (.slice A0 a0.length c0) (fl a0) := F_a0_w4.below (hb5.mono B_w4.size)
  have F_pa0_w5 : In w5 w.heap.size w1.heap.size (.slice (some ⟨w.heap.size, 0, none⟩) 3 3) ([.int .i64 p0, .int .i64 q0, (.slice A0 a0.length c0)]) := F_pa0_w4.step hb5
  have T_pa0_w5 : w1.heap.size ≤ w5.heap.size := Nat.le_trans T_pa0_w4 hb5.size
  have B_w5 : Below w.heap.size w w5 := B_w4.trans (hb5.mono B_w4.size)
  have S_x0 : w.heap.size ≤ w4.heap.size := B_w4.size
  have D_pa0_x0 : w1.heap.size ≤ w4.heap.size := T_pa0_w4
  clear F_a0_w4 F_pa0_w4 T_pa0_w4 B_w4
  have F_x0_w5 : In w5 w4.heap.size w5.heap.size (.slice (some ⟨g5, 0, none⟩) a0.length a0.length) (fl a0) := In.made O5
  have T_x0_w5 : w5.heap.size ≤ w5.heap.size := Nat.le_refl _
  clear O5
  clear hb5
  go_wp2_with fail
  have hb6 : Below w5.heap.size w5 (w5.alloc (.cells #[.int .i64 p0, .int .i64 q0, (.slice (some ⟨g5, 0, none⟩) a0.length a0.length)] 50)) := (Below.refl _ _).alloc (Nat.le_refl _) _
  have O6 := own_box3 w5 (.int .i64 p0) (.int .i64 q0) ((.slice (some ⟨g5, 0, none⟩) a0.length a0.length)) 50
  generalize w5.alloc (.cells #[.int .i64 p0, .int .i64 q0, (.slice (some ⟨g5, 0, none⟩) a0.length a0.length)] 50) = w6 at *
  have F_a0_w6 : Rd w6 w.heap.size (.slice A0 a0.length c0) (fl a0) := F_a0_w5.below (hb6.mono B_w5.size)
  have F_pa0_w6 : In w6 w.heap.size w1.heap.size (.slice (some ⟨w.heap.size, 0, none⟩) 3 3) ([.int .i64 p0, .int .i64 q0, (.slice A0 a0.length c0)]) := F_pa0_w5.step hb6
  have T_pa0_w6 : w1.heap.size ≤ w6.heap.size := Nat.le_trans T_pa0_w5 hb6.size
  have F_x0_w6 : In w6 w4.heap.size w5.heap.size (.slice (some ⟨g5, 0, none⟩) a0.length a0.length) (fl a0) := F_x0_w5.step hb6
  have T_x0_w6 : w5.heap.size ≤ w6.heap.size := Nat.le_trans T_x0_w5 hb6.size
  have B_w6 : Below w.heap.size w w6 := B_w5.trans (hb6.mono B_w5.size)
  have S_px0 : w.heap.size ≤ w5.heap.size := B_w5.size
  have D_pa0_px0 : w1.heap.size ≤ w5.heap.size := T_pa0_w5
  have D_x0_px0 : w5.heap.size ≤ w5.heap.size := T_x0_w5
  clear F_a0_w5 F_pa0_w5 T_pa0_w5 F_x0_w5 T_x0_w5 B_w5
  have F_px0_w6 : In w6 w5.heap.size w6.heap.size (.slice (some ⟨w5.heap.size, 0, none⟩) 3 3) ([.int .i64 p0, .int .i64 q0, (.slice (some ⟨g5, 0, none⟩) a0.length a0.length)]) := In.made O6
  have T_px0_w6 : w6.heap.size ≤ w6.heap.size := Nat.le_refl _
  clear O6
  clear hb6
  refine (HI.out _ _ F_x0_w6.rd).mono ?_
  rintro e w7 ⟨rfl, hb7⟩
  have F_a0_w7 : Rd w7 w.heap.size (.slice A0 a0.length c0) (fl a0) := F_a0_w6.below (hb7.mono B_w6.size)
  have F_pa0_w7 : In w7 w.heap.size w1.heap.size (.slice (some ⟨w.heap.size, 0, none⟩) 3 3) ([.int .i64 p0, .int .i64 q0, (.slice A0 a0.length c0)]) := F_pa0_w6.step hb7
  have T_pa0_w7 : w1.heap.size ≤ w7.heap.size := Nat.le_trans T_pa0_w6 hb7.size
  have F_x0_w7 : In w7 w4.heap.size w5.heap.size (.slice (some ⟨g5, 0, none⟩) a0.length a0.length) (fl a0) := F_x0_w6.step hb7
  have T_x0_w7 : w5.heap.size ≤ w7.heap.size := Nat.le_trans T_x0_w6 hb7.size
  have F_px0_w7 : In w7 w5.heap.size w6.heap.size (.slice (some ⟨w5.heap.size, 0, none⟩) 3 3) ([.int .i64 p0, .int .i64 q0, (.slice (some ⟨g5, 0, none⟩) a0.length a0.length)]) := F_px0_w6.step hb7
  have T_px0_w7 : w6.heap.size ≤ w7.heap.size := Nat.le_trans T_px0_w6 hb7.size
  have B_w7 : Below w.heap.size w w7 := B_w6.trans (hb7.mono B_w6.size)
  clear F_a0_w6 F_pa0_w6 T_pa0_w6 F_x0_w6 T_x0_w6 F_px0_w6 T_px0_w6 B_w6
  clear hb7
  go_wp2_with (refine up_wide (by rw [Try.underlying23]; rfl) Try.underlying72 ?_; intro r n hr)
  refine (same_wi _ _ _ (by assumption) (by assumption) rfl).mono ?_
  rintro e w8 ⟨rfl, n8, hw8⟩
  have hb8 : Below w7.heap.size w7 w8 := by rw [hw8]; first | exact below_drawn (Below.refl _ _) _ | exact below_drawn (below_drawn (Below.refl _ _) _) _ | exact below_drawn (below_drawn (below_drawn (Below.refl _ _) _) _) _
  clear hw8
  have F_a0_w8 : Rd w8 w.heap.size (.slice A0 a0.length c0) (fl a0) := F_a0_w7.below (hb8.mono B_w7.size)
  have F_pa0_w8 : In w8 w.heap.size w1.heap.size (.slice (some ⟨w.heap.size, 0, none⟩) 3 3) ([.int .i64 p0, .int .i64 q0, (.slice A0 a0.length c0)]) := F_pa0_w7.step hb8
  have T_pa0_w8 : w1.heap.size ≤ w8.heap.size := Nat.le_trans T_pa0_w7 hb8.size
  have F_x0_w8 : In w8 w4.heap.size w5.heap.size (.slice (some ⟨g5, 0, none⟩) a0.length a0.length) (fl a0) := F_x0_w7.step hb8
  have T_x0_w8 : w5.heap.size ≤ w8.heap.size := Nat.le_trans T_x0_w7 hb8.size
  have F_px0_w8 : In w8 w5.heap.size w6.heap.size (.slice (some ⟨w5.heap.size, 0, none⟩) 3 3) ([.int .i64 p0, .int .i64 q0, (.slice (some ⟨g5, 0, none⟩) a0.length a0.length)]) := F_px0_w7.step hb8
  have T_px0_w8 : w6.heap.size ≤ w8.heap.size := Nat.le_trans T_px0_w7 hb8.size
  have B_w8 : Below w.heap.size w w8 := B_w7.trans (hb8.mono B_w7.size)
  clear F_a0_w7 F_pa0_w7 T_pa0_w7 F_x0_w7 T_x0_w7 F_px0_w7 T_px0_w7 B_w7
  clear hb8
  obtain ⟨_, Z_pa0_w8, c133, _⟩ := F_pa0_w8.1.cells' (by decide)
  have Q_pa00_w8 : w8.cell? ⟨w.heap.size, 0, none⟩ = some (.int .i64 p0) := c133 0 _ rfl
  have Q_pa01_w8 : w8.cell? ⟨w.heap.size, 1, none⟩ = some (.int .i64 q0) := c133 1 _ rfl
  have Q_pa02_w8 : w8.cell? ⟨w.heap.size, 2, none⟩ = some ((.slice A0 a0.length c0)) := c133 2 _ rfl
  clear c133
  obtain ⟨_, Z_px0_w8, c138, _⟩ := F_px0_w8.1.cells' (by decide)
  have Q_px00_w8 : w8.cell? ⟨w5.heap.size, 0, none⟩ = some (.int .i64 p0) := c138 0 _ rfl
  have Q_px01_w8 : w8.cell? ⟨w5.heap.size, 1, none⟩ = some (.int .i64 q0) := c138 1 _ rfl
  have Q_px02_w8 : w8.cell? ⟨w5.heap.size, 2, none⟩ = some ((.slice (some ⟨g5, 0, none⟩) a0.length a0.length)) := c138 2 _ rfl
  clear c138
  have E_a0_w8 : Rd w8 w8.heap.size (.slice A0 a0.length c0) (fl a0) := (F_a0_w8.more B_w8.size)
  have E_x0_w8 : Rd w8 w8.heap.size (.slice (some ⟨g5, 0, none⟩) a0.length a0.length) (fl a0) := F_x0_w8.rd
  go_wp2_with fail
  go_region_held3 (fun w' => w'.cell? ⟨w.heap.size, 0, none⟩ = some (.int .i64 p0) ∧ w'.cell? ⟨w.heap.size, 1, none⟩ = some (.int .i64 q0) ∧ w'.cell? ⟨w.heap.size, 2, none⟩ = some ((.slice A0 a0.length c0)) ∧ w'.cell? ⟨w5.heap.size, 0, none⟩ = some (.int .i64 p0) ∧ w'.cell? ⟨w5.heap.size, 1, none⟩ = some (.int .i64 q0) ∧ w'.cell? ⟨w5.heap.size, 2, none⟩ = some ((.slice (some ⟨g5, 0, none⟩) a0.length a0.length))) (first | exact ⟨Q_pa00_w8, Q_pa01_w8, Q_pa02_w8, Q_px00_w8, Q_px01_w8, Q_px02_w8⟩ | exact ⟨Q_pa00_w9, Q_pa01_w9, Q_pa02_w9, Q_px00_w9, Q_px01_w9, Q_px02_w9⟩ | exact ⟨Q_pa00_w10, Q_pa01_w10, Q_pa02_w10, Q_px00_w10, Q_px01_w10, Q_px02_w10⟩) ((first | (go_at_call 36; refine (toPic_any (.slice A0 a0.length c0) p0 q0 a0 _ ?_ hm0).mono ?_; exact E_a0_w8; rintro e w9 ⟨g9, rfl, P9, hb9⟩; replace hb9 : Below w8.heap.size w8 w9 := below_draw1 hb9; replace P9 : Own w9 w8.heap.size (.slice (some ⟨g9, 0, none⟩) a0.length a0.length) (fl a0) := P9; have E_a0_w9 := E_a0_w8.step hb9; have E_x0_w9 := E_x0_w8.step hb9; have Q_pa00_w9 : w9.cell? ⟨w.heap.size, 0, none⟩ = some (.int .i64 p0) := (hb9.cell (p := ⟨w.heap.size, 0, none⟩) Z_pa0_w8).trans Q_pa00_w8; have Q_pa01_w9 : w9.cell? ⟨w.heap.size, 1, none⟩ = some (.int .i64 q0) := (hb9.cell (p := ⟨w.heap.size, 1, none⟩) Z_pa0_w8).trans Q_pa01_w8; have Q_pa02_w9 : w9.cell? ⟨w.heap.size, 2, none⟩ = some ((.slice A0 a0.length c0)) := (hb9.cell (p := ⟨w.heap.size, 2, none⟩) Z_pa0_w8).trans Q_pa02_w8; have Z_pa0_w9 := Nat.lt_of_lt_of_le Z_pa0_w8 hb9.size; have Q_px00_w9 : w9.cell? ⟨w5.heap.size, 0, none⟩ = some (.int .i64 p0) := (hb9.cell (p := ⟨w5.heap.size, 0, none⟩) Z_px0_w8).trans Q_px00_w8; have Q_px01_w9 : w9.cell? ⟨w5.heap.size, 1, none⟩ = some (.int .i64 q0) := (hb9.cell (p := ⟨w5.heap.size, 1, none⟩) Z_px0_w8).trans Q_px01_w8; have Q_px02_w9 : w9.cell? ⟨w5.heap.size, 2, none⟩ = some ((.slice (some ⟨g5, 0, none⟩) a0.length a0.length)) := (hb9.cell (p := ⟨w5.heap.size, 2, none⟩) Z_px0_w8).trans Q_px02_w8; have Z_px0_w9 := Nat.lt_of_lt_of_le Z_px0_w8 hb9.size; have E_d0_w9 := P9.rd) | (go_at_call 38; refine (eqPic_any _ _ p0 q0 a0 a0 _ ?_ ?_ (Worth.refl _) hm0).mono ?_; exact E_x0_w9; exact E_d0_w9; rintro e w10 ⟨rfl, hb10⟩; have E_a0_w10 := E_a0_w9.step hb10; have E_x0_w10 := E_x0_w9.step hb10; have E_d0_w10 := E_d0_w9.step hb10; have Q_pa00_w10 : w10.cell? ⟨w.heap.size, 0, none⟩ = some (.int .i64 p0) := (hb10.cell (p := ⟨w.heap.size, 0, none⟩) Z_pa0_w9).trans Q_pa00_w9; have Q_pa01_w10 : w10.cell? ⟨w.heap.size, 1, none⟩ = some (.int .i64 q0) := (hb10.cell (p := ⟨w.heap.size, 1, none⟩) Z_pa0_w9).trans Q_pa01_w9; have Q_pa02_w10 : w10.cell? ⟨w.heap.size, 2, none⟩ = some ((.slice A0 a0.length c0)) := (hb10.cell (p := ⟨w.heap.size, 2, none⟩) Z_pa0_w9).trans Q_pa02_w9; have Z_pa0_w10 := Nat.lt_of_lt_of_le Z_pa0_w9 hb10.size; have Q_px00_w10 : w10.cell? ⟨w5.heap.size, 0, none⟩ = some (.int .i64 p0) := (hb10.cell (p := ⟨w5.heap.size, 0, none⟩) Z_px0_w9).trans Q_px00_w9; have Q_px01_w10 : w10.cell? ⟨w5.heap.size, 1, none⟩ = some (.int .i64 q0) := (hb10.cell (p := ⟨w5.heap.size, 1, none⟩) Z_px0_w9).trans Q_px01_w9; have Q_px02_w10 : w10.cell? ⟨w5.heap.size, 2, none⟩ = some ((.slice (some ⟨g5, 0, none⟩) a0.length a0.length)) := (hb10.cell (p := ⟨w5.heap.size, 2, none⟩) Z_px0_w9).trans Q_px02_w9; have Z_px0_w10 := Nat.lt_of_lt_of_le Z_px0_w9 hb10.size)))
  have hc11 : Below w8.heap.size w8 w10 := (hb9.trans (hb10.mono (by have := hb9.size; omega)))
  clear E_a0_w9 E_x0_w9 Q_pa00_w9 Q_pa01_w9 Q_pa02_w9 Z_pa0_w9 Q_px00_w9 Q_px01_w9 Q_px02_w9 Z_px0_w9 E_d0_w9 E_a0_w10 E_x0_w10 E_d0_w10 Q_pa00_w10 Q_pa01_w10 Q_pa02_w10 Z_pa0_w10 Q_px00_w10 Q_px01_w10 Q_px02_w10 Z_px0_w10 Z_pa0_w8 Q_pa00_w8 Q_pa01_w8 Q_pa02_w8 Z_px0_w8 Q_px00_w8 Q_px01_w8 Q_px02_w8 E_a0_w8 E_x0_w8 P9
  have F_a0_w10 : Rd w10 w.heap.size (.slice A0 a0.length c0) (fl a0) := F_a0_w8.below (hc11.mono B_w8.size)
  have F_pa0_w10 : In w10 w.heap.size w1.heap.size (.slice (some ⟨w.heap.size, 0, none⟩) 3 3) ([.int .i64 p0, .int .i64 q0, (.slice A0 a0.length c0)]) := F_pa0_w8.step hc11
  have T_pa0_w10 : w1.heap.size ≤ w10.heap.size := Nat.le_trans T_pa0_w8 hc11.size
  have F_x0_w10 : In w10 w4.heap.size w5.heap.size (.slice (some ⟨g5, 0, none⟩) a0.length a0.length) (fl a0) := F_x0_w8.step hc11
  have T_x0_w10 : w5.heap.size ≤ w10.heap.size := Nat.le_trans T_x0_w8 hc11.size
  have F_px0_w10 : In w10 w5.heap.size w6.heap.size (.slice (some ⟨w5.heap.size, 0, none⟩) 3 3) ([.int .i64 p0, .int .i64 q0, (.slice (some ⟨g5, 0, none⟩) a0.length a0.length)]) := F_px0_w8.step hc11
  have T_px0_w10 : w6.heap.size ≤ w10.heap.size := Nat.le_trans T_px0_w8 hc11.size
  have B_w10 : Below w.heap.size w w10 := B_w8.trans (hc11.mono B_w8.size)
  clear F_a0_w8 F_pa0_w8 T_pa0_w8 F_x0_w8 T_x0_w8 F_px0_w8 T_px0_w8 B_w8
  clear hc11 hb9 hb10
  go_wp2_with fail
  go_ret
  exact ⟨rfl, B_w10⟩
end Go.Proofs.Ytfbdmhkmkmbipaa
