/-
  At any code, ValidCoded answers as its model does, and leaves the code as it was.
-/
import Derived.Test.YtdlginbmelbfgaaRows
import Derived.ProofKit
import Derived.OpenShut
import Derived.WalkLawsBesides
import Derived.KernelRfl
import Derived.Test.YtdlginbmelbfgaaCiL
import Derived.Test.YtdlginbmelbfgaaVc
import Derived.Test.YtdlginbmelbfgaaTw
namespace Go.Proofs.Ytdlginbmelbfgaa
open Go.RowKit Fl
set_option linter.unusedVariables false
set_option maxRecDepth 100000 in
set_option maxHeartbeats 8000000 in
theorem fnExactValidCoded.walk (w : World) (v0 : Value) (p0 q0 : Int) (a0 : List Bool) (y0 : (Lit.int .i64 p0).wf = true) (z0 : (Lit.int .i64 q0).wf = true) (h0 : Rd w w.heap.size v0 (bl a0)) :
    Calls Try.prog 8 #[.agg #[.int .i64 p0, .int .i64 q0, v0]] w fun e w' => e = .returned (.bool true) ∧ Below w.heap.size w w' := by
  have hle0 : a0.length ≤ 9223372036854775807 := by
    have := h0.le
    rw [bl_len] at this
    unfold maxLen at this
    omega
  obtain ⟨A0, c0, hv0, hc01, hc02, hcell0⟩ := id h0
  rw [bl_len] at hv0
  clear hcell0 hc01 hc02
  subst hv0
  obtain ⟨b, hbe⟩ : ∃ x, x = vcB p0 q0 a0 := ⟨_, rfl⟩
  have HS0 := Lib.hid (fun (hm0 : a0.length ≤ 1048576) (w' : World) (u0 : Value) (hr0 : Rd w' w'.heap.size u0 (bl a0)) => (show Calls Try.prog 32 #[.agg #[.int .i64 p0, .int .i64 q0, u0]] w' (RetBB b w') by rw [hbe]; exact vcS_any u0 p0 q0 a0 w' hr0))
  have HI0 := Lib.hid (fun (hm0 : a0.length ≤ 1048576) (w' : World) (u0 : Value) (hr0 : Rd w' w'.heap.size u0 (bl a0)) => (show Calls Try.prog 34 #[.agg #[.int .i64 p0, .int .i64 q0, u0]] w' (RetBB b w') by rw [hbe]; exact vcI_any u0 p0 q0 a0 w' hr0))
  clear hbe
  have hsf : ∀ (a : Addr) (x : Nat) (w : World), (store a (.float .f32 x)).run Try.prog w = stored Try.prog w a (.float .f32 x) .plain := fun a x w => run_store _ w a _ _ rfl
  go_enter Try.func8, Try.ntmps8
  have F_a0_w : Rd w w.heap.size (.slice A0 a0.length c0) (bl a0) := h0
  have B_w : Below w.heap.size w w := Below.refl _ _
  clear h0
  go_wp2_with fail
  have hb1 : Below w.heap.size w (w.alloc (.cells #[.int .i64 p0, .int .i64 q0, (.slice A0 a0.length c0)] 40)) := (Below.refl _ _).alloc (Nat.le_refl _) _
  have O1 := own_box3 w (.int .i64 p0) (.int .i64 q0) ((.slice A0 a0.length c0)) 40
  generalize w.alloc (.cells #[.int .i64 p0, .int .i64 q0, (.slice A0 a0.length c0)] 40) = w1 at *
  have F_a0_w1 : Rd w1 w.heap.size (.slice A0 a0.length c0) (bl a0) := F_a0_w.below (hb1.mono B_w.size)
  have B_w1 : Below w.heap.size w w1 := B_w.trans (hb1.mono B_w.size)
  have S_pa0 : w.heap.size ≤ w.heap.size := B_w.size
  clear F_a0_w B_w
  have F_pa0_w1 : In w1 w.heap.size w1.heap.size (.slice (some ⟨w.heap.size, 0, none⟩) 3 3) ([.int .i64 p0, .int .i64 q0, (.slice A0 a0.length c0)]) := In.made O1
  have T_pa0_w1 : w1.heap.size ≤ w1.heap.size := Nat.le_refl _
  clear O1
  clear hb1
  refine (szCod_any _ p0 q0 a0 (1048576) _ (F_a0_w1.more B_w1.size) (by omega) (by omega) hle0).mono ?_
  rintro e w2 ⟨rfl, hb2⟩
  have F_a0_w2 : Rd w2 w.heap.size (.slice A0 a0.length c0) (bl a0) := F_a0_w1.below (hb2.mono B_w1.size)
  have F_pa0_w2 : In w2 w.heap.size w1.heap.size (.slice (some ⟨w.heap.size, 0, none⟩) 3 3) ([.int .i64 p0, .int .i64 q0, (.slice A0 a0.length c0)]) := F_pa0_w1.step hb2
  have T_pa0_w2 : w1.heap.size ≤ w2.heap.size := Nat.le_trans T_pa0_w1 hb2.size
  have B_w2 : Below w.heap.size w w2 := B_w1.trans (hb2.mono B_w1.size)
  clear F_a0_w1 F_pa0_w1 T_pa0_w1 B_w1
  clear hb2
  by_cases hbig0 : (1048576 : Int) < a0.length
  · rw [if_pos hbig0]
    go_wp2_with fail
    go_ret
    exact ⟨rfl, B_w2⟩
  rw [if_neg hbig0]
  have hm0 : a0.length ≤ 1048576 := by omega
  have hl0 : 0 ≤ (1048576 : Int) - a0.length := by omega
  clear hbig0
  have HS := Lib.hid (HS0.out hm0)
  have HI := Lib.hid (HI0.out hm0)
  clear HS0 HI0
  obtain ⟨_, Z_pa0_w2, c36, _⟩ := F_pa0_w2.1.cells' (by decide)
  have Q_pa00_w2 : w2.cell? ⟨w.heap.size, 0, none⟩ = some (.int .i64 p0) := c36 0 _ rfl
  have Q_pa01_w2 : w2.cell? ⟨w.heap.size, 1, none⟩ = some (.int .i64 q0) := c36 1 _ rfl
  have Q_pa02_w2 : w2.cell? ⟨w.heap.size, 2, none⟩ = some ((.slice A0 a0.length c0)) := c36 2 _ rfl
  clear c36
  go_wp2_with fail
  clear Z_pa0_w2 Q_pa00_w2 Q_pa01_w2 Q_pa02_w2
  refine (toCod_any _ p0 q0 a0 _ (F_a0_w2.more B_w2.size) hm0).mono ?_
  rintro e w3 ⟨g3, rfl, O3, hb3⟩
  have F_a0_w3 : Rd w3 w.heap.size (.slice A0 a0.length c0) (bl a0) := F_a0_w2.below (hb3.mono B_w2.size)
  have F_pa0_w3 : In w3 w.heap.size w1.heap.size (.slice (some ⟨w.heap.size, 0, none⟩) 3 3) ([.int .i64 p0, .int .i64 q0, (.slice A0 a0.length c0)]) := F_pa0_w2.step hb3
  have T_pa0_w3 : w1.heap.size ≤ w3.heap.size := Nat.le_trans T_pa0_w2 hb3.size
  have B_w3 : Below w.heap.size w w3 := B_w2.trans (hb3.mono B_w2.size)
  have S_c0 : w.heap.size ≤ w2.heap.size := B_w2.size
  have D_pa0_c0 : w1.heap.size ≤ w2.heap.size := T_pa0_w2
  clear F_a0_w2 F_pa0_w2 T_pa0_w2 B_w2
  have F_c0_w3 : In w3 w2.heap.size w3.heap.size (.slice (some ⟨g3, 0, none⟩) a0.length a0.length) (bl a0) := In.made O3
  have T_c0_w3 : w3.heap.size ≤ w3.heap.size := Nat.le_refl _
  clear O3
  clear hb3
  go_wp2_with fail
  refine (HS.out _ _ F_c0_w3.rd).mono ?_
  rintro e w4 ⟨rfl, hb4⟩
  have F_a0_w4 : Rd w4 w.heap.size (.slice A0 a0.length c0) (bl a0) := F_a0_w3.below (hb4.mono B_w3.size)
  have F_pa0_w4 : In w4 w.heap.size w1.heap.size (.slice (some ⟨w.heap.size, 0, none⟩) 3 3) ([.int .i64 p0, .int .i64 q0, (.slice A0 a0.length c0)]) := F_pa0_w3.step hb4
  have T_pa0_w4 : w1.heap.size ≤ w4.heap.size := Nat.le_trans T_pa0_w3 hb4.size
  have F_c0_w4 : In w4 w2.heap.size w3.heap.size (.slice (some ⟨g3, 0, none⟩) a0.length a0.length) (bl a0) := F_c0_w3.step hb4
  have T_c0_w4 : w3.heap.size ≤ w4.heap.size := Nat.le_trans T_c0_w3 hb4.size
  have B_w4 : Below w.heap.size w w4 := B_w3.trans (hb4.mono B_w3.size)
  clear F_a0_w3 F_pa0_w3 T_pa0_w3 F_c0_w3 T_c0_w3 B_w3
  clear hb4
  clear F_c0_w4 T_c0_w4
  obtain ⟨_, Z_pa0_w4, c68, _⟩ := F_pa0_w4.1.cells' (by decide)
  have Q_pa00_w4 : w4.cell? ⟨w.heap.size, 0, none⟩ = some (.int .i64 p0) := c68 0 _ rfl
  have Q_pa01_w4 : w4.cell? ⟨w.heap.size, 1, none⟩ = some (.int .i64 q0) := c68 1 _ rfl
  have Q_pa02_w4 : w4.cell? ⟨w.heap.size, 2, none⟩ = some ((.slice A0 a0.length c0)) := c68 2 _ rfl
  clear c68
  go_wp2_with fail
  clear Z_pa0_w4 Q_pa00_w4 Q_pa01_w4 Q_pa02_w4
  refine (toCod_any _ p0 q0 a0 _ (F_a0_w4.more B_w4.size) hm0).mono ?_
  rintro e w5 ⟨g5, rfl, O5, hb5⟩
  have F_a0_w5 : Rd w5 w.heap.size (.slice A0 a0.length c0) (bl a0) := F_a0_w4.below (hb5.mono B_w4.size)
  have F_pa0_w5 : In w5 w.heap.size w1.heap.size (.slice (some ⟨w.heap.size, 0, none⟩) 3 3) ([.int .i64 p0, .int .i64 q0, (.slice A0 a0.length c0)]) := F_pa0_w4.step hb5
  have T_pa0_w5 : w1.heap.size ≤ w5.heap.size := Nat.le_trans T_pa0_w4 hb5.size
  have B_w5 : Below w.heap.size w w5 := B_w4.trans (hb5.mono B_w4.size)
  have S_x0 : w.heap.size ≤ w4.heap.size := B_w4.size
  have D_pa0_x0 : w1.heap.size ≤ w4.heap.size := T_pa0_w4
  clear F_a0_w4 F_pa0_w4 T_pa0_w4 B_w4
  have F_x0_w5 : In w5 w4.heap.size w5.heap.size (.slice (some ⟨g5, 0, none⟩) a0.length a0.length) (bl a0) := In.made O5
  have T_x0_w5 : w5.heap.size ≤ w5.heap.size := Nat.le_refl _
  clear O5
  clear hb5
  go_wp2_with fail
  have hb6 : Below w5.heap.size w5 (w5.alloc (.cells #[.int .i64 p0, .int .i64 q0, (.slice (some ⟨g5, 0, none⟩) a0.length a0.length)] 43)) := (Below.refl _ _).alloc (Nat.le_refl _) _
  have O6 := own_box3 w5 (.int .i64 p0) (.int .i64 q0) ((.slice (some ⟨g5, 0, none⟩) a0.length a0.length)) 43
  generalize w5.alloc (.cells #[.int .i64 p0, .int .i64 q0, (.slice (some ⟨g5, 0, none⟩) a0.length a0.length)] 43) = w6 at *
  have F_a0_w6 : Rd w6 w.heap.size (.slice A0 a0.length c0) (bl a0) := F_a0_w5.below (hb6.mono B_w5.size)
  have F_pa0_w6 : In w6 w.heap.size w1.heap.size (.slice (some ⟨w.heap.size, 0, none⟩) 3 3) ([.int .i64 p0, .int .i64 q0, (.slice A0 a0.length c0)]) := F_pa0_w5.step hb6
  have T_pa0_w6 : w1.heap.size ≤ w6.heap.size := Nat.le_trans T_pa0_w5 hb6.size
  have F_x0_w6 : In w6 w4.heap.size w5.heap.size (.slice (some ⟨g5, 0, none⟩) a0.length a0.length) (bl a0) := F_x0_w5.step hb6
  have T_x0_w6 : w5.heap.size ≤ w6.heap.size := Nat.le_trans T_x0_w5 hb6.size
  have B_w6 : Below w.heap.size w w6 := B_w5.trans (hb6.mono B_w5.size)
  have S_px0 : w.heap.size ≤ w5.heap.size := B_w5.size
  have D_pa0_px0 : w1.heap.size ≤ w5.heap.size := T_pa0_w5
  have D_x0_px0 : w5.heap.size ≤ w5.heap.size := T_x0_w5
  clear F_a0_w5 F_pa0_w5 T_pa0_w5 F_x0_w5 T_x0_w5 B_w5
  have F_px0_w6 : In w6 w5.heap.size w6.heap.size (.slice (some ⟨w5.heap.size, 0, none⟩) 3 3) ([.int .i64 p0, .int .i64 q0, (.slice (some ⟨g5, 0, none⟩) a0.length a0.length)]) := In.made O6
  have T_px0_w6 : w6.heap.size ≤ w6.heap.size := Nat.le_refl _
  clear O6
  clear hb6
  refine (HI.out _ _ F_x0_w6.rd).mono ?_
  rintro e w7 ⟨rfl, hb7⟩
  have F_a0_w7 : Rd w7 w.heap.size (.slice A0 a0.length c0) (bl a0) := F_a0_w6.below (hb7.mono B_w6.size)
  have F_pa0_w7 : In w7 w.heap.size w1.heap.size (.slice (some ⟨w.heap.size, 0, none⟩) 3 3) ([.int .i64 p0, .int .i64 q0, (.slice A0 a0.length c0)]) := F_pa0_w6.step hb7
  have T_pa0_w7 : w1.heap.size ≤ w7.heap.size := Nat.le_trans T_pa0_w6 hb7.size
  have F_x0_w7 : In w7 w4.heap.size w5.heap.size (.slice (some ⟨g5, 0, none⟩) a0.length a0.length) (bl a0) := F_x0_w6.step hb7
  have T_x0_w7 : w5.heap.size ≤ w7.heap.size := Nat.le_trans T_x0_w6 hb7.size
  have F_px0_w7 : In w7 w5.heap.size w6.heap.size (.slice (some ⟨w5.heap.size, 0, none⟩) 3 3) ([.int .i64 p0, .int .i64 q0, (.slice (some ⟨g5, 0, none⟩) a0.length a0.length)]) := F_px0_w6.step hb7
  have T_px0_w7 : w6.heap.size ≤ w7.heap.size := Nat.le_trans T_px0_w6 hb7.size
  have B_w7 : Below w.heap.size w w7 := B_w6.trans (hb7.mono B_w6.size)
  clear F_a0_w6 F_pa0_w6 T_pa0_w6 F_x0_w6 T_x0_w6 F_px0_w6 T_px0_w6 B_w6
  clear hb7
  obtain ⟨_, Z_pa0_w7, c118, _⟩ := F_pa0_w7.1.cells' (by decide)
  have Q_pa00_w7 : w7.cell? ⟨w.heap.size, 0, none⟩ = some (.int .i64 p0) := c118 0 _ rfl
  have Q_pa01_w7 : w7.cell? ⟨w.heap.size, 1, none⟩ = some (.int .i64 q0) := c118 1 _ rfl
  have Q_pa02_w7 : w7.cell? ⟨w.heap.size, 2, none⟩ = some ((.slice A0 a0.length c0)) := c118 2 _ rfl
  clear c118
  obtain ⟨_, Z_px0_w7, c123, _⟩ := F_px0_w7.1.cells' (by decide)
  have Q_px00_w7 : w7.cell? ⟨w5.heap.size, 0, none⟩ = some (.int .i64 p0) := c123 0 _ rfl
  have Q_px01_w7 : w7.cell? ⟨w5.heap.size, 1, none⟩ = some (.int .i64 q0) := c123 1 _ rfl
  have Q_px02_w7 : w7.cell? ⟨w5.heap.size, 2, none⟩ = some ((.slice (some ⟨g5, 0, none⟩) a0.length a0.length)) := c123 2 _ rfl
  clear c123
  have E_a0_w7 : Rd w7 w7.heap.size (.slice A0 a0.length c0) (bl a0) := (F_a0_w7.more B_w7.size)
  have E_x0_w7 : Rd w7 w7.heap.size (.slice (some ⟨g5, 0, none⟩) a0.length a0.length) (bl a0) := F_x0_w7.rd
  go_wp2_with fail
  go_region_held3 (fun w' => w'.cell? ⟨w.heap.size, 0, none⟩ = some (.int .i64 p0) ∧ w'.cell? ⟨w.heap.size, 1, none⟩ = some (.int .i64 q0) ∧ w'.cell? ⟨w.heap.size, 2, none⟩ = some ((.slice A0 a0.length c0)) ∧ w'.cell? ⟨w5.heap.size, 0, none⟩ = some (.int .i64 p0) ∧ w'.cell? ⟨w5.heap.size, 1, none⟩ = some (.int .i64 q0) ∧ w'.cell? ⟨w5.heap.size, 2, none⟩ = some ((.slice (some ⟨g5, 0, none⟩) a0.length a0.length))) (first | exact ⟨Q_pa00_w7, Q_pa01_w7, Q_pa02_w7, Q_px00_w7, Q_px01_w7, Q_px02_w7⟩ | exact ⟨Q_pa00_w8, Q_pa01_w8, Q_pa02_w8, Q_px00_w8, Q_px01_w8, Q_px02_w8⟩ | exact ⟨Q_pa00_w9, Q_pa01_w9, Q_pa02_w9, Q_px00_w9, Q_px01_w9, Q_px02_w9⟩) ((first | (go_at_call 33; refine (toCod_any (.slice A0 a0.length c0) p0 q0 a0 _ ?_ hm0).mono ?_; exact E_a0_w7; rintro e w8 ⟨g8, rfl, P8, hb8⟩; replace hb8 : Below w7.heap.size w7 w8 := below_draw1 hb8; replace P8 : Own w8 w7.heap.size (.slice (some ⟨g8, 0, none⟩) a0.length a0.length) (bl a0) := P8; have E_a0_w8 := E_a0_w7.step hb8; have E_x0_w8 := E_x0_w7.step hb8; have Q_pa00_w8 : w8.cell? ⟨w.heap.size, 0, none⟩ = some (.int .i64 p0) := (hb8.cell (p := ⟨w.heap.size, 0, none⟩) Z_pa0_w7).trans Q_pa00_w7; have Q_pa01_w8 : w8.cell? ⟨w.heap.size, 1, none⟩ = some (.int .i64 q0) := (hb8.cell (p := ⟨w.heap.size, 1, none⟩) Z_pa0_w7).trans Q_pa01_w7; have Q_pa02_w8 : w8.cell? ⟨w.heap.size, 2, none⟩ = some ((.slice A0 a0.length c0)) := (hb8.cell (p := ⟨w.heap.size, 2, none⟩) Z_pa0_w7).trans Q_pa02_w7; have Z_pa0_w8 := Nat.lt_of_lt_of_le Z_pa0_w7 hb8.size; have Q_px00_w8 : w8.cell? ⟨w5.heap.size, 0, none⟩ = some (.int .i64 p0) := (hb8.cell (p := ⟨w5.heap.size, 0, none⟩) Z_px0_w7).trans Q_px00_w7; have Q_px01_w8 : w8.cell? ⟨w5.heap.size, 1, none⟩ = some (.int .i64 q0) := (hb8.cell (p := ⟨w5.heap.size, 1, none⟩) Z_px0_w7).trans Q_px01_w7; have Q_px02_w8 : w8.cell? ⟨w5.heap.size, 2, none⟩ = some ((.slice (some ⟨g5, 0, none⟩) a0.length a0.length)) := (hb8.cell (p := ⟨w5.heap.size, 2, none⟩) Z_px0_w7).trans Q_px02_w7; have Z_px0_w8 := Nat.lt_of_lt_of_le Z_px0_w7 hb8.size; have E_d0_w8 := P8.rd) | (go_at_call 35; refine (eqCod_any _ _ p0 q0 a0 a0 _ ?_ ?_ rfl hm0).mono ?_; exact E_x0_w8; exact E_d0_w8; rintro e w9 ⟨rfl, hb9⟩; have E_a0_w9 := E_a0_w8.step hb9; have E_x0_w9 := E_x0_w8.step hb9; have E_d0_w9 := E_d0_w8.step hb9; have Q_pa00_w9 : w9.cell? ⟨w.heap.size, 0, none⟩ = some (.int .i64 p0) := (hb9.cell (p := ⟨w.heap.size, 0, none⟩) Z_pa0_w8).trans Q_pa00_w8; have Q_pa01_w9 : w9.cell? ⟨w.heap.size, 1, none⟩ = some (.int .i64 q0) := (hb9.cell (p := ⟨w.heap.size, 1, none⟩) Z_pa0_w8).trans Q_pa01_w8; have Q_pa02_w9 : w9.cell? ⟨w.heap.size, 2, none⟩ = some ((.slice A0 a0.length c0)) := (hb9.cell (p := ⟨w.heap.size, 2, none⟩) Z_pa0_w8).trans Q_pa02_w8; have Z_pa0_w9 := Nat.lt_of_lt_of_le Z_pa0_w8 hb9.size; have Q_px00_w9 : w9.cell? ⟨w5.heap.size, 0, none⟩ = some (.int .i64 p0) := (hb9.cell (p := ⟨w5.heap.size, 0, none⟩) Z_px0_w8).trans Q_px00_w8; have Q_px01_w9 : w9.cell? ⟨w5.heap.size, 1, none⟩ = some (.int .i64 q0) := (hb9.cell (p := ⟨w5.heap.size, 1, none⟩) Z_px0_w8).trans Q_px01_w8; have Q_px02_w9 : w9.cell? ⟨w5.heap.size, 2, none⟩ = some ((.slice (some ⟨g5, 0, none⟩) a0.length a0.length)) := (hb9.cell (p := ⟨w5.heap.size, 2, none⟩) Z_px0_w8).trans Q_px02_w8; have Z_px0_w9 := Nat.lt_of_lt_of_le Z_px0_w8 hb9.size)))
  have hc10 : Below w7.heap.size w7 w9 := (hb8.trans (hb9.mono (by have := hb8.size; omega)))
  clear E_a0_w8 E_x0_w8 Q_pa00_w8 Q_pa01_w8 Q_pa02_w8 Z_pa0_w8 Q_px00_w8 Q_px01_w8 Q_px02_w8 Z_px0_w8 E_d0_w8 E_a0_w9 E_x0_w9 E_d0_w9 Q_pa00_w9 Q_pa01_w9 Q_pa02_w9 Z_pa0_w9 Q_px00_w9 Q_px01_w9 Q_px02_w9 Z_px0_w9 Z_pa0_w7 Q_pa00_w7 Q_pa01_w7 Q_pa02_w7 Z_px0_w7 Q_px00_w7 Q_px01_w7 Q_px02_w7 E_a0_w7 E_x0_w7 P8
  have F_a0_w9 : Rd w9 w.heap.size (.slice A0 a0.length c0) (bl a0) := F_a0_w7.below (hc10.mono B_w7.size)
  have F_pa0_w9 : In w9 w.heap.size w1.heap.size (.slice (some ⟨w.heap.size, 0, none⟩) 3 3) ([.int .i64 p0, .int .i64 q0, (.slice A0 a0.length c0)]) := F_pa0_w7.step hc10
  have T_pa0_w9 : w1.heap.size ≤ w9.heap.size := Nat.le_trans T_pa0_w7 hc10.size
  have F_x0_w9 : In w9 w4.heap.size w5.heap.size (.slice (some ⟨g5, 0, none⟩) a0.length a0.length) (bl a0) := F_x0_w7.step hc10
  have T_x0_w9 : w5.heap.size ≤ w9.heap.size := Nat.le_trans T_x0_w7 hc10.size
  have F_px0_w9 : In w9 w5.heap.size w6.heap.size (.slice (some ⟨w5.heap.size, 0, none⟩) 3 3) ([.int .i64 p0, .int .i64 q0, (.slice (some ⟨g5, 0, none⟩) a0.length a0.length)]) := F_px0_w7.step hc10
  have T_px0_w9 : w6.heap.size ≤ w9.heap.size := Nat.le_trans T_px0_w7 hc10.size
  have B_w9 : Below w.heap.size w w9 := B_w7.trans (hc10.mono B_w7.size)
  clear F_a0_w7 F_pa0_w7 T_pa0_w7 F_x0_w7 T_x0_w7 F_px0_w7 T_px0_w7 B_w7
  clear hc10 hb8 hb9
  go_wp2_with fail
  go_ret
  exact ⟨rfl, B_w9⟩

namespace fnExactValidCoded
open Go.ChangeShapes Go.WideShapes Go.ChangeAt Go.RowKit
open Go.ChangeMaps (open_string)
set_option linter.unusedVariables false
theorem own : ownKnob Try.prog.godebug = none := by kernel_rfl
theorem laidOut : laidOutB Try.prog = true := by kernel_rfl
set_option maxRecDepth 100000 in
theorem lifted (os : Os) (started : os.Started) (H : Type) (enc : TypeId × Value → H) :
    ReturnsInHanded {} Try.checked os 8 .any (Rows.fnExactValidCodedSpec.pre6 enc Try.prog Try.f8 Rows.fnExactValidCodedRow.domain false) (Rows.fnExactValidCodedSpec.post enc Try.prog Try.f8 false true false false) := by
  refine returnsInHanded_of_change (C := Try.checked) own started (by kernel_rfl) Try.func8
    (ChangeSpec.witness6 (enc := enc) (C := Try.checked) false ⟨#[], #[.agg #[.int .i64 0, .int .i64 0, .slice none 0 0]], []⟩ 8 (by kernel_rfl) (by kernel_rfl) (by kernel_rfl) (by kernel_rfl)) ?_
  intro W base args ds gs before hval0 hW hcnd _
  have hval : ∀ (j : Nat) t v, Try.f8.params[j]? = some t → args[j]? = some v → Value.okWide Try.prog W .any base t v := hval0
  have hW' := hW
  have hlt0 := hW.lt
  obtain ⟨p, q, hA0, hV, rfl, hfz, hnd⟩ := hW
  have hA : DataW.TrodAll enc Try.prog W 0 (fun _ => true) true Try.f8.params.toList args.toList ds p := hA0
  have hAk := hA
  have hltp : ∀ x ∈ p, x.block < W.heap.size := fun x hx => hlt0 x (List.mem_append_left _ hx)
  have hread : ∀ t ∈ Try.f8.params.toList, Try.prog.readableRec t = true ∧ t < Try.prog.types.size := by
    rw [Try.params8]
    intro t ht
    simp only [List.mem_cons, List.not_mem_nil, or_false] at ht
    rcases ht with rfl <;> exact ⟨by kernel_rfl, of_decide_eq_true (by kernel_rfl)⟩
  rw [Try.params8] at hA hval
  obtain ⟨v0, vs0, d0, ds0, p0, q0, hargs, rfl, rfl, h0, r0⟩ := trodAll_cons hA
  obtain ⟨rfl, rfl, rfl⟩ := trodAll_nil r0
  obtain rfl : args = #[v0] := by cases args; simp_all
  obtain ⟨rfl, rfl⟩ := trodVars_none hV
  obtain ⟨b0, p0, q0, a0, rfl, y0, z0, g0⟩ := open_cod Try.underlying40 (by kernel_rfl) (by kernel_rfl) Try.underlying2 Try.underlying2 Try.underlying33 Try.underlying4 (by kernel_rfl) (hval 0 40 v0 rfl rfl) h0 (fun x hx => hltp x (by simp [hx]))
  clear hA0 hval0
  refine (walk W b0 p0 q0 a0 y0 z0 g0).mono fun e W' ⟨he, hg⟩ => ?_
  subst he
  exact ⟨_, rfl, post_grown (pv := []) hW' hg (fun _ _ _ => (trodAll_cons_mk (shut_bool Try.underlying4 _) trodAll_mk0)) (trodAll_low laidOut hg _ _ _ _ hread hltp hAk) rfl rfl⟩

theorem over : Rows.fnExactValidCodedRow.holds Try.pinned (OpenSpec.ofChange Rows.fnExactValidCodedSpec) :=
  OpenClaim.holds_of_wide 8 Try.f8 rfl rfl rfl rfl rfl rfl rfl ⟨rfl, rfl, rfl, rfl, rfl⟩ rfl rfl rfl rfl rfl (by kernel_rfl) Try.func8 (by kernel_rfl)
    (of_decide_eq_true (by kernel_rfl)) (by unfold Func.isWrapper; first | (rw [if_pos (by decide +kernel)]; kernel_rfl) | (rw [if_neg (by decide +kernel)]; exact ⟨rfl, rfl⟩))
    (fun os started H enc _ => lifted os started H enc)

theorem proved : Rows.FnExactValidCodedSaid := over
end fnExactValidCoded
end Go.Proofs.Ytdlginbmelbfgaa
