/-
  The walk of the law of QuietPicture.
-/
import Derived.Test.YtfbdmhkmkmbipaaRows
import Derived.ProofKit
import Derived.OpenShut
import Derived.WalkLawsBesides
import Derived.KernelRfl
import Derived.Test.YtfbdmhkmkmbipaaPiM
import Derived.Test.YtfbdmhkmkmbipaaQup
namespace Go.Proofs.Ytfbdmhkmkmbipaa
open Go.RowKit Fl
set_option linter.unusedVariables false
set_option maxRecDepth 100000 in
set_option maxHeartbeats 8000000 in
theorem fnExactQuietPicture.walk (w : World) (v0 : Value) (p0 q0 : Int) (a0 : List Nat) (y0 : (Lit.int .i64 p0).wf = true) (z0 : (Lit.int .i64 q0).wf = true) (h0 : Rd w w.heap.size v0 (a0.map (.float .f32))) (w0 : ∀ x ∈ a0, x < 2 ^ 32) (a1 : Int) (w1 : (Lit.int .i64 a1).wf = true) (a2 : Nat) (w2 : (Lit.float .f32 a2).wf = true) :
    Calls Try.prog 12 #[.agg #[.int .i64 p0, .int .i64 q0, v0], .int .i64 a1, .float .f32 a2] w fun e w' => e = .returned (.bool true) ∧ Below w.heap.size w w' := by
  have hle0 : a0.length ≤ 9223372036854775807 := by
    have := h0.le
    rw [show (a0.map (.float .f32)) = fl a0 from rfl, fl_len] at this
    unfold maxLen at this
    omega
  replace h0 : Rd w w.heap.size v0 (fl a0) := h0
  obtain ⟨A0, c0, hv0, hc01, hc02, hcell0⟩ := id h0
  rw [fl_len] at hv0
  clear hcell0 hc01 hc02
  subst hv0
  have HX0 := Lib.hid w0
  clear w0
  obtain ⟨P, hPe⟩ : ∃ x, x = crP (sfB p0 q0 a0 a1 a2) p0 := ⟨_, rfl⟩
  obtain ⟨Q, hQe⟩ : ∃ x, x = crP (sfB p0 q0 a0 a1 a2) q0 := ⟨_, rfl⟩
  obtain ⟨L, hLe⟩ : ∃ x, x = quV p0 q0 a0 a1 a2 := ⟨_, rfl⟩
  obtain ⟨N, hNe⟩ : ∃ x, x = quC p0 q0 a0 a1 a2 := ⟨_, rfl⟩
  obtain ⟨b, hbe⟩ : ∃ x, x = sfB p0 q0 a0 a1 a2 := ⟨_, rfl⟩
  have hL : L.length ≤ 1048576 := by rw [hLe]; exact quV_len _ _ _ _ _
  have HS0 := Lib.hid (fun (hm0 : a0.length ≤ 1048576) (w' : World) (u0 : Value) (hr0 : Rd w' w'.heap.size u0 (fl a0)) => (show Calls Try.prog 49 #[.agg #[.int .i64 p0, .int .i64 q0, u0], .int .i64 a1, .float .f32 a2] w' (RetPsN P Q L N b w') from Calls.mono (show Calls Try.prog 49 #[.agg #[.int .i64 p0, .int .i64 q0, u0], .int .i64 a1, .float .f32 a2] w' (RetPcN P Q L N b w') by rw [hPe, hQe, hLe, hNe, hbe]; exact quietS_any u0 p0 q0 a0 a1 a2 w' hr0 hm0 HX0.out (by simpa [Lit.wf] using w2)) fun e w'' h => retPsN h))
  have HI0 := Lib.hid (fun (hm0 : a0.length ≤ 1048576) (w' : World) (u0 : Value) (hr0 : Rd w' w'.heap.size u0 (fl a0)) => (show Calls Try.prog 50 #[.agg #[.int .i64 p0, .int .i64 q0, u0], .int .i64 a1, .float .f32 a2] w' (RetPsN P Q L N b w') from Calls.mono (show Calls Try.prog 50 #[.agg #[.int .i64 p0, .int .i64 q0, u0], .int .i64 a1, .float .f32 a2] w' (RetPcN P Q L N b w') by rw [hPe, hQe, hLe, hNe, hbe]; exact quietI_any u0 p0 q0 a0 a1 a2 w' hr0 hm0 HX0.out (by simpa [Lit.wf] using w2)) fun e w'' h => retPsN h))
  clear hPe hQe hLe hNe hbe
  have hsf : ∀ (a : Addr) (x : Nat) (w : World), (store a (.float .f32 x)).run Try.prog w = stored Try.prog w a (.float .f32 x) .plain := fun a x w => run_store _ w a _ _ rfl
  go_enter Try.func12, Try.ntmps12
  have F_a0_w : Rd w w.heap.size (.slice A0 a0.length c0) (fl a0) := h0
  have B_w : Below w.heap.size w w := Below.refl _ _
  clear h0
  go_wp2_with fail
  have hb1 : Below w.heap.size w (w.alloc (.cells #[.int .i64 p0, .int .i64 q0, (.slice A0 a0.length c0)] 48)) := (Below.refl _ _).alloc (Nat.le_refl _) _
  have O1 := own_box3 w (.int .i64 p0) (.int .i64 q0) ((.slice A0 a0.length c0)) 48
  generalize w.alloc (.cells #[.int .i64 p0, .int .i64 q0, (.slice A0 a0.length c0)] 48) = w1 at *
  have F_a0_w1 : Rd w1 w.heap.size (.slice A0 a0.length c0) (fl a0) := F_a0_w.below (hb1.mono B_w.size)
  have B_w1 : Below w.heap.size w w1 := B_w.trans (hb1.mono B_w.size)
  have S_pa0 : w.heap.size ≤ w.heap.size := B_w.size
  clear F_a0_w B_w
  have F_pa0_w1 : In w1 w.heap.size w1.heap.size (.slice (some ⟨w.heap.size, 0, none⟩) 3 3) ([.int .i64 p0, .int .i64 q0, (.slice A0 a0.length c0)]) := In.made O1
  have T_pa0_w1 : w1.heap.size ≤ w1.heap.size := Nat.le_refl _
  clear O1
  clear hb1
  refine (szPic_any _ p0 q0 a0 (1048576) _ (F_a0_w1.more B_w1.size) (by omega) (by omega) hle0).mono ?_
  rintro e w2 ⟨rfl, hb2⟩
  have F_a0_w2 : Rd w2 w.heap.size (.slice A0 a0.length c0) (fl a0) := F_a0_w1.below (hb2.mono B_w1.size)
  have F_pa0_w2 : In w2 w.heap.size w1.heap.size (.slice (some ⟨w.heap.size, 0, none⟩) 3 3) ([.int .i64 p0, .int .i64 q0, (.slice A0 a0.length c0)]) := F_pa0_w1.step hb2
  have T_pa0_w2 : w1.heap.size ≤ w2.heap.size := Nat.le_trans T_pa0_w1 hb2.size
  have B_w2 : Below w.heap.size w w2 := B_w1.trans (hb2.mono B_w1.size)
  clear F_a0_w1 F_pa0_w1 T_pa0_w1 B_w1
  clear hb2
  by_cases hbig0 : (1048576 : Int) < a0.length
  · rw [if_pos hbig0]
    go_wp2_with fail
    go_ret
    exact ⟨rfl, B_w2⟩
  rw [if_neg hbig0]
  have hm0 : a0.length ≤ 1048576 := by omega
  have hl0 : 0 ≤ (1048576 : Int) - a0.length := by omega
  clear hbig0
  have HS := Lib.hid (HS0.out hm0)
  have HI := Lib.hid (HI0.out hm0)
  clear HS0 HI0
  obtain ⟨_, Z_pa0_w2, c36, _⟩ := F_pa0_w2.1.cells' (by decide)
  have Q_pa00_w2 : w2.cell? ⟨w.heap.size, 0, none⟩ = some (.int .i64 p0) := c36 0 _ rfl
  have Q_pa01_w2 : w2.cell? ⟨w.heap.size, 1, none⟩ = some (.int .i64 q0) := c36 1 _ rfl
  have Q_pa02_w2 : w2.cell? ⟨w.heap.size, 2, none⟩ = some ((.slice A0 a0.length c0)) := c36 2 _ rfl
  clear c36
  go_wp2_with fail
  clear Z_pa0_w2 Q_pa00_w2 Q_pa01_w2 Q_pa02_w2
  refine (toPic_any _ p0 q0 a0 _ (F_a0_w2.more B_w2.size) hm0).mono ?_
  rintro e w3 ⟨g3, rfl, O3, hb3⟩
  have F_a0_w3 : Rd w3 w.heap.size (.slice A0 a0.length c0) (fl a0) := F_a0_w2.below (hb3.mono B_w2.size)
  have F_pa0_w3 : In w3 w.heap.size w1.heap.size (.slice (some ⟨w.heap.size, 0, none⟩) 3 3) ([.int .i64 p0, .int .i64 q0, (.slice A0 a0.length c0)]) := F_pa0_w2.step hb3
  have T_pa0_w3 : w1.heap.size ≤ w3.heap.size := Nat.le_trans T_pa0_w2 hb3.size
  have B_w3 : Below w.heap.size w w3 := B_w2.trans (hb3.mono B_w2.size)
  have S_c0 : w.heap.size ≤ w2.heap.size := B_w2.size
  have D_pa0_c0 : w1.heap.size ≤ w2.heap.size := T_pa0_w2
  clear F_a0_w2 F_pa0_w2 T_pa0_w2 B_w2
  have F_c0_w3 : In w3 w2.heap.size w3.heap.size (.slice (some ⟨g3, 0, none⟩) a0.length a0.length) (fl a0) := In.made O3
  have T_c0_w3 : w3.heap.size ≤ w3.heap.size := Nat.le_refl _
  clear O3
  clear hb3
  go_wp2_with fail
  refine (HS.out _ _ F_c0_w3.rd).mono ?_
  rintro e w4 ⟨Ar, cr, rfl, O4x, hb4⟩
  have F_a0_w4 : Rd w4 w.heap.size (.slice A0 a0.length c0) (fl a0) := F_a0_w3.below (hb4.mono B_w3.size)
  have F_pa0_w4 : In w4 w.heap.size w1.heap.size (.slice (some ⟨w.heap.size, 0, none⟩) 3 3) ([.int .i64 p0, .int .i64 q0, (.slice A0 a0.length c0)]) := F_pa0_w3.step hb4
  have T_pa0_w4 : w1.heap.size ≤ w4.heap.size := Nat.le_trans T_pa0_w3 hb4.size
  have F_c0_w4 : In w4 w2.heap.size w3.heap.size (.slice (some ⟨g3, 0, none⟩) a0.length a0.length) (fl a0) := F_c0_w3.step hb4
  have T_c0_w4 : w3.heap.size ≤ w4.heap.size := Nat.le_trans T_c0_w3 hb4.size
  have B_w4 : Below w.heap.size w w4 := B_w3.trans (hb4.mono B_w3.size)
  have S_r0 : w.heap.size ≤ w3.heap.size := B_w3.size
  have D_pa0_r0 : w1.heap.size ≤ w3.heap.size := T_pa0_w3
  have D_c0_r0 : w3.heap.size ≤ w3.heap.size := T_c0_w3
  clear F_a0_w3 F_pa0_w3 T_pa0_w3 F_c0_w3 T_c0_w3 B_w3
  have F_r0_w4 : In w4 w3.heap.size w4.heap.size (.slice Ar L.length cr) (fl L) := In.made O4x
  have T_r0_w4 : w4.heap.size ≤ w4.heap.size := Nat.le_refl _
  clear O4x
  clear hb4
  clear F_c0_w4 T_c0_w4
  obtain ⟨_, Z_pa0_w4, c74, _⟩ := F_pa0_w4.1.cells' (by decide)
  have Q_pa00_w4 : w4.cell? ⟨w.heap.size, 0, none⟩ = some (.int .i64 p0) := c74 0 _ rfl
  have Q_pa01_w4 : w4.cell? ⟨w.heap.size, 1, none⟩ = some (.int .i64 q0) := c74 1 _ rfl
  have Q_pa02_w4 : w4.cell? ⟨w.heap.size, 2, none⟩ = some ((.slice A0 a0.length c0)) := c74 2 _ rfl
  clear c74
  go_wp2_with fail
  clear Z_pa0_w4 Q_pa00_w4 Q_pa01_w4 Q_pa02_w4
  have hb5 : Below w4.heap.size w4 (w4.alloc (.cells #[.int .i64 P, .int .i64 Q, .slice Ar L.length cr] 50)) := (Below.refl _ _).alloc (Nat.le_refl _) _
  have O5 := own_box3 w4 (.int .i64 P) (.int .i64 Q) (.slice Ar L.length cr) 50
  generalize w4.alloc (.cells #[.int .i64 P, .int .i64 Q, .slice Ar L.length cr] 50) = w5 at *
  have F_a0_w5 : Rd w5 w.heap.size (.slice A0 a0.length c0) (fl a0) := F_a0_w4.below (hb5.mono B_w4.size)
  have F_pa0_w5 : In w5 w.heap.size w1.heap.size (.slice (some ⟨w.heap.size, 0, none⟩) 3 3) ([.int .i64 p0, .int .i64 q0, (.slice A0 a0.length c0)]) := F_pa0_w4.step hb5
  have T_pa0_w5 : w1.heap.size ≤ w5.heap.size := Nat.le_trans T_pa0_w4 hb5.size
  have F_r0_w5 : In w5 w3.heap.size w4.heap.size (.slice Ar L.length cr) (fl L) := F_r0_w4.step hb5
  have T_r0_w5 : w4.heap.size ≤ w5.heap.size := Nat.le_trans T_r0_w4 hb5.size
  have B_w5 : Below w.heap.size w w5 := B_w4.trans (hb5.mono B_w4.size)
  have S_pr : w.heap.size ≤ w4.heap.size := B_w4.size
  have D_pa0_pr : w1.heap.size ≤ w4.heap.size := T_pa0_w4
  have D_r0_pr : w4.heap.size ≤ w4.heap.size := T_r0_w4
  clear F_a0_w4 F_pa0_w4 T_pa0_w4 F_r0_w4 T_r0_w4 B_w4
  have F_pr_w5 : In w5 w4.heap.size w5.heap.size (.slice (some ⟨w4.heap.size, 0, none⟩) 3 3) ([.int .i64 P, .int .i64 Q, .slice Ar L.length cr]) := In.made O5
  have T_pr_w5 : w5.heap.size ≤ w5.heap.size := Nat.le_refl _
  clear O5
  clear hb5
  refine (toPic_any _ p0 q0 a0 _ (F_a0_w5.more B_w5.size) hm0).mono ?_
  rintro e w6 ⟨g6, rfl, O6, hb6⟩
  have F_a0_w6 : Rd w6 w.heap.size (.slice A0 a0.length c0) (fl a0) := F_a0_w5.below (hb6.mono B_w5.size)
  have F_pa0_w6 : In w6 w.heap.size w1.heap.size (.slice (some ⟨w.heap.size, 0, none⟩) 3 3) ([.int .i64 p0, .int .i64 q0, (.slice A0 a0.length c0)]) := F_pa0_w5.step hb6
  have T_pa0_w6 : w1.heap.size ≤ w6.heap.size := Nat.le_trans T_pa0_w5 hb6.size
  have F_r0_w6 : In w6 w3.heap.size w4.heap.size (.slice Ar L.length cr) (fl L) := F_r0_w5.step hb6
  have T_r0_w6 : w4.heap.size ≤ w6.heap.size := Nat.le_trans T_r0_w5 hb6.size
  have F_pr_w6 : In w6 w4.heap.size w5.heap.size (.slice (some ⟨w4.heap.size, 0, none⟩) 3 3) ([.int .i64 P, .int .i64 Q, .slice Ar L.length cr]) := F_pr_w5.step hb6
  have T_pr_w6 : w5.heap.size ≤ w6.heap.size := Nat.le_trans T_pr_w5 hb6.size
  have B_w6 : Below w.heap.size w w6 := B_w5.trans (hb6.mono B_w5.size)
  have S_x0 : w.heap.size ≤ w5.heap.size := B_w5.size
  have D_pa0_x0 : w1.heap.size ≤ w5.heap.size := T_pa0_w5
  have D_r0_x0 : w4.heap.size ≤ w5.heap.size := T_r0_w5
  have D_pr_x0 : w5.heap.size ≤ w5.heap.size := T_pr_w5
  clear F_a0_w5 F_pa0_w5 T_pa0_w5 F_r0_w5 T_r0_w5 F_pr_w5 T_pr_w5 B_w5
  have F_x0_w6 : In w6 w5.heap.size w6.heap.size (.slice (some ⟨g6, 0, none⟩) a0.length a0.length) (fl a0) := In.made O6
  have T_x0_w6 : w6.heap.size ≤ w6.heap.size := Nat.le_refl _
  clear O6
  clear hb6
  go_wp2_with fail
  have hb7 : Below w6.heap.size w6 (w6.alloc (.cells #[.int .i64 p0, .int .i64 q0, (.slice (some ⟨g6, 0, none⟩) a0.length a0.length)] 50)) := (Below.refl _ _).alloc (Nat.le_refl _) _
  have O7 := own_box3 w6 (.int .i64 p0) (.int .i64 q0) ((.slice (some ⟨g6, 0, none⟩) a0.length a0.length)) 50
  generalize w6.alloc (.cells #[.int .i64 p0, .int .i64 q0, (.slice (some ⟨g6, 0, none⟩) a0.length a0.length)] 50) = w7 at *
  have F_a0_w7 : Rd w7 w.heap.size (.slice A0 a0.length c0) (fl a0) := F_a0_w6.below (hb7.mono B_w6.size)
  have F_pa0_w7 : In w7 w.heap.size w1.heap.size (.slice (some ⟨w.heap.size, 0, none⟩) 3 3) ([.int .i64 p0, .int .i64 q0, (.slice A0 a0.length c0)]) := F_pa0_w6.step hb7
  have T_pa0_w7 : w1.heap.size ≤ w7.heap.size := Nat.le_trans T_pa0_w6 hb7.size
  have F_r0_w7 : In w7 w3.heap.size w4.heap.size (.slice Ar L.length cr) (fl L) := F_r0_w6.step hb7
  have T_r0_w7 : w4.heap.size ≤ w7.heap.size := Nat.le_trans T_r0_w6 hb7.size
  have F_pr_w7 : In w7 w4.heap.size w5.heap.size (.slice (some ⟨w4.heap.size, 0, none⟩) 3 3) ([.int .i64 P, .int .i64 Q, .slice Ar L.length cr]) := F_pr_w6.step hb7
  have T_pr_w7 : w5.heap.size ≤ w7.heap.size := Nat.le_trans T_pr_w6 hb7.size
  have F_x0_w7 : In w7 w5.heap.size w6.heap.size (.slice (some ⟨g6, 0, none⟩) a0.length a0.length) (fl a0) := F_x0_w6.step hb7
  have T_x0_w7 : w6.heap.size ≤ w7.heap.size := Nat.le_trans T_x0_w6 hb7.size
  have B_w7 : Below w.heap.size w w7 := B_w6.trans (hb7.mono B_w6.size)
  have S_px0 : w.heap.size ≤ w6.heap.size := B_w6.size
  have D_pa0_px0 : w1.heap.size ≤ w6.heap.size := T_pa0_w6
  have D_r0_px0 : w4.heap.size ≤ w6.heap.size := T_r0_w6
  have D_pr_px0 : w5.heap.size ≤ w6.heap.size := T_pr_w6
  have D_x0_px0 : w6.heap.size ≤ w6.heap.size := T_x0_w6
  clear F_a0_w6 F_pa0_w6 T_pa0_w6 F_r0_w6 T_r0_w6 F_pr_w6 T_pr_w6 F_x0_w6 T_x0_w6 B_w6
  have F_px0_w7 : In w7 w6.heap.size w7.heap.size (.slice (some ⟨w6.heap.size, 0, none⟩) 3 3) ([.int .i64 p0, .int .i64 q0, (.slice (some ⟨g6, 0, none⟩) a0.length a0.length)]) := In.made O7
  have T_px0_w7 : w7.heap.size ≤ w7.heap.size := Nat.le_refl _
  clear O7
  clear hb7
  refine (HI.out _ _ F_x0_w7.rd).mono ?_
  rintro e w8 ⟨Ag, cg, rfl, O8x, hb8⟩
  have F_a0_w8 : Rd w8 w.heap.size (.slice A0 a0.length c0) (fl a0) := F_a0_w7.below (hb8.mono B_w7.size)
  have F_pa0_w8 : In w8 w.heap.size w1.heap.size (.slice (some ⟨w.heap.size, 0, none⟩) 3 3) ([.int .i64 p0, .int .i64 q0, (.slice A0 a0.length c0)]) := F_pa0_w7.step hb8
  have T_pa0_w8 : w1.heap.size ≤ w8.heap.size := Nat.le_trans T_pa0_w7 hb8.size
  have F_r0_w8 : In w8 w3.heap.size w4.heap.size (.slice Ar L.length cr) (fl L) := F_r0_w7.step hb8
  have T_r0_w8 : w4.heap.size ≤ w8.heap.size := Nat.le_trans T_r0_w7 hb8.size
  have F_pr_w8 : In w8 w4.heap.size w5.heap.size (.slice (some ⟨w4.heap.size, 0, none⟩) 3 3) ([.int .i64 P, .int .i64 Q, .slice Ar L.length cr]) := F_pr_w7.step hb8
  have T_pr_w8 : w5.heap.size ≤ w8.heap.size := Nat.le_trans T_pr_w7 hb8.size
  have F_x0_w8 : In w8 w5.heap.size w6.heap.size (.slice (some ⟨g6, 0, none⟩) a0.length a0.length) (fl a0) := F_x0_w7.step hb8
  have T_x0_w8 : w6.heap.size ≤ w8.heap.size := Nat.le_trans T_x0_w7 hb8.size
  have F_px0_w8 : In w8 w6.heap.size w7.heap.size (.slice (some ⟨w6.heap.size, 0, none⟩) 3 3) ([.int .i64 p0, .int .i64 q0, (.slice (some ⟨g6, 0, none⟩) a0.length a0.length)]) := F_px0_w7.step hb8
  have T_px0_w8 : w7.heap.size ≤ w8.heap.size := Nat.le_trans T_px0_w7 hb8.size
  have B_w8 : Below w.heap.size w w8 := B_w7.trans (hb8.mono B_w7.size)
  have S_g0 : w.heap.size ≤ w7.heap.size := B_w7.size
  have D_pa0_g0 : w1.heap.size ≤ w7.heap.size := T_pa0_w7
  have D_r0_g0 : w4.heap.size ≤ w7.heap.size := T_r0_w7
  have D_pr_g0 : w5.heap.size ≤ w7.heap.size := T_pr_w7
  have D_x0_g0 : w6.heap.size ≤ w7.heap.size := T_x0_w7
  have D_px0_g0 : w7.heap.size ≤ w7.heap.size := T_px0_w7
  clear F_a0_w7 F_pa0_w7 T_pa0_w7 F_r0_w7 T_r0_w7 F_pr_w7 T_pr_w7 F_x0_w7 T_x0_w7 F_px0_w7 T_px0_w7 B_w7
  have F_g0_w8 : In w8 w7.heap.size w8.heap.size (.slice Ag L.length cg) (fl L) := In.made O8x
  have T_g0_w8 : w8.heap.size ≤ w8.heap.size := Nat.le_refl _
  clear O8x
  clear hb8
  obtain ⟨_, Z_pr_w8, c166, _⟩ := F_pr_w8.1.cells' (by decide)
  have Q_pr0_w8 : w8.cell? ⟨w4.heap.size, 0, none⟩ = some (.int .i64 P) := c166 0 _ rfl
  have Q_pr1_w8 : w8.cell? ⟨w4.heap.size, 1, none⟩ = some (.int .i64 Q) := c166 1 _ rfl
  have Q_pr2_w8 : w8.cell? ⟨w4.heap.size, 2, none⟩ = some (.slice Ar L.length cr) := c166 2 _ rfl
  clear c166
  go_wp2_with fail
  clear Z_pr_w8 Q_pr0_w8 Q_pr1_w8 Q_pr2_w8
  have hb9 : Below w8.heap.size w8 (w8.alloc (.cells #[.int .i64 P, .int .i64 Q, .slice Ag L.length cg] 50)) := (Below.refl _ _).alloc (Nat.le_refl _) _
  have O9 := own_box3 w8 (.int .i64 P) (.int .i64 Q) (.slice Ag L.length cg) 50
  generalize w8.alloc (.cells #[.int .i64 P, .int .i64 Q, .slice Ag L.length cg] 50) = w9 at *
  have F_a0_w9 : Rd w9 w.heap.size (.slice A0 a0.length c0) (fl a0) := F_a0_w8.below (hb9.mono B_w8.size)
  have F_pa0_w9 : In w9 w.heap.size w1.heap.size (.slice (some ⟨w.heap.size, 0, none⟩) 3 3) ([.int .i64 p0, .int .i64 q0, (.slice A0 a0.length c0)]) := F_pa0_w8.step hb9
  have T_pa0_w9 : w1.heap.size ≤ w9.heap.size := Nat.le_trans T_pa0_w8 hb9.size
  have F_r0_w9 : In w9 w3.heap.size w4.heap.size (.slice Ar L.length cr) (fl L) := F_r0_w8.step hb9
  have T_r0_w9 : w4.heap.size ≤ w9.heap.size := Nat.le_trans T_r0_w8 hb9.size
  have F_pr_w9 : In w9 w4.heap.size w5.heap.size (.slice (some ⟨w4.heap.size, 0, none⟩) 3 3) ([.int .i64 P, .int .i64 Q, .slice Ar L.length cr]) := F_pr_w8.step hb9
  have T_pr_w9 : w5.heap.size ≤ w9.heap.size := Nat.le_trans T_pr_w8 hb9.size
  have F_x0_w9 : In w9 w5.heap.size w6.heap.size (.slice (some ⟨g6, 0, none⟩) a0.length a0.length) (fl a0) := F_x0_w8.step hb9
  have T_x0_w9 : w6.heap.size ≤ w9.heap.size := Nat.le_trans T_x0_w8 hb9.size
  have F_px0_w9 : In w9 w6.heap.size w7.heap.size (.slice (some ⟨w6.heap.size, 0, none⟩) 3 3) ([.int .i64 p0, .int .i64 q0, (.slice (some ⟨g6, 0, none⟩) a0.length a0.length)]) := F_px0_w8.step hb9
  have T_px0_w9 : w7.heap.size ≤ w9.heap.size := Nat.le_trans T_px0_w8 hb9.size
  have F_g0_w9 : In w9 w7.heap.size w8.heap.size (.slice Ag L.length cg) (fl L) := F_g0_w8.step hb9
  have T_g0_w9 : w8.heap.size ≤ w9.heap.size := Nat.le_trans T_g0_w8 hb9.size
  have B_w9 : Below w.heap.size w w9 := B_w8.trans (hb9.mono B_w8.size)
  have S_pg : w.heap.size ≤ w8.heap.size := B_w8.size
  have D_pa0_pg : w1.heap.size ≤ w8.heap.size := T_pa0_w8
  have D_r0_pg : w4.heap.size ≤ w8.heap.size := T_r0_w8
  have D_pr_pg : w5.heap.size ≤ w8.heap.size := T_pr_w8
  have D_x0_pg : w6.heap.size ≤ w8.heap.size := T_x0_w8
  have D_px0_pg : w7.heap.size ≤ w8.heap.size := T_px0_w8
  have D_g0_pg : w8.heap.size ≤ w8.heap.size := T_g0_w8
  clear F_a0_w8 F_pa0_w8 T_pa0_w8 F_r0_w8 T_r0_w8 F_pr_w8 T_pr_w8 F_x0_w8 T_x0_w8 F_px0_w8 T_px0_w8 F_g0_w8 T_g0_w8 B_w8
  have F_pg_w9 : In w9 w8.heap.size w9.heap.size (.slice (some ⟨w8.heap.size, 0, none⟩) 3 3) ([.int .i64 P, .int .i64 Q, .slice Ag L.length cg]) := In.made O9
  have T_pg_w9 : w9.heap.size ≤ w9.heap.size := Nat.le_refl _
  clear O9
  clear hb9
  refine (eqPic_any _ _ _ _ L L _ F_g0_w9.rd F_r0_w9.rd (Worth.refl _) hL).mono ?_
  rintro e w10 ⟨rfl, hb10⟩
  have F_a0_w10 : Rd w10 w.heap.size (.slice A0 a0.length c0) (fl a0) := F_a0_w9.below (hb10.mono B_w9.size)
  have F_pa0_w10 : In w10 w.heap.size w1.heap.size (.slice (some ⟨w.heap.size, 0, none⟩) 3 3) ([.int .i64 p0, .int .i64 q0, (.slice A0 a0.length c0)]) := F_pa0_w9.step hb10
  have T_pa0_w10 : w1.heap.size ≤ w10.heap.size := Nat.le_trans T_pa0_w9 hb10.size
  have F_r0_w10 : In w10 w3.heap.size w4.heap.size (.slice Ar L.length cr) (fl L) := F_r0_w9.step hb10
  have T_r0_w10 : w4.heap.size ≤ w10.heap.size := Nat.le_trans T_r0_w9 hb10.size
  have F_pr_w10 : In w10 w4.heap.size w5.heap.size (.slice (some ⟨w4.heap.size, 0, none⟩) 3 3) ([.int .i64 P, .int .i64 Q, .slice Ar L.length cr]) := F_pr_w9.step hb10
  have T_pr_w10 : w5.heap.size ≤ w10.heap.size := Nat.le_trans T_pr_w9 hb10.size
  have F_x0_w10 : In w10 w5.heap.size w6.heap.size (.slice (some ⟨g6, 0, none⟩) a0.length a0.length) (fl a0) := F_x0_w9.step hb10
  have T_x0_w10 : w6.heap.size ≤ w10.heap.size := Nat.le_trans T_x0_w9 hb10.size
  have F_px0_w10 : In w10 w6.heap.size w7.heap.size (.slice (some ⟨w6.heap.size, 0, none⟩) 3 3) ([.int .i64 p0, .int .i64 q0, (.slice (some ⟨g6, 0, none⟩) a0.length a0.length)]) := F_px0_w9.step hb10
  have T_px0_w10 : w7.heap.size ≤ w10.heap.size := Nat.le_trans T_px0_w9 hb10.size
  have F_g0_w10 : In w10 w7.heap.size w8.heap.size (.slice Ag L.length cg) (fl L) := F_g0_w9.step hb10
  have T_g0_w10 : w8.heap.size ≤ w10.heap.size := Nat.le_trans T_g0_w9 hb10.size
  have F_pg_w10 : In w10 w8.heap.size w9.heap.size (.slice (some ⟨w8.heap.size, 0, none⟩) 3 3) ([.int .i64 P, .int .i64 Q, .slice Ag L.length cg]) := F_pg_w9.step hb10
  have T_pg_w10 : w9.heap.size ≤ w10.heap.size := Nat.le_trans T_pg_w9 hb10.size
  have B_w10 : Below w.heap.size w w10 := B_w9.trans (hb10.mono B_w9.size)
  clear F_a0_w9 F_pa0_w9 T_pa0_w9 F_r0_w9 T_r0_w9 F_pr_w9 T_pr_w9 F_x0_w9 T_x0_w9 F_px0_w9 T_px0_w9 F_g0_w9 T_g0_w9 F_pg_w9 T_pg_w9 B_w9
  clear hb10
  obtain ⟨_, Z_pa0_w10, c222, _⟩ := F_pa0_w10.1.cells' (by decide)
  have Q_pa00_w10 : w10.cell? ⟨w.heap.size, 0, none⟩ = some (.int .i64 p0) := c222 0 _ rfl
  have Q_pa01_w10 : w10.cell? ⟨w.heap.size, 1, none⟩ = some (.int .i64 q0) := c222 1 _ rfl
  have Q_pa02_w10 : w10.cell? ⟨w.heap.size, 2, none⟩ = some ((.slice A0 a0.length c0)) := c222 2 _ rfl
  clear c222
  obtain ⟨_, Z_px0_w10, c227, _⟩ := F_px0_w10.1.cells' (by decide)
  have Q_px00_w10 : w10.cell? ⟨w6.heap.size, 0, none⟩ = some (.int .i64 p0) := c227 0 _ rfl
  have Q_px01_w10 : w10.cell? ⟨w6.heap.size, 1, none⟩ = some (.int .i64 q0) := c227 1 _ rfl
  have Q_px02_w10 : w10.cell? ⟨w6.heap.size, 2, none⟩ = some ((.slice (some ⟨g6, 0, none⟩) a0.length a0.length)) := c227 2 _ rfl
  clear c227
  have E_a0_w10 : Rd w10 w10.heap.size (.slice A0 a0.length c0) (fl a0) := (F_a0_w10.more B_w10.size)
  have E_x0_w10 : Rd w10 w10.heap.size (.slice (some ⟨g6, 0, none⟩) a0.length a0.length) (fl a0) := F_x0_w10.rd
  go_wp2_with fail
  go_region_held3 (fun w' => w'.cell? ⟨w.heap.size, 0, none⟩ = some (.int .i64 p0) ∧ w'.cell? ⟨w.heap.size, 1, none⟩ = some (.int .i64 q0) ∧ w'.cell? ⟨w.heap.size, 2, none⟩ = some ((.slice A0 a0.length c0)) ∧ w'.cell? ⟨w6.heap.size, 0, none⟩ = some (.int .i64 p0) ∧ w'.cell? ⟨w6.heap.size, 1, none⟩ = some (.int .i64 q0) ∧ w'.cell? ⟨w6.heap.size, 2, none⟩ = some ((.slice (some ⟨g6, 0, none⟩) a0.length a0.length))) (first | exact ⟨Q_pa00_w10, Q_pa01_w10, Q_pa02_w10, Q_px00_w10, Q_px01_w10, Q_px02_w10⟩ | exact ⟨Q_pa00_w11, Q_pa01_w11, Q_pa02_w11, Q_px00_w11, Q_px01_w11, Q_px02_w11⟩ | exact ⟨Q_pa00_w12, Q_pa01_w12, Q_pa02_w12, Q_px00_w12, Q_px01_w12, Q_px02_w12⟩) ((first | (go_at_call 36; refine (toPic_any (.slice A0 a0.length c0) p0 q0 a0 _ ?_ hm0).mono ?_; exact E_a0_w10; rintro e w11 ⟨g11, rfl, P11, hb11⟩; replace hb11 : Below w10.heap.size w10 w11 := below_draw1 hb11; replace P11 : Own w11 w10.heap.size (.slice (some ⟨g11, 0, none⟩) a0.length a0.length) (fl a0) := P11; have E_a0_w11 := E_a0_w10.step hb11; have E_x0_w11 := E_x0_w10.step hb11; have Q_pa00_w11 : w11.cell? ⟨w.heap.size, 0, none⟩ = some (.int .i64 p0) := (hb11.cell (p := ⟨w.heap.size, 0, none⟩) Z_pa0_w10).trans Q_pa00_w10; have Q_pa01_w11 : w11.cell? ⟨w.heap.size, 1, none⟩ = some (.int .i64 q0) := (hb11.cell (p := ⟨w.heap.size, 1, none⟩) Z_pa0_w10).trans Q_pa01_w10; have Q_pa02_w11 : w11.cell? ⟨w.heap.size, 2, none⟩ = some ((.slice A0 a0.length c0)) := (hb11.cell (p := ⟨w.heap.size, 2, none⟩) Z_pa0_w10).trans Q_pa02_w10; have Z_pa0_w11 := Nat.lt_of_lt_of_le Z_pa0_w10 hb11.size; have Q_px00_w11 : w11.cell? ⟨w6.heap.size, 0, none⟩ = some (.int .i64 p0) := (hb11.cell (p := ⟨w6.heap.size, 0, none⟩) Z_px0_w10).trans Q_px00_w10; have Q_px01_w11 : w11.cell? ⟨w6.heap.size, 1, none⟩ = some (.int .i64 q0) := (hb11.cell (p := ⟨w6.heap.size, 1, none⟩) Z_px0_w10).trans Q_px01_w10; have Q_px02_w11 : w11.cell? ⟨w6.heap.size, 2, none⟩ = some ((.slice (some ⟨g6, 0, none⟩) a0.length a0.length)) := (hb11.cell (p := ⟨w6.heap.size, 2, none⟩) Z_px0_w10).trans Q_px02_w10; have Z_px0_w11 := Nat.lt_of_lt_of_le Z_px0_w10 hb11.size; have E_d0_w11 := P11.rd) | (go_at_call 38; refine (eqPic_any _ _ p0 q0 a0 a0 _ ?_ ?_ (Worth.refl _) hm0).mono ?_; exact E_x0_w11; exact E_d0_w11; rintro e w12 ⟨rfl, hb12⟩; have E_a0_w12 := E_a0_w11.step hb12; have E_x0_w12 := E_x0_w11.step hb12; have E_d0_w12 := E_d0_w11.step hb12; have Q_pa00_w12 : w12.cell? ⟨w.heap.size, 0, none⟩ = some (.int .i64 p0) := (hb12.cell (p := ⟨w.heap.size, 0, none⟩) Z_pa0_w11).trans Q_pa00_w11; have Q_pa01_w12 : w12.cell? ⟨w.heap.size, 1, none⟩ = some (.int .i64 q0) := (hb12.cell (p := ⟨w.heap.size, 1, none⟩) Z_pa0_w11).trans Q_pa01_w11; have Q_pa02_w12 : w12.cell? ⟨w.heap.size, 2, none⟩ = some ((.slice A0 a0.length c0)) := (hb12.cell (p := ⟨w.heap.size, 2, none⟩) Z_pa0_w11).trans Q_pa02_w11; have Z_pa0_w12 := Nat.lt_of_lt_of_le Z_pa0_w11 hb12.size; have Q_px00_w12 : w12.cell? ⟨w6.heap.size, 0, none⟩ = some (.int .i64 p0) := (hb12.cell (p := ⟨w6.heap.size, 0, none⟩) Z_px0_w11).trans Q_px00_w11; have Q_px01_w12 : w12.cell? ⟨w6.heap.size, 1, none⟩ = some (.int .i64 q0) := (hb12.cell (p := ⟨w6.heap.size, 1, none⟩) Z_px0_w11).trans Q_px01_w11; have Q_px02_w12 : w12.cell? ⟨w6.heap.size, 2, none⟩ = some ((.slice (some ⟨g6, 0, none⟩) a0.length a0.length)) := (hb12.cell (p := ⟨w6.heap.size, 2, none⟩) Z_px0_w11).trans Q_px02_w11; have Z_px0_w12 := Nat.lt_of_lt_of_le Z_px0_w11 hb12.size)))
  have hc13 : Below w10.heap.size w10 w12 := (hb11.trans (hb12.mono (by have := hb11.size; omega)))
  clear E_a0_w11 E_x0_w11 Q_pa00_w11 Q_pa01_w11 Q_pa02_w11 Z_pa0_w11 Q_px00_w11 Q_px01_w11 Q_px02_w11 Z_px0_w11 E_d0_w11 E_a0_w12 E_x0_w12 E_d0_w12 Q_pa00_w12 Q_pa01_w12 Q_pa02_w12 Z_pa0_w12 Q_px00_w12 Q_px01_w12 Q_px02_w12 Z_px0_w12 Z_pa0_w10 Q_pa00_w10 Q_pa01_w10 Q_pa02_w10 Z_px0_w10 Q_px00_w10 Q_px01_w10 Q_px02_w10 E_a0_w10 E_x0_w10 P11
  have F_a0_w12 : Rd w12 w.heap.size (.slice A0 a0.length c0) (fl a0) := F_a0_w10.below (hc13.mono B_w10.size)
  have F_pa0_w12 : In w12 w.heap.size w1.heap.size (.slice (some ⟨w.heap.size, 0, none⟩) 3 3) ([.int .i64 p0, .int .i64 q0, (.slice A0 a0.length c0)]) := F_pa0_w10.step hc13
  have T_pa0_w12 : w1.heap.size ≤ w12.heap.size := Nat.le_trans T_pa0_w10 hc13.size
  have F_r0_w12 : In w12 w3.heap.size w4.heap.size (.slice Ar L.length cr) (fl L) := F_r0_w10.step hc13
  have T_r0_w12 : w4.heap.size ≤ w12.heap.size := Nat.le_trans T_r0_w10 hc13.size
  have F_pr_w12 : In w12 w4.heap.size w5.heap.size (.slice (some ⟨w4.heap.size, 0, none⟩) 3 3) ([.int .i64 P, .int .i64 Q, .slice Ar L.length cr]) := F_pr_w10.step hc13
  have T_pr_w12 : w5.heap.size ≤ w12.heap.size := Nat.le_trans T_pr_w10 hc13.size
  have F_x0_w12 : In w12 w5.heap.size w6.heap.size (.slice (some ⟨g6, 0, none⟩) a0.length a0.length) (fl a0) := F_x0_w10.step hc13
  have T_x0_w12 : w6.heap.size ≤ w12.heap.size := Nat.le_trans T_x0_w10 hc13.size
  have F_px0_w12 : In w12 w6.heap.size w7.heap.size (.slice (some ⟨w6.heap.size, 0, none⟩) 3 3) ([.int .i64 p0, .int .i64 q0, (.slice (some ⟨g6, 0, none⟩) a0.length a0.length)]) := F_px0_w10.step hc13
  have T_px0_w12 : w7.heap.size ≤ w12.heap.size := Nat.le_trans T_px0_w10 hc13.size
  have F_g0_w12 : In w12 w7.heap.size w8.heap.size (.slice Ag L.length cg) (fl L) := F_g0_w10.step hc13
  have T_g0_w12 : w8.heap.size ≤ w12.heap.size := Nat.le_trans T_g0_w10 hc13.size
  have F_pg_w12 : In w12 w8.heap.size w9.heap.size (.slice (some ⟨w8.heap.size, 0, none⟩) 3 3) ([.int .i64 P, .int .i64 Q, .slice Ag L.length cg]) := F_pg_w10.step hc13
  have T_pg_w12 : w9.heap.size ≤ w12.heap.size := Nat.le_trans T_pg_w10 hc13.size
  have B_w12 : Below w.heap.size w w12 := B_w10.trans (hc13.mono B_w10.size)
  clear F_a0_w10 F_pa0_w10 T_pa0_w10 F_r0_w10 T_r0_w10 F_pr_w10 T_pr_w10 F_x0_w10 T_x0_w10 F_px0_w10 T_px0_w10 F_g0_w10 T_g0_w10 F_pg_w10 T_pg_w10 B_w10
  clear hc13 hb11 hb12
  obtain ⟨_, Z_px0_w12, c256, _⟩ := F_px0_w12.1.cells' (by decide)
  have Q_px00_w12 : w12.cell? ⟨w6.heap.size, 0, none⟩ = some (.int .i64 p0) := c256 0 _ rfl
  have Q_px01_w12 : w12.cell? ⟨w6.heap.size, 1, none⟩ = some (.int .i64 q0) := c256 1 _ rfl
  have Q_px02_w12 : w12.cell? ⟨w6.heap.size, 2, none⟩ = some ((.slice (some ⟨g6, 0, none⟩) a0.length a0.length)) := c256 2 _ rfl
  clear c256
  go_wp2_with fail
  clear Z_px0_w12 Q_px00_w12 Q_px01_w12 Q_px02_w12
  refine (markPic_any _ _ _ a0 _ _ _ F_x0_w12.1 hm0 (by omega) (by omega)).mono ?_
  rintro e w15 ⟨rfl, w14, hb14, hw15⟩
  have F_a0_w14 : Rd w14 w.heap.size (.slice A0 a0.length c0) (fl a0) := F_a0_w12.below (hb14.mono B_w12.size)
  have F_pa0_w14 : In w14 w.heap.size w1.heap.size (.slice (some ⟨w.heap.size, 0, none⟩) 3 3) ([.int .i64 p0, .int .i64 q0, (.slice A0 a0.length c0)]) := F_pa0_w12.step hb14
  have T_pa0_w14 : w1.heap.size ≤ w14.heap.size := Nat.le_trans T_pa0_w12 hb14.size
  have F_r0_w14 : In w14 w3.heap.size w4.heap.size (.slice Ar L.length cr) (fl L) := F_r0_w12.step hb14
  have T_r0_w14 : w4.heap.size ≤ w14.heap.size := Nat.le_trans T_r0_w12 hb14.size
  have F_pr_w14 : In w14 w4.heap.size w5.heap.size (.slice (some ⟨w4.heap.size, 0, none⟩) 3 3) ([.int .i64 P, .int .i64 Q, .slice Ar L.length cr]) := F_pr_w12.step hb14
  have T_pr_w14 : w5.heap.size ≤ w14.heap.size := Nat.le_trans T_pr_w12 hb14.size
  have F_x0_w14 : In w14 w5.heap.size w6.heap.size (.slice (some ⟨g6, 0, none⟩) a0.length a0.length) (fl a0) := F_x0_w12.step hb14
  have T_x0_w14 : w6.heap.size ≤ w14.heap.size := Nat.le_trans T_x0_w12 hb14.size
  have F_px0_w14 : In w14 w6.heap.size w7.heap.size (.slice (some ⟨w6.heap.size, 0, none⟩) 3 3) ([.int .i64 p0, .int .i64 q0, (.slice (some ⟨g6, 0, none⟩) a0.length a0.length)]) := F_px0_w12.step hb14
  have T_px0_w14 : w7.heap.size ≤ w14.heap.size := Nat.le_trans T_px0_w12 hb14.size
  have F_g0_w14 : In w14 w7.heap.size w8.heap.size (.slice Ag L.length cg) (fl L) := F_g0_w12.step hb14
  have T_g0_w14 : w8.heap.size ≤ w14.heap.size := Nat.le_trans T_g0_w12 hb14.size
  have F_pg_w14 : In w14 w8.heap.size w9.heap.size (.slice (some ⟨w8.heap.size, 0, none⟩) 3 3) ([.int .i64 P, .int .i64 Q, .slice Ag L.length cg]) := F_pg_w12.step hb14
  have T_pg_w14 : w9.heap.size ≤ w14.heap.size := Nat.le_trans T_pg_w12 hb14.size
  have B_w14 : Below w.heap.size w w14 := B_w12.trans (hb14.mono B_w12.size)
  clear F_a0_w12 F_pa0_w12 T_pa0_w12 F_r0_w12 T_r0_w12 F_pr_w12 T_pr_w12 F_x0_w12 T_x0_w12 F_px0_w12 T_px0_w12 F_g0_w12 T_g0_w12 F_pg_w12 T_pg_w12 B_w12
  clear hb14
  have ht15 : Tw w5.heap.size w6.heap.size w14 w15 := by rw [hw15]; exact over_tw F_x0_w14.1 F_x0_w14.2 _
  have NF15 : In w15 w5.heap.size w6.heap.size (.slice (some ⟨g6, 0, none⟩) a0.length a0.length) ((List.range a0.length).map (mkF (1))) := by rw [hw15]; have := F_x0_w14.over (mkF (1)); rw [fl_len] at this; exact this
  clear hw15
  have F_a0_w15 : Rd w15 w.heap.size (.slice A0 a0.length c0) (fl a0) := F_a0_w14.tw ht15 S_x0 B_w14.size
  have F_pa0_w15 : In w15 w.heap.size w1.heap.size (.slice (some ⟨w.heap.size, 0, none⟩) 3 3) ([.int .i64 p0, .int .i64 q0, (.slice A0 a0.length c0)]) := F_pa0_w14.tw ht15 (.inl D_pa0_x0)
  have T_pa0_w15 : w1.heap.size ≤ w15.heap.size := Nat.le_trans T_pa0_w14 ht15.size
  have F_r0_w15 : In w15 w3.heap.size w4.heap.size (.slice Ar L.length cr) (fl L) := F_r0_w14.tw ht15 (.inl D_r0_x0)
  have T_r0_w15 : w4.heap.size ≤ w15.heap.size := Nat.le_trans T_r0_w14 ht15.size
  have F_pr_w15 : In w15 w4.heap.size w5.heap.size (.slice (some ⟨w4.heap.size, 0, none⟩) 3 3) ([.int .i64 P, .int .i64 Q, .slice Ar L.length cr]) := F_pr_w14.tw ht15 (.inl D_pr_x0)
  have T_pr_w15 : w5.heap.size ≤ w15.heap.size := Nat.le_trans T_pr_w14 ht15.size
  have F_x0_w15 : In w15 w5.heap.size w6.heap.size (.slice (some ⟨g6, 0, none⟩) a0.length a0.length) ((List.range a0.length).map (mkF (1))) := NF15
  have T_x0_w15 : w6.heap.size ≤ w15.heap.size := Nat.le_trans T_x0_w14 ht15.size
  have F_px0_w15 : In w15 w6.heap.size w7.heap.size (.slice (some ⟨w6.heap.size, 0, none⟩) 3 3) ([.int .i64 p0, .int .i64 q0, (.slice (some ⟨g6, 0, none⟩) a0.length a0.length)]) := F_px0_w14.tw ht15 (.inr D_x0_px0)
  have T_px0_w15 : w7.heap.size ≤ w15.heap.size := Nat.le_trans T_px0_w14 ht15.size
  have F_g0_w15 : In w15 w7.heap.size w8.heap.size (.slice Ag L.length cg) (fl L) := F_g0_w14.tw ht15 (.inr D_x0_g0)
  have T_g0_w15 : w8.heap.size ≤ w15.heap.size := Nat.le_trans T_g0_w14 ht15.size
  have F_pg_w15 : In w15 w8.heap.size w9.heap.size (.slice (some ⟨w8.heap.size, 0, none⟩) 3 3) ([.int .i64 P, .int .i64 Q, .slice Ag L.length cg]) := F_pg_w14.tw ht15 (.inr D_x0_pg)
  have T_pg_w15 : w9.heap.size ≤ w15.heap.size := Nat.le_trans T_pg_w14 ht15.size
  have B_w15 : Below w.heap.size w w15 := B_w14.trans (ht15.below S_x0 B_w14.size)
  clear F_a0_w14 F_pa0_w14 T_pa0_w14 F_r0_w14 T_r0_w14 F_pr_w14 T_pr_w14 F_x0_w14 T_x0_w14 F_px0_w14 T_px0_w14 F_g0_w14 T_g0_w14 F_pg_w14 T_pg_w14 B_w14
  clear ht15 NF15
  obtain ⟨_, Z_pg_w15, c304, _⟩ := F_pg_w15.1.cells' (by decide)
  have Q_pg0_w15 : w15.cell? ⟨w8.heap.size, 0, none⟩ = some (.int .i64 P) := c304 0 _ rfl
  have Q_pg1_w15 : w15.cell? ⟨w8.heap.size, 1, none⟩ = some (.int .i64 Q) := c304 1 _ rfl
  have Q_pg2_w15 : w15.cell? ⟨w8.heap.size, 2, none⟩ = some (.slice Ag L.length cg) := c304 2 _ rfl
  clear c304
  obtain ⟨_, Z_pr_w15, c309, _⟩ := F_pr_w15.1.cells' (by decide)
  have Q_pr0_w15 : w15.cell? ⟨w4.heap.size, 0, none⟩ = some (.int .i64 P) := c309 0 _ rfl
  have Q_pr1_w15 : w15.cell? ⟨w4.heap.size, 1, none⟩ = some (.int .i64 Q) := c309 1 _ rfl
  have Q_pr2_w15 : w15.cell? ⟨w4.heap.size, 2, none⟩ = some (.slice Ar L.length cr) := c309 2 _ rfl
  clear c309
  go_wp2_with fail
  clear Z_pg_w15 Q_pg0_w15 Q_pg1_w15 Q_pg2_w15 Z_pr_w15 Q_pr0_w15 Q_pr1_w15 Q_pr2_w15
  refine (eqPic_any _ _ _ _ L L _ F_g0_w15.rd F_r0_w15.rd (Worth.refl _) hL).mono ?_
  rintro e w16 ⟨rfl, hb16⟩
  have F_a0_w16 : Rd w16 w.heap.size (.slice A0 a0.length c0) (fl a0) := F_a0_w15.below (hb16.mono B_w15.size)
  have F_pa0_w16 : In w16 w.heap.size w1.heap.size (.slice (some ⟨w.heap.size, 0, none⟩) 3 3) ([.int .i64 p0, .int .i64 q0, (.slice A0 a0.length c0)]) := F_pa0_w15.step hb16
  have T_pa0_w16 : w1.heap.size ≤ w16.heap.size := Nat.le_trans T_pa0_w15 hb16.size
  have F_r0_w16 : In w16 w3.heap.size w4.heap.size (.slice Ar L.length cr) (fl L) := F_r0_w15.step hb16
  have T_r0_w16 : w4.heap.size ≤ w16.heap.size := Nat.le_trans T_r0_w15 hb16.size
  have F_pr_w16 : In w16 w4.heap.size w5.heap.size (.slice (some ⟨w4.heap.size, 0, none⟩) 3 3) ([.int .i64 P, .int .i64 Q, .slice Ar L.length cr]) := F_pr_w15.step hb16
  have T_pr_w16 : w5.heap.size ≤ w16.heap.size := Nat.le_trans T_pr_w15 hb16.size
  have F_x0_w16 : In w16 w5.heap.size w6.heap.size (.slice (some ⟨g6, 0, none⟩) a0.length a0.length) ((List.range a0.length).map (mkF (1))) := F_x0_w15.step hb16
  have T_x0_w16 : w6.heap.size ≤ w16.heap.size := Nat.le_trans T_x0_w15 hb16.size
  have F_px0_w16 : In w16 w6.heap.size w7.heap.size (.slice (some ⟨w6.heap.size, 0, none⟩) 3 3) ([.int .i64 p0, .int .i64 q0, (.slice (some ⟨g6, 0, none⟩) a0.length a0.length)]) := F_px0_w15.step hb16
  have T_px0_w16 : w7.heap.size ≤ w16.heap.size := Nat.le_trans T_px0_w15 hb16.size
  have F_g0_w16 : In w16 w7.heap.size w8.heap.size (.slice Ag L.length cg) (fl L) := F_g0_w15.step hb16
  have T_g0_w16 : w8.heap.size ≤ w16.heap.size := Nat.le_trans T_g0_w15 hb16.size
  have F_pg_w16 : In w16 w8.heap.size w9.heap.size (.slice (some ⟨w8.heap.size, 0, none⟩) 3 3) ([.int .i64 P, .int .i64 Q, .slice Ag L.length cg]) := F_pg_w15.step hb16
  have T_pg_w16 : w9.heap.size ≤ w16.heap.size := Nat.le_trans T_pg_w15 hb16.size
  have B_w16 : Below w.heap.size w w16 := B_w15.trans (hb16.mono B_w15.size)
  clear F_a0_w15 F_pa0_w15 T_pa0_w15 F_r0_w15 T_r0_w15 F_pr_w15 T_pr_w15 F_x0_w15 T_x0_w15 F_px0_w15 T_px0_w15 F_g0_w15 T_g0_w15 F_pg_w15 T_pg_w15 B_w15
  clear hb16
  clear F_x0_w16 T_x0_w16 F_px0_w16 T_px0_w16
  obtain ⟨_, Z_pg_w16, c337, _⟩ := F_pg_w16.1.cells' (by decide)
  have Q_pg0_w16 : w16.cell? ⟨w8.heap.size, 0, none⟩ = some (.int .i64 P) := c337 0 _ rfl
  have Q_pg1_w16 : w16.cell? ⟨w8.heap.size, 1, none⟩ = some (.int .i64 Q) := c337 1 _ rfl
  have Q_pg2_w16 : w16.cell? ⟨w8.heap.size, 2, none⟩ = some (.slice Ag L.length cg) := c337 2 _ rfl
  clear c337
  go_wp2_with fail
  clear Z_pg_w16 Q_pg0_w16 Q_pg1_w16 Q_pg2_w16
  refine (markPic_any _ _ _ L _ _ _ F_g0_w16.1 hL (by omega) (by omega)).mono ?_
  rintro e w18 ⟨rfl, w17, hb17, hw18⟩
  have F_a0_w17 : Rd w17 w.heap.size (.slice A0 a0.length c0) (fl a0) := F_a0_w16.below (hb17.mono B_w16.size)
  have F_pa0_w17 : In w17 w.heap.size w1.heap.size (.slice (some ⟨w.heap.size, 0, none⟩) 3 3) ([.int .i64 p0, .int .i64 q0, (.slice A0 a0.length c0)]) := F_pa0_w16.step hb17
  have T_pa0_w17 : w1.heap.size ≤ w17.heap.size := Nat.le_trans T_pa0_w16 hb17.size
  have F_r0_w17 : In w17 w3.heap.size w4.heap.size (.slice Ar L.length cr) (fl L) := F_r0_w16.step hb17
  have T_r0_w17 : w4.heap.size ≤ w17.heap.size := Nat.le_trans T_r0_w16 hb17.size
  have F_pr_w17 : In w17 w4.heap.size w5.heap.size (.slice (some ⟨w4.heap.size, 0, none⟩) 3 3) ([.int .i64 P, .int .i64 Q, .slice Ar L.length cr]) := F_pr_w16.step hb17
  have T_pr_w17 : w5.heap.size ≤ w17.heap.size := Nat.le_trans T_pr_w16 hb17.size
  have F_g0_w17 : In w17 w7.heap.size w8.heap.size (.slice Ag L.length cg) (fl L) := F_g0_w16.step hb17
  have T_g0_w17 : w8.heap.size ≤ w17.heap.size := Nat.le_trans T_g0_w16 hb17.size
  have F_pg_w17 : In w17 w8.heap.size w9.heap.size (.slice (some ⟨w8.heap.size, 0, none⟩) 3 3) ([.int .i64 P, .int .i64 Q, .slice Ag L.length cg]) := F_pg_w16.step hb17
  have T_pg_w17 : w9.heap.size ≤ w17.heap.size := Nat.le_trans T_pg_w16 hb17.size
  have B_w17 : Below w.heap.size w w17 := B_w16.trans (hb17.mono B_w16.size)
  clear F_a0_w16 F_pa0_w16 T_pa0_w16 F_r0_w16 T_r0_w16 F_pr_w16 T_pr_w16 F_g0_w16 T_g0_w16 F_pg_w16 T_pg_w16 B_w16
  clear hb17
  have ht18 : Tw w7.heap.size w8.heap.size w17 w18 := by rw [hw18]; exact over_tw F_g0_w17.1 F_g0_w17.2 _
  have NF18 : In w18 w7.heap.size w8.heap.size (.slice Ag L.length cg) ((List.range L.length).map (mkF (1))) := by rw [hw18]; have := F_g0_w17.over (mkF (1)); rw [fl_len] at this; exact this
  clear hw18
  have F_a0_w18 : Rd w18 w.heap.size (.slice A0 a0.length c0) (fl a0) := F_a0_w17.tw ht18 S_g0 B_w17.size
  have F_pa0_w18 : In w18 w.heap.size w1.heap.size (.slice (some ⟨w.heap.size, 0, none⟩) 3 3) ([.int .i64 p0, .int .i64 q0, (.slice A0 a0.length c0)]) := F_pa0_w17.tw ht18 (.inl D_pa0_g0)
  have T_pa0_w18 : w1.heap.size ≤ w18.heap.size := Nat.le_trans T_pa0_w17 ht18.size
  have F_r0_w18 : In w18 w3.heap.size w4.heap.size (.slice Ar L.length cr) (fl L) := F_r0_w17.tw ht18 (.inl D_r0_g0)
  have T_r0_w18 : w4.heap.size ≤ w18.heap.size := Nat.le_trans T_r0_w17 ht18.size
  have F_pr_w18 : In w18 w4.heap.size w5.heap.size (.slice (some ⟨w4.heap.size, 0, none⟩) 3 3) ([.int .i64 P, .int .i64 Q, .slice Ar L.length cr]) := F_pr_w17.tw ht18 (.inl D_pr_g0)
  have T_pr_w18 : w5.heap.size ≤ w18.heap.size := Nat.le_trans T_pr_w17 ht18.size
  have F_g0_w18 : In w18 w7.heap.size w8.heap.size (.slice Ag L.length cg) ((List.range L.length).map (mkF (1))) := NF18
  have T_g0_w18 : w8.heap.size ≤ w18.heap.size := Nat.le_trans T_g0_w17 ht18.size
  have F_pg_w18 : In w18 w8.heap.size w9.heap.size (.slice (some ⟨w8.heap.size, 0, none⟩) 3 3) ([.int .i64 P, .int .i64 Q, .slice Ag L.length cg]) := F_pg_w17.tw ht18 (.inr D_g0_pg)
  have T_pg_w18 : w9.heap.size ≤ w18.heap.size := Nat.le_trans T_pg_w17 ht18.size
  have B_w18 : Below w.heap.size w w18 := B_w17.trans (ht18.below S_g0 B_w17.size)
  clear F_a0_w17 F_pa0_w17 T_pa0_w17 F_r0_w17 T_r0_w17 F_pr_w17 T_pr_w17 F_g0_w17 T_g0_w17 F_pg_w17 T_pg_w17 B_w17
  clear ht18 NF18
  obtain ⟨_, Z_pg_w18, c377, _⟩ := F_pg_w18.1.cells' (by decide)
  have Q_pg0_w18 : w18.cell? ⟨w8.heap.size, 0, none⟩ = some (.int .i64 P) := c377 0 _ rfl
  have Q_pg1_w18 : w18.cell? ⟨w8.heap.size, 1, none⟩ = some (.int .i64 Q) := c377 1 _ rfl
  have Q_pg2_w18 : w18.cell? ⟨w8.heap.size, 2, none⟩ = some (.slice Ag L.length cg) := c377 2 _ rfl
  clear c377
  go_wp2_with fail
  clear Z_pg_w18 Q_pg0_w18 Q_pg1_w18 Q_pg2_w18
  refine (heldPic_any _ _ _ L.length _ _ F_g0_w18.rd hL (by omega) (by omega)).mono ?_
  rintro e w19 ⟨rfl, hb19⟩
  have F_a0_w19 : Rd w19 w.heap.size (.slice A0 a0.length c0) (fl a0) := F_a0_w18.below (hb19.mono B_w18.size)
  have F_pa0_w19 : In w19 w.heap.size w1.heap.size (.slice (some ⟨w.heap.size, 0, none⟩) 3 3) ([.int .i64 p0, .int .i64 q0, (.slice A0 a0.length c0)]) := F_pa0_w18.step hb19
  have T_pa0_w19 : w1.heap.size ≤ w19.heap.size := Nat.le_trans T_pa0_w18 hb19.size
  have F_r0_w19 : In w19 w3.heap.size w4.heap.size (.slice Ar L.length cr) (fl L) := F_r0_w18.step hb19
  have T_r0_w19 : w4.heap.size ≤ w19.heap.size := Nat.le_trans T_r0_w18 hb19.size
  have F_pr_w19 : In w19 w4.heap.size w5.heap.size (.slice (some ⟨w4.heap.size, 0, none⟩) 3 3) ([.int .i64 P, .int .i64 Q, .slice Ar L.length cr]) := F_pr_w18.step hb19
  have T_pr_w19 : w5.heap.size ≤ w19.heap.size := Nat.le_trans T_pr_w18 hb19.size
  have F_g0_w19 : In w19 w7.heap.size w8.heap.size (.slice Ag L.length cg) ((List.range L.length).map (mkF (1))) := F_g0_w18.step hb19
  have T_g0_w19 : w8.heap.size ≤ w19.heap.size := Nat.le_trans T_g0_w18 hb19.size
  have F_pg_w19 : In w19 w8.heap.size w9.heap.size (.slice (some ⟨w8.heap.size, 0, none⟩) 3 3) ([.int .i64 P, .int .i64 Q, .slice Ag L.length cg]) := F_pg_w18.step hb19
  have T_pg_w19 : w9.heap.size ≤ w19.heap.size := Nat.le_trans T_pg_w18 hb19.size
  have B_w19 : Below w.heap.size w w19 := B_w18.trans (hb19.mono B_w18.size)
  clear F_a0_w18 F_pa0_w18 T_pa0_w18 F_r0_w18 T_r0_w18 F_pr_w18 T_pr_w18 F_g0_w18 T_g0_w18 F_pg_w18 T_pg_w18 B_w18
  clear hb19
  obtain ⟨_, Z_pa0_w19, c400, _⟩ := F_pa0_w19.1.cells' (by decide)
  have Q_pa00_w19 : w19.cell? ⟨w.heap.size, 0, none⟩ = some (.int .i64 p0) := c400 0 _ rfl
  have Q_pa01_w19 : w19.cell? ⟨w.heap.size, 1, none⟩ = some (.int .i64 q0) := c400 1 _ rfl
  have Q_pa02_w19 : w19.cell? ⟨w.heap.size, 2, none⟩ = some ((.slice A0 a0.length c0)) := c400 2 _ rfl
  clear c400
  go_wp2_with fail
  clear Z_pa0_w19 Q_pa00_w19 Q_pa01_w19 Q_pa02_w19
  refine (toPic_any _ p0 q0 a0 _ (F_a0_w19.more B_w19.size) hm0).mono ?_
  rintro e w20 ⟨g20, rfl, O20, hb20⟩
  have F_a0_w20 : Rd w20 w.heap.size (.slice A0 a0.length c0) (fl a0) := F_a0_w19.below (hb20.mono B_w19.size)
  have F_pa0_w20 : In w20 w.heap.size w1.heap.size (.slice (some ⟨w.heap.size, 0, none⟩) 3 3) ([.int .i64 p0, .int .i64 q0, (.slice A0 a0.length c0)]) := F_pa0_w19.step hb20
  have T_pa0_w20 : w1.heap.size ≤ w20.heap.size := Nat.le_trans T_pa0_w19 hb20.size
  have F_r0_w20 : In w20 w3.heap.size w4.heap.size (.slice Ar L.length cr) (fl L) := F_r0_w19.step hb20
  have T_r0_w20 : w4.heap.size ≤ w20.heap.size := Nat.le_trans T_r0_w19 hb20.size
  have F_pr_w20 : In w20 w4.heap.size w5.heap.size (.slice (some ⟨w4.heap.size, 0, none⟩) 3 3) ([.int .i64 P, .int .i64 Q, .slice Ar L.length cr]) := F_pr_w19.step hb20
  have T_pr_w20 : w5.heap.size ≤ w20.heap.size := Nat.le_trans T_pr_w19 hb20.size
  have F_g0_w20 : In w20 w7.heap.size w8.heap.size (.slice Ag L.length cg) ((List.range L.length).map (mkF (1))) := F_g0_w19.step hb20
  have T_g0_w20 : w8.heap.size ≤ w20.heap.size := Nat.le_trans T_g0_w19 hb20.size
  have F_pg_w20 : In w20 w8.heap.size w9.heap.size (.slice (some ⟨w8.heap.size, 0, none⟩) 3 3) ([.int .i64 P, .int .i64 Q, .slice Ag L.length cg]) := F_pg_w19.step hb20
  have T_pg_w20 : w9.heap.size ≤ w20.heap.size := Nat.le_trans T_pg_w19 hb20.size
  have B_w20 : Below w.heap.size w w20 := B_w19.trans (hb20.mono B_w19.size)
  have S_y0 : w.heap.size ≤ w19.heap.size := B_w19.size
  have D_pa0_y0 : w1.heap.size ≤ w19.heap.size := T_pa0_w19
  have D_r0_y0 : w4.heap.size ≤ w19.heap.size := T_r0_w19
  have D_pr_y0 : w5.heap.size ≤ w19.heap.size := T_pr_w19
  have D_g0_y0 : w8.heap.size ≤ w19.heap.size := T_g0_w19
  have D_pg_y0 : w9.heap.size ≤ w19.heap.size := T_pg_w19
  clear F_a0_w19 F_pa0_w19 T_pa0_w19 F_r0_w19 T_r0_w19 F_pr_w19 T_pr_w19 F_g0_w19 T_g0_w19 F_pg_w19 T_pg_w19 B_w19
  have F_y0_w20 : In w20 w19.heap.size w20.heap.size (.slice (some ⟨g20, 0, none⟩) a0.length a0.length) (fl a0) := In.made O20
  have T_y0_w20 : w20.heap.size ≤ w20.heap.size := Nat.le_refl _
  clear O20
  clear hb20
  go_wp2_with fail
  refine (HI.out _ _ F_y0_w20.rd).mono ?_
  rintro e w21 ⟨Ah, ch, rfl, O21x, hb21⟩
  have F_a0_w21 : Rd w21 w.heap.size (.slice A0 a0.length c0) (fl a0) := F_a0_w20.below (hb21.mono B_w20.size)
  have F_pa0_w21 : In w21 w.heap.size w1.heap.size (.slice (some ⟨w.heap.size, 0, none⟩) 3 3) ([.int .i64 p0, .int .i64 q0, (.slice A0 a0.length c0)]) := F_pa0_w20.step hb21
  have T_pa0_w21 : w1.heap.size ≤ w21.heap.size := Nat.le_trans T_pa0_w20 hb21.size
  have F_r0_w21 : In w21 w3.heap.size w4.heap.size (.slice Ar L.length cr) (fl L) := F_r0_w20.step hb21
  have T_r0_w21 : w4.heap.size ≤ w21.heap.size := Nat.le_trans T_r0_w20 hb21.size
  have F_pr_w21 : In w21 w4.heap.size w5.heap.size (.slice (some ⟨w4.heap.size, 0, none⟩) 3 3) ([.int .i64 P, .int .i64 Q, .slice Ar L.length cr]) := F_pr_w20.step hb21
  have T_pr_w21 : w5.heap.size ≤ w21.heap.size := Nat.le_trans T_pr_w20 hb21.size
  have F_g0_w21 : In w21 w7.heap.size w8.heap.size (.slice Ag L.length cg) ((List.range L.length).map (mkF (1))) := F_g0_w20.step hb21
  have T_g0_w21 : w8.heap.size ≤ w21.heap.size := Nat.le_trans T_g0_w20 hb21.size
  have F_pg_w21 : In w21 w8.heap.size w9.heap.size (.slice (some ⟨w8.heap.size, 0, none⟩) 3 3) ([.int .i64 P, .int .i64 Q, .slice Ag L.length cg]) := F_pg_w20.step hb21
  have T_pg_w21 : w9.heap.size ≤ w21.heap.size := Nat.le_trans T_pg_w20 hb21.size
  have F_y0_w21 : In w21 w19.heap.size w20.heap.size (.slice (some ⟨g20, 0, none⟩) a0.length a0.length) (fl a0) := F_y0_w20.step hb21
  have T_y0_w21 : w20.heap.size ≤ w21.heap.size := Nat.le_trans T_y0_w20 hb21.size
  have B_w21 : Below w.heap.size w w21 := B_w20.trans (hb21.mono B_w20.size)
  have S_h0 : w.heap.size ≤ w20.heap.size := B_w20.size
  have D_pa0_h0 : w1.heap.size ≤ w20.heap.size := T_pa0_w20
  have D_r0_h0 : w4.heap.size ≤ w20.heap.size := T_r0_w20
  have D_pr_h0 : w5.heap.size ≤ w20.heap.size := T_pr_w20
  have D_g0_h0 : w8.heap.size ≤ w20.heap.size := T_g0_w20
  have D_pg_h0 : w9.heap.size ≤ w20.heap.size := T_pg_w20
  have D_y0_h0 : w20.heap.size ≤ w20.heap.size := T_y0_w20
  clear F_a0_w20 F_pa0_w20 T_pa0_w20 F_r0_w20 T_r0_w20 F_pr_w20 T_pr_w20 F_g0_w20 T_g0_w20 F_pg_w20 T_pg_w20 F_y0_w20 T_y0_w20 B_w20
  have F_h0_w21 : In w21 w20.heap.size w21.heap.size (.slice Ah L.length ch) (fl L) := In.made O21x
  have T_h0_w21 : w21.heap.size ≤ w21.heap.size := Nat.le_refl _
  clear O21x
  clear hb21
  clear F_y0_w21 T_y0_w21
  obtain ⟨_, Z_pr_w21, c462, _⟩ := F_pr_w21.1.cells' (by decide)
  have Q_pr0_w21 : w21.cell? ⟨w4.heap.size, 0, none⟩ = some (.int .i64 P) := c462 0 _ rfl
  have Q_pr1_w21 : w21.cell? ⟨w4.heap.size, 1, none⟩ = some (.int .i64 Q) := c462 1 _ rfl
  have Q_pr2_w21 : w21.cell? ⟨w4.heap.size, 2, none⟩ = some (.slice Ar L.length cr) := c462 2 _ rfl
  clear c462
  go_wp2_with fail
  clear Z_pr_w21 Q_pr0_w21 Q_pr1_w21 Q_pr2_w21
  have hb22 : Below w21.heap.size w21 (w21.alloc (.cells #[.int .i64 P, .int .i64 Q, .slice Ah L.length ch] 50)) := (Below.refl _ _).alloc (Nat.le_refl _) _
  have O22 := own_box3 w21 (.int .i64 P) (.int .i64 Q) (.slice Ah L.length ch) 50
  generalize w21.alloc (.cells #[.int .i64 P, .int .i64 Q, .slice Ah L.length ch] 50) = w22 at *
  have F_a0_w22 : Rd w22 w.heap.size (.slice A0 a0.length c0) (fl a0) := F_a0_w21.below (hb22.mono B_w21.size)
  have F_pa0_w22 : In w22 w.heap.size w1.heap.size (.slice (some ⟨w.heap.size, 0, none⟩) 3 3) ([.int .i64 p0, .int .i64 q0, (.slice A0 a0.length c0)]) := F_pa0_w21.step hb22
  have T_pa0_w22 : w1.heap.size ≤ w22.heap.size := Nat.le_trans T_pa0_w21 hb22.size
  have F_r0_w22 : In w22 w3.heap.size w4.heap.size (.slice Ar L.length cr) (fl L) := F_r0_w21.step hb22
  have T_r0_w22 : w4.heap.size ≤ w22.heap.size := Nat.le_trans T_r0_w21 hb22.size
  have F_pr_w22 : In w22 w4.heap.size w5.heap.size (.slice (some ⟨w4.heap.size, 0, none⟩) 3 3) ([.int .i64 P, .int .i64 Q, .slice Ar L.length cr]) := F_pr_w21.step hb22
  have T_pr_w22 : w5.heap.size ≤ w22.heap.size := Nat.le_trans T_pr_w21 hb22.size
  have F_g0_w22 : In w22 w7.heap.size w8.heap.size (.slice Ag L.length cg) ((List.range L.length).map (mkF (1))) := F_g0_w21.step hb22
  have T_g0_w22 : w8.heap.size ≤ w22.heap.size := Nat.le_trans T_g0_w21 hb22.size
  have F_pg_w22 : In w22 w8.heap.size w9.heap.size (.slice (some ⟨w8.heap.size, 0, none⟩) 3 3) ([.int .i64 P, .int .i64 Q, .slice Ag L.length cg]) := F_pg_w21.step hb22
  have T_pg_w22 : w9.heap.size ≤ w22.heap.size := Nat.le_trans T_pg_w21 hb22.size
  have F_h0_w22 : In w22 w20.heap.size w21.heap.size (.slice Ah L.length ch) (fl L) := F_h0_w21.step hb22
  have T_h0_w22 : w21.heap.size ≤ w22.heap.size := Nat.le_trans T_h0_w21 hb22.size
  have B_w22 : Below w.heap.size w w22 := B_w21.trans (hb22.mono B_w21.size)
  have S_ph : w.heap.size ≤ w21.heap.size := B_w21.size
  have D_pa0_ph : w1.heap.size ≤ w21.heap.size := T_pa0_w21
  have D_r0_ph : w4.heap.size ≤ w21.heap.size := T_r0_w21
  have D_pr_ph : w5.heap.size ≤ w21.heap.size := T_pr_w21
  have D_g0_ph : w8.heap.size ≤ w21.heap.size := T_g0_w21
  have D_pg_ph : w9.heap.size ≤ w21.heap.size := T_pg_w21
  have D_h0_ph : w21.heap.size ≤ w21.heap.size := T_h0_w21
  clear F_a0_w21 F_pa0_w21 T_pa0_w21 F_r0_w21 T_r0_w21 F_pr_w21 T_pr_w21 F_g0_w21 T_g0_w21 F_pg_w21 T_pg_w21 F_h0_w21 T_h0_w21 B_w21
  have F_ph_w22 : In w22 w21.heap.size w22.heap.size (.slice (some ⟨w21.heap.size, 0, none⟩) 3 3) ([.int .i64 P, .int .i64 Q, .slice Ah L.length ch]) := In.made O22
  have T_ph_w22 : w22.heap.size ≤ w22.heap.size := Nat.le_refl _
  clear O22
  clear hb22
  refine (eqPic_any _ _ _ _ L L _ F_h0_w22.rd F_r0_w22.rd (Worth.refl _) hL).mono ?_
  rintro e w23 ⟨rfl, hb23⟩
  have F_a0_w23 : Rd w23 w.heap.size (.slice A0 a0.length c0) (fl a0) := F_a0_w22.below (hb23.mono B_w22.size)
  have F_pa0_w23 : In w23 w.heap.size w1.heap.size (.slice (some ⟨w.heap.size, 0, none⟩) 3 3) ([.int .i64 p0, .int .i64 q0, (.slice A0 a0.length c0)]) := F_pa0_w22.step hb23
  have T_pa0_w23 : w1.heap.size ≤ w23.heap.size := Nat.le_trans T_pa0_w22 hb23.size
  have F_r0_w23 : In w23 w3.heap.size w4.heap.size (.slice Ar L.length cr) (fl L) := F_r0_w22.step hb23
  have T_r0_w23 : w4.heap.size ≤ w23.heap.size := Nat.le_trans T_r0_w22 hb23.size
  have F_pr_w23 : In w23 w4.heap.size w5.heap.size (.slice (some ⟨w4.heap.size, 0, none⟩) 3 3) ([.int .i64 P, .int .i64 Q, .slice Ar L.length cr]) := F_pr_w22.step hb23
  have T_pr_w23 : w5.heap.size ≤ w23.heap.size := Nat.le_trans T_pr_w22 hb23.size
  have F_g0_w23 : In w23 w7.heap.size w8.heap.size (.slice Ag L.length cg) ((List.range L.length).map (mkF (1))) := F_g0_w22.step hb23
  have T_g0_w23 : w8.heap.size ≤ w23.heap.size := Nat.le_trans T_g0_w22 hb23.size
  have F_pg_w23 : In w23 w8.heap.size w9.heap.size (.slice (some ⟨w8.heap.size, 0, none⟩) 3 3) ([.int .i64 P, .int .i64 Q, .slice Ag L.length cg]) := F_pg_w22.step hb23
  have T_pg_w23 : w9.heap.size ≤ w23.heap.size := Nat.le_trans T_pg_w22 hb23.size
  have F_h0_w23 : In w23 w20.heap.size w21.heap.size (.slice Ah L.length ch) (fl L) := F_h0_w22.step hb23
  have T_h0_w23 : w21.heap.size ≤ w23.heap.size := Nat.le_trans T_h0_w22 hb23.size
  have F_ph_w23 : In w23 w21.heap.size w22.heap.size (.slice (some ⟨w21.heap.size, 0, none⟩) 3 3) ([.int .i64 P, .int .i64 Q, .slice Ah L.length ch]) := F_ph_w22.step hb23
  have T_ph_w23 : w22.heap.size ≤ w23.heap.size := Nat.le_trans T_ph_w22 hb23.size
  have B_w23 : Below w.heap.size w w23 := B_w22.trans (hb23.mono B_w22.size)
  clear F_a0_w22 F_pa0_w22 T_pa0_w22 F_r0_w22 T_r0_w22 F_pr_w22 T_pr_w22 F_g0_w22 T_g0_w22 F_pg_w22 T_pg_w22 F_h0_w22 T_h0_w22 F_ph_w22 T_ph_w22 B_w22
  clear hb23
  obtain ⟨_, Z_pg_w23, c518, _⟩ := F_pg_w23.1.cells' (by decide)
  have Q_pg0_w23 : w23.cell? ⟨w8.heap.size, 0, none⟩ = some (.int .i64 P) := c518 0 _ rfl
  have Q_pg1_w23 : w23.cell? ⟨w8.heap.size, 1, none⟩ = some (.int .i64 Q) := c518 1 _ rfl
  have Q_pg2_w23 : w23.cell? ⟨w8.heap.size, 2, none⟩ = some (.slice Ag L.length cg) := c518 2 _ rfl
  clear c518
  go_wp2_with fail
  clear Z_pg_w23 Q_pg0_w23 Q_pg1_w23 Q_pg2_w23
  refine (heldPic_any _ _ _ L.length _ _ F_g0_w23.rd hL (by omega) (by omega)).mono ?_
  rintro e w24 ⟨rfl, hb24⟩
  have F_a0_w24 : Rd w24 w.heap.size (.slice A0 a0.length c0) (fl a0) := F_a0_w23.below (hb24.mono B_w23.size)
  have F_pa0_w24 : In w24 w.heap.size w1.heap.size (.slice (some ⟨w.heap.size, 0, none⟩) 3 3) ([.int .i64 p0, .int .i64 q0, (.slice A0 a0.length c0)]) := F_pa0_w23.step hb24
  have T_pa0_w24 : w1.heap.size ≤ w24.heap.size := Nat.le_trans T_pa0_w23 hb24.size
  have F_r0_w24 : In w24 w3.heap.size w4.heap.size (.slice Ar L.length cr) (fl L) := F_r0_w23.step hb24
  have T_r0_w24 : w4.heap.size ≤ w24.heap.size := Nat.le_trans T_r0_w23 hb24.size
  have F_pr_w24 : In w24 w4.heap.size w5.heap.size (.slice (some ⟨w4.heap.size, 0, none⟩) 3 3) ([.int .i64 P, .int .i64 Q, .slice Ar L.length cr]) := F_pr_w23.step hb24
  have T_pr_w24 : w5.heap.size ≤ w24.heap.size := Nat.le_trans T_pr_w23 hb24.size
  have F_g0_w24 : In w24 w7.heap.size w8.heap.size (.slice Ag L.length cg) ((List.range L.length).map (mkF (1))) := F_g0_w23.step hb24
  have T_g0_w24 : w8.heap.size ≤ w24.heap.size := Nat.le_trans T_g0_w23 hb24.size
  have F_pg_w24 : In w24 w8.heap.size w9.heap.size (.slice (some ⟨w8.heap.size, 0, none⟩) 3 3) ([.int .i64 P, .int .i64 Q, .slice Ag L.length cg]) := F_pg_w23.step hb24
  have T_pg_w24 : w9.heap.size ≤ w24.heap.size := Nat.le_trans T_pg_w23 hb24.size
  have F_h0_w24 : In w24 w20.heap.size w21.heap.size (.slice Ah L.length ch) (fl L) := F_h0_w23.step hb24
  have T_h0_w24 : w21.heap.size ≤ w24.heap.size := Nat.le_trans T_h0_w23 hb24.size
  have F_ph_w24 : In w24 w21.heap.size w22.heap.size (.slice (some ⟨w21.heap.size, 0, none⟩) 3 3) ([.int .i64 P, .int .i64 Q, .slice Ah L.length ch]) := F_ph_w23.step hb24
  have T_ph_w24 : w22.heap.size ≤ w24.heap.size := Nat.le_trans T_ph_w23 hb24.size
  have B_w24 : Below w.heap.size w w24 := B_w23.trans (hb24.mono B_w23.size)
  clear F_a0_w23 F_pa0_w23 T_pa0_w23 F_r0_w23 T_r0_w23 F_pr_w23 T_pr_w23 F_g0_w23 T_g0_w23 F_pg_w23 T_pg_w23 F_h0_w23 T_h0_w23 F_ph_w23 T_ph_w23 B_w23
  clear hb24
  go_wp2_with fail
  go_ret
  exact ⟨rfl, B_w24⟩
end Go.Proofs.Ytfbdmhkmkmbipaa
