/-
  At any two pictures and peak, PeakRatio answers as its model does, and leaves both as they were.
-/
import Derived.Test.YthkklilfignmpaaRows
import Derived.ProofKit
import Derived.OpenShut
import Derived.WalkLawsBesides
import Derived.KernelRfl
import Derived.Test.YthkklilfignmpaaPiL
import Derived.Test.YthkklilfignmpaaPkAll
import Derived.Test.YthkklilfignmpaaMkF
namespace Go.Proofs.Ythkklilfignmpaa
open Go.RowKit Fl
set_option linter.unusedVariables false
set_option maxRecDepth 100000 in
set_option maxHeartbeats 8000000 in
theorem fnExactPeakRatio.walk (w : World) (v0 : Value) (p0 q0 : Int) (a0 : List Nat) (y0 : (Lit.int .i64 p0).wf = true) (z0 : (Lit.int .i64 q0).wf = true) (h0 : Rd w w.heap.size v0 (a0.map (.float .f32))) (w0 : ∀ x ∈ a0, x < 2 ^ 32) (v1 : Value) (p1 q1 : Int) (a1 : List Nat) (y1 : (Lit.int .i64 p1).wf = true) (z1 : (Lit.int .i64 q1).wf = true) (h1 : Rd w w.heap.size v1 (a1.map (.float .f32))) (w1 : ∀ x ∈ a1, x < 2 ^ 32) (a2 : Nat) (w2 : (Lit.float .f32 a2).wf = true) :
    Calls Try.prog 11 #[.agg #[.int .i64 p0, .int .i64 q0, v0], .agg #[.int .i64 p1, .int .i64 q1, v1], .float .f32 a2] w fun e w' => e = .returned (.bool true) ∧ Below w.heap.size w w' := by
  have hle0 : a0.length ≤ 9223372036854775807 := by
    have := h0.le
    rw [show (a0.map (.float .f32)) = fl a0 from rfl, fl_len] at this
    unfold maxLen at this
    omega
  replace h0 : Rd w w.heap.size v0 (fl a0) := h0
  obtain ⟨A0, c0, hv0, hc01, hc02, hcell0⟩ := id h0
  rw [fl_len] at hv0
  clear hcell0 hc01 hc02
  subst hv0
  have HX0 := Lib.hid w0
  clear w0
  have hle1 : a1.length ≤ 9223372036854775807 := by
    have := h1.le
    rw [show (a1.map (.float .f32)) = fl a1 from rfl, fl_len] at this
    unfold maxLen at this
    omega
  replace h1 : Rd w w.heap.size v1 (fl a1) := h1
  obtain ⟨A1, c1, hv1, hc11, hc12, hcell1⟩ := id h1
  rw [fl_len] at hv1
  clear hcell1 hc11 hc12
  subst hv1
  have HX1 := Lib.hid w1
  clear w1
  have hpk : a2 < 2 ^ 32 := wf_lt w2
  clear w2
  obtain ⟨lg, hlg⟩ := log_is (ar .quo .f32 a2 (dsV p0 q0 a0 p1 q1 a1)) ⟨_, cn_ar _ _ _ _, ar_ltS _ _ _⟩
  obtain ⟨c, hce⟩ : ∃ x, x = pkV p0 q0 a0 p1 q1 a1 a2 lg := ⟨_, rfl⟩
  obtain ⟨b, hbe⟩ : ∃ x, x = pkB p0 q0 a0 p1 q1 a1 a2 lg := ⟨_, rfl⟩
  have HS0 := Lib.hid (fun (hm0 : a0.length ≤ 1048576) (hm1 : a1.length ≤ 1048576) (w' : World) (u0 : Value) (u1 : Value) (hr0 : Rd w' w'.heap.size u0 (fl a0)) (hr1 : Rd w' w'.heap.size u1 (fl a1)) => (show Calls Try.prog 53 #[.agg #[.int .i64 p0, .int .i64 q0, u0], .agg #[.int .i64 p1, .int .i64 q1, u1], .float .f32 a2] w' (RetFb c b w') by rw [hce, hbe]; exact pkS_any u0 p0 q0 a0 u1 p1 q1 a1 w' hr0 hr1 hm0 HX0.out hm1 HX1.out a2 lg hlg hpk))
  have HI0 := Lib.hid (fun (hm0 : a0.length ≤ 1048576) (hm1 : a1.length ≤ 1048576) (w' : World) (u0 : Value) (u1 : Value) (hr0 : Rd w' w'.heap.size u0 (fl a0)) (hr1 : Rd w' w'.heap.size u1 (fl a1)) => (show Calls Try.prog 54 #[.agg #[.int .i64 p0, .int .i64 q0, u0], .agg #[.int .i64 p1, .int .i64 q1, u1], .float .f32 a2] w' (RetFb c b w') by rw [hce, hbe]; exact pkI_any u0 p0 q0 a0 u1 p1 q1 a1 w' hr0 hr1 hm0 HX0.out hm1 HX1.out a2 lg hlg hpk))
  clear hce hbe
  have hsf : ∀ (a : Addr) (x : Nat) (w : World), (store a (.float .f32 x)).run Try.prog w = stored Try.prog w a (.float .f32 x) .plain := fun a x w => run_store _ w a _ _ rfl
  go_enter Try.func11, Try.ntmps11
  have F_a0_w : Rd w w.heap.size (.slice A0 a0.length c0) (fl a0) := h0
  have F_a1_w : Rd w w.heap.size (.slice A1 a1.length c1) (fl a1) := h1
  have B_w : Below w.heap.size w w := Below.refl _ _
  clear h0 h1
  go_wp2_with fail
  have hb1 : Below w.heap.size w (w.alloc (.cells #[.int .i64 p0, .int .i64 q0, (.slice A0 a0.length c0)] 27)) := (Below.refl _ _).alloc (Nat.le_refl _) _
  have O1 := own_box3 w (.int .i64 p0) (.int .i64 q0) ((.slice A0 a0.length c0)) 27
  have hs1 : (w.alloc (.cells #[.int .i64 p0, .int .i64 q0, (.slice A0 a0.length c0)] 27)).heap.size = w.heap.size + 1 := by simp
  generalize w.alloc (.cells #[.int .i64 p0, .int .i64 q0, (.slice A0 a0.length c0)] 27) = w1 at *
  have F_a0_w1 : Rd w1 w.heap.size (.slice A0 a0.length c0) (fl a0) := F_a0_w.below (hb1.mono B_w.size)
  have F_a1_w1 : Rd w1 w.heap.size (.slice A1 a1.length c1) (fl a1) := F_a1_w.below (hb1.mono B_w.size)
  have B_w1 : Below w.heap.size w w1 := B_w.trans (hb1.mono B_w.size)
  have S_pa0 : w.heap.size ≤ w.heap.size := B_w.size
  clear F_a0_w F_a1_w B_w
  have F_pa0_w1 : In w1 w.heap.size w1.heap.size (.slice (some ⟨w.heap.size, 0, none⟩) 3 3) ([.int .i64 p0, .int .i64 q0, (.slice A0 a0.length c0)]) := In.made O1
  have T_pa0_w1 : w1.heap.size ≤ w1.heap.size := Nat.le_refl _
  clear O1
  clear hb1
  have hb2 : Below w1.heap.size w1 (w1.alloc (.cells #[.int .i64 p1, .int .i64 q1, (.slice A1 a1.length c1)] 27)) := (Below.refl _ _).alloc (Nat.le_refl _) _
  have O2 := own_box3 w1 (.int .i64 p1) (.int .i64 q1) ((.slice A1 a1.length c1)) 27
  have hs2 : (w1.alloc (.cells #[.int .i64 p1, .int .i64 q1, (.slice A1 a1.length c1)] 27)).heap.size = w1.heap.size + 1 := by simp
  generalize w1.alloc (.cells #[.int .i64 p1, .int .i64 q1, (.slice A1 a1.length c1)] 27) = w2 at *
  have F_a0_w2 : Rd w2 w.heap.size (.slice A0 a0.length c0) (fl a0) := F_a0_w1.below (hb2.mono B_w1.size)
  have F_a1_w2 : Rd w2 w.heap.size (.slice A1 a1.length c1) (fl a1) := F_a1_w1.below (hb2.mono B_w1.size)
  have F_pa0_w2 : In w2 w.heap.size w1.heap.size (.slice (some ⟨w.heap.size, 0, none⟩) 3 3) ([.int .i64 p0, .int .i64 q0, (.slice A0 a0.length c0)]) := F_pa0_w1.step hb2
  have T_pa0_w2 : w1.heap.size ≤ w2.heap.size := Nat.le_trans T_pa0_w1 hb2.size
  have B_w2 : Below w.heap.size w w2 := B_w1.trans (hb2.mono B_w1.size)
  have S_pa1 : w.heap.size ≤ w1.heap.size := B_w1.size
  have D_pa0_pa1 : w1.heap.size ≤ w1.heap.size := T_pa0_w1
  clear F_a0_w1 F_a1_w1 F_pa0_w1 T_pa0_w1 B_w1
  have F_pa1_w2 : In w2 w1.heap.size w2.heap.size (.slice (some ⟨w1.heap.size, 0, none⟩) 3 3) ([.int .i64 p1, .int .i64 q1, (.slice A1 a1.length c1)]) := In.made O2
  have T_pa1_w2 : w2.heap.size ≤ w2.heap.size := Nat.le_refl _
  clear O2
  clear hb2
  rw [hs1] at F_pa0_w2 T_pa0_w2 F_pa1_w2 D_pa0_pa1 S_pa1
  clear hs1 hs2
  refine (szPic_any _ p0 q0 a0 (1048576) _ (F_a0_w2.more B_w2.size) (by omega) (by omega) hle0).mono ?_
  rintro e w3 ⟨rfl, hb3⟩
  have F_a0_w3 : Rd w3 w.heap.size (.slice A0 a0.length c0) (fl a0) := F_a0_w2.below (hb3.mono B_w2.size)
  have F_a1_w3 : Rd w3 w.heap.size (.slice A1 a1.length c1) (fl a1) := F_a1_w2.below (hb3.mono B_w2.size)
  have F_pa0_w3 : In w3 w.heap.size (w.heap.size + 1) (.slice (some ⟨w.heap.size, 0, none⟩) 3 3) ([.int .i64 p0, .int .i64 q0, (.slice A0 a0.length c0)]) := F_pa0_w2.step hb3
  have T_pa0_w3 : (w.heap.size + 1) ≤ w3.heap.size := Nat.le_trans T_pa0_w2 hb3.size
  have F_pa1_w3 : In w3 (w.heap.size + 1) w2.heap.size (.slice (some ⟨w.heap.size + 1, 0, none⟩) 3 3) ([.int .i64 p1, .int .i64 q1, (.slice A1 a1.length c1)]) := F_pa1_w2.step hb3
  have T_pa1_w3 : w2.heap.size ≤ w3.heap.size := Nat.le_trans T_pa1_w2 hb3.size
  have B_w3 : Below w.heap.size w w3 := B_w2.trans (hb3.mono B_w2.size)
  clear F_a0_w2 F_a1_w2 F_pa0_w2 T_pa0_w2 F_pa1_w2 T_pa1_w2 B_w2
  clear hb3
  by_cases hbig0 : (1048576 : Int) < a0.length
  · rw [if_pos hbig0]
    go_wp2_with fail
    go_ret
    exact ⟨rfl, B_w3⟩
  rw [if_neg hbig0]
  have hm0 : a0.length ≤ 1048576 := by omega
  have hl0 : 0 ≤ (1048576 : Int) - a0.length := by omega
  clear hbig0
  obtain ⟨_, Z_pa1_w3, c57, _⟩ := F_pa1_w3.1.cells' (by decide)
  have Q_pa10_w3 : w3.cell? ⟨w.heap.size + 1, 0, none⟩ = some (.int .i64 p1) := c57 0 _ rfl
  have Q_pa11_w3 : w3.cell? ⟨w.heap.size + 1, 1, none⟩ = some (.int .i64 q1) := c57 1 _ rfl
  have Q_pa12_w3 : w3.cell? ⟨w.heap.size + 1, 2, none⟩ = some ((.slice A1 a1.length c1)) := c57 2 _ rfl
  clear c57
  go_wp2_with fail
  clear Z_pa1_w3 Q_pa10_w3 Q_pa11_w3 Q_pa12_w3
  refine (szPic_any _ p1 q1 a1 (1048576 - a0.length) _ (F_a1_w3.more B_w3.size) (by omega) (by omega) hle1).mono ?_
  rintro e w4 ⟨rfl, hb4⟩
  have F_a0_w4 : Rd w4 w.heap.size (.slice A0 a0.length c0) (fl a0) := F_a0_w3.below (hb4.mono B_w3.size)
  have F_a1_w4 : Rd w4 w.heap.size (.slice A1 a1.length c1) (fl a1) := F_a1_w3.below (hb4.mono B_w3.size)
  have F_pa0_w4 : In w4 w.heap.size (w.heap.size + 1) (.slice (some ⟨w.heap.size, 0, none⟩) 3 3) ([.int .i64 p0, .int .i64 q0, (.slice A0 a0.length c0)]) := F_pa0_w3.step hb4
  have T_pa0_w4 : (w.heap.size + 1) ≤ w4.heap.size := Nat.le_trans T_pa0_w3 hb4.size
  have F_pa1_w4 : In w4 (w.heap.size + 1) w2.heap.size (.slice (some ⟨w.heap.size + 1, 0, none⟩) 3 3) ([.int .i64 p1, .int .i64 q1, (.slice A1 a1.length c1)]) := F_pa1_w3.step hb4
  have T_pa1_w4 : w2.heap.size ≤ w4.heap.size := Nat.le_trans T_pa1_w3 hb4.size
  have B_w4 : Below w.heap.size w w4 := B_w3.trans (hb4.mono B_w3.size)
  clear F_a0_w3 F_a1_w3 F_pa0_w3 T_pa0_w3 F_pa1_w3 T_pa1_w3 B_w3
  clear hb4
  by_cases hbig1 : (1048576 - a0.length : Int) < a1.length
  · rw [if_pos hbig1]
    go_wp2_with fail
    go_ret
    exact ⟨rfl, B_w4⟩
  rw [if_neg hbig1]
  have hm1 : a1.length ≤ 1048576 := by omega
  have hl1 : 0 ≤ (1048576 - a0.length : Int) - a1.length := by omega
  clear hbig1
  have HS := Lib.hid (HS0.out hm0 hm1)
  have HI := Lib.hid (HI0.out hm0 hm1)
  clear HS0 HI0
  obtain ⟨_, Z_pa0_w4, c87, _⟩ := F_pa0_w4.1.cells' (by decide)
  have Q_pa00_w4 : w4.cell? ⟨w.heap.size, 0, none⟩ = some (.int .i64 p0) := c87 0 _ rfl
  have Q_pa01_w4 : w4.cell? ⟨w.heap.size, 1, none⟩ = some (.int .i64 q0) := c87 1 _ rfl
  have Q_pa02_w4 : w4.cell? ⟨w.heap.size, 2, none⟩ = some ((.slice A0 a0.length c0)) := c87 2 _ rfl
  clear c87
  obtain ⟨_, Z_pa1_w4, c92, _⟩ := F_pa1_w4.1.cells' (by decide)
  have Q_pa10_w4 : w4.cell? ⟨w.heap.size + 1, 0, none⟩ = some (.int .i64 p1) := c92 0 _ rfl
  have Q_pa11_w4 : w4.cell? ⟨w.heap.size + 1, 1, none⟩ = some (.int .i64 q1) := c92 1 _ rfl
  have Q_pa12_w4 : w4.cell? ⟨w.heap.size + 1, 2, none⟩ = some ((.slice A1 a1.length c1)) := c92 2 _ rfl
  clear c92
  have E_a0_w4 : Rd w4 w4.heap.size (.slice A0 a0.length c0) (fl a0) := (F_a0_w4.more B_w4.size)
  have E_a1_w4 : Rd w4 w4.heap.size (.slice A1 a1.length c1) (fl a1) := (F_a1_w4.more B_w4.size)
  go_wp2_with fail
  go_region_held3 (fun w' => w'.cell? ⟨w.heap.size, 0, none⟩ = some (.int .i64 p0) ∧ w'.cell? ⟨w.heap.size, 1, none⟩ = some (.int .i64 q0) ∧ w'.cell? ⟨w.heap.size, 2, none⟩ = some ((.slice A0 a0.length c0)) ∧ w'.cell? ⟨w.heap.size + 1, 0, none⟩ = some (.int .i64 p1) ∧ w'.cell? ⟨w.heap.size + 1, 1, none⟩ = some (.int .i64 q1) ∧ w'.cell? ⟨w.heap.size + 1, 2, none⟩ = some ((.slice A1 a1.length c1))) (first | exact ⟨Q_pa00_w4, Q_pa01_w4, Q_pa02_w4, Q_pa10_w4, Q_pa11_w4, Q_pa12_w4⟩ | exact ⟨Q_pa00_w5, Q_pa01_w5, Q_pa02_w5, Q_pa10_w5, Q_pa11_w5, Q_pa12_w5⟩ | exact ⟨Q_pa00_w6, Q_pa01_w6, Q_pa02_w6, Q_pa10_w6, Q_pa11_w6, Q_pa12_w6⟩ | exact ⟨Q_pa00_w7, Q_pa01_w7, Q_pa02_w7, Q_pa10_w7, Q_pa11_w7, Q_pa12_w7⟩) ((first | (go_at_call_of 43 A0; refine (toPic_any (.slice A0 a0.length c0) p0 q0 a0 _ ?_ hm0).mono ?_; exact E_a0_w4; rintro e w5 ⟨g5, rfl, P5, hb5⟩; replace hb5 : Below w4.heap.size w4 w5 := below_draw1 hb5; replace P5 : Own w5 w4.heap.size (.slice (some ⟨g5, 0, none⟩) a0.length a0.length) (fl a0) := P5; have E_a0_w5 := E_a0_w4.step hb5; have E_a1_w5 := E_a1_w4.step hb5; have Q_pa00_w5 : w5.cell? ⟨w.heap.size, 0, none⟩ = some (.int .i64 p0) := (hb5.cell (p := ⟨w.heap.size, 0, none⟩) Z_pa0_w4).trans Q_pa00_w4; have Q_pa01_w5 : w5.cell? ⟨w.heap.size, 1, none⟩ = some (.int .i64 q0) := (hb5.cell (p := ⟨w.heap.size, 1, none⟩) Z_pa0_w4).trans Q_pa01_w4; have Q_pa02_w5 : w5.cell? ⟨w.heap.size, 2, none⟩ = some ((.slice A0 a0.length c0)) := (hb5.cell (p := ⟨w.heap.size, 2, none⟩) Z_pa0_w4).trans Q_pa02_w4; have Z_pa0_w5 := Nat.lt_of_lt_of_le Z_pa0_w4 hb5.size; have Q_pa10_w5 : w5.cell? ⟨w.heap.size + 1, 0, none⟩ = some (.int .i64 p1) := (hb5.cell (p := ⟨w.heap.size + 1, 0, none⟩) Z_pa1_w4).trans Q_pa10_w4; have Q_pa11_w5 : w5.cell? ⟨w.heap.size + 1, 1, none⟩ = some (.int .i64 q1) := (hb5.cell (p := ⟨w.heap.size + 1, 1, none⟩) Z_pa1_w4).trans Q_pa11_w4; have Q_pa12_w5 : w5.cell? ⟨w.heap.size + 1, 2, none⟩ = some ((.slice A1 a1.length c1)) := (hb5.cell (p := ⟨w.heap.size + 1, 2, none⟩) Z_pa1_w4).trans Q_pa12_w4; have Z_pa1_w5 := Nat.lt_of_lt_of_le Z_pa1_w4 hb5.size; have E_c0_w5 := P5.rd) | (go_at_call_of 43 A1; refine (toPic_any (.slice A1 a1.length c1) p1 q1 a1 _ ?_ hm1).mono ?_; exact E_a1_w5; rintro e w6 ⟨g6, rfl, P6, hb6⟩; have E_a0_w6 := E_a0_w5.step hb6; have E_a1_w6 := E_a1_w5.step hb6; have E_c0_w6 := E_c0_w5.step hb6; have Q_pa00_w6 : w6.cell? ⟨w.heap.size, 0, none⟩ = some (.int .i64 p0) := (hb6.cell (p := ⟨w.heap.size, 0, none⟩) Z_pa0_w5).trans Q_pa00_w5; have Q_pa01_w6 : w6.cell? ⟨w.heap.size, 1, none⟩ = some (.int .i64 q0) := (hb6.cell (p := ⟨w.heap.size, 1, none⟩) Z_pa0_w5).trans Q_pa01_w5; have Q_pa02_w6 : w6.cell? ⟨w.heap.size, 2, none⟩ = some ((.slice A0 a0.length c0)) := (hb6.cell (p := ⟨w.heap.size, 2, none⟩) Z_pa0_w5).trans Q_pa02_w5; have Z_pa0_w6 := Nat.lt_of_lt_of_le Z_pa0_w5 hb6.size; have Q_pa10_w6 : w6.cell? ⟨w.heap.size + 1, 0, none⟩ = some (.int .i64 p1) := (hb6.cell (p := ⟨w.heap.size + 1, 0, none⟩) Z_pa1_w5).trans Q_pa10_w5; have Q_pa11_w6 : w6.cell? ⟨w.heap.size + 1, 1, none⟩ = some (.int .i64 q1) := (hb6.cell (p := ⟨w.heap.size + 1, 1, none⟩) Z_pa1_w5).trans Q_pa11_w5; have Q_pa12_w6 : w6.cell? ⟨w.heap.size + 1, 2, none⟩ = some ((.slice A1 a1.length c1)) := (hb6.cell (p := ⟨w.heap.size + 1, 2, none⟩) Z_pa1_w5).trans Q_pa12_w5; have Z_pa1_w6 := Nat.lt_of_lt_of_le Z_pa1_w5 hb6.size; have E_c1_w6 := P6.rd) | (go_at_call 53; refine (HS.out _ _ _ ?_ ?_).mono ?_; exact E_c0_w6; exact E_c1_w6; rintro e w7 ⟨r0, rfl, hr0, hb7⟩; have E_a0_w7 := E_a0_w6.step hb7; have E_a1_w7 := E_a1_w6.step hb7; have E_c0_w7 := E_c0_w6.step hb7; have E_c1_w7 := E_c1_w6.step hb7; have Q_pa00_w7 : w7.cell? ⟨w.heap.size, 0, none⟩ = some (.int .i64 p0) := (hb7.cell (p := ⟨w.heap.size, 0, none⟩) Z_pa0_w6).trans Q_pa00_w6; have Q_pa01_w7 : w7.cell? ⟨w.heap.size, 1, none⟩ = some (.int .i64 q0) := (hb7.cell (p := ⟨w.heap.size, 1, none⟩) Z_pa0_w6).trans Q_pa01_w6; have Q_pa02_w7 : w7.cell? ⟨w.heap.size, 2, none⟩ = some ((.slice A0 a0.length c0)) := (hb7.cell (p := ⟨w.heap.size, 2, none⟩) Z_pa0_w6).trans Q_pa02_w6; have Z_pa0_w7 := Nat.lt_of_lt_of_le Z_pa0_w6 hb7.size; have Q_pa10_w7 : w7.cell? ⟨w.heap.size + 1, 0, none⟩ = some (.int .i64 p1) := (hb7.cell (p := ⟨w.heap.size + 1, 0, none⟩) Z_pa1_w6).trans Q_pa10_w6; have Q_pa11_w7 : w7.cell? ⟨w.heap.size + 1, 1, none⟩ = some (.int .i64 q1) := (hb7.cell (p := ⟨w.heap.size + 1, 1, none⟩) Z_pa1_w6).trans Q_pa11_w6; have Q_pa12_w7 : w7.cell? ⟨w.heap.size + 1, 2, none⟩ = some ((.slice A1 a1.length c1)) := (hb7.cell (p := ⟨w.heap.size + 1, 2, none⟩) Z_pa1_w6).trans Q_pa12_w6; have Z_pa1_w7 := Nat.lt_of_lt_of_le Z_pa1_w6 hb7.size)))
  have hc8 : Below w4.heap.size w4 w7 := ((hb5.trans (hb6.mono (by have := hb5.size; omega))).trans (hb7.mono (by have := hb5.size; have := hb6.size; omega)))
  clear E_a0_w5 E_a1_w5 Q_pa00_w5 Q_pa01_w5 Q_pa02_w5 Z_pa0_w5 Q_pa10_w5 Q_pa11_w5 Q_pa12_w5 Z_pa1_w5 E_c0_w5 E_a0_w6 E_a1_w6 E_c0_w6 Q_pa00_w6 Q_pa01_w6 Q_pa02_w6 Z_pa0_w6 Q_pa10_w6 Q_pa11_w6 Q_pa12_w6 Z_pa1_w6 E_c1_w6 E_a0_w7 E_a1_w7 E_c0_w7 E_c1_w7 Q_pa00_w7 Q_pa01_w7 Q_pa02_w7 Z_pa0_w7 Q_pa10_w7 Q_pa11_w7 Q_pa12_w7 Z_pa1_w7 Z_pa0_w4 Q_pa00_w4 Q_pa01_w4 Q_pa02_w4 Z_pa1_w4 Q_pa10_w4 Q_pa11_w4 Q_pa12_w4 E_a0_w4 E_a1_w4 P5 P6
  have F_a0_w7 : Rd w7 w.heap.size (.slice A0 a0.length c0) (fl a0) := F_a0_w4.below (hc8.mono B_w4.size)
  have F_a1_w7 : Rd w7 w.heap.size (.slice A1 a1.length c1) (fl a1) := F_a1_w4.below (hc8.mono B_w4.size)
  have F_pa0_w7 : In w7 w.heap.size (w.heap.size + 1) (.slice (some ⟨w.heap.size, 0, none⟩) 3 3) ([.int .i64 p0, .int .i64 q0, (.slice A0 a0.length c0)]) := F_pa0_w4.step hc8
  have T_pa0_w7 : (w.heap.size + 1) ≤ w7.heap.size := Nat.le_trans T_pa0_w4 hc8.size
  have F_pa1_w7 : In w7 (w.heap.size + 1) w2.heap.size (.slice (some ⟨w.heap.size + 1, 0, none⟩) 3 3) ([.int .i64 p1, .int .i64 q1, (.slice A1 a1.length c1)]) := F_pa1_w4.step hc8
  have T_pa1_w7 : w2.heap.size ≤ w7.heap.size := Nat.le_trans T_pa1_w4 hc8.size
  have B_w7 : Below w.heap.size w w7 := B_w4.trans (hc8.mono B_w4.size)
  clear F_a0_w4 F_a1_w4 F_pa0_w4 T_pa0_w4 F_pa1_w4 T_pa1_w4 B_w4
  clear hc8 hb5 hb6 hb7
  obtain ⟨_, Z_pa0_w7, c112, _⟩ := F_pa0_w7.1.cells' (by decide)
  have Q_pa00_w7 : w7.cell? ⟨w.heap.size, 0, none⟩ = some (.int .i64 p0) := c112 0 _ rfl
  have Q_pa01_w7 : w7.cell? ⟨w.heap.size, 1, none⟩ = some (.int .i64 q0) := c112 1 _ rfl
  have Q_pa02_w7 : w7.cell? ⟨w.heap.size, 2, none⟩ = some ((.slice A0 a0.length c0)) := c112 2 _ rfl
  clear c112
  go_wp2_with fail
  clear Z_pa0_w7 Q_pa00_w7 Q_pa01_w7 Q_pa02_w7
  refine (toPic_any _ p0 q0 a0 _ (F_a0_w7.more B_w7.size) hm0).mono ?_
  rintro e w9 ⟨g9, rfl, O9, hb9⟩
  have F_a0_w9 : Rd w9 w.heap.size (.slice A0 a0.length c0) (fl a0) := F_a0_w7.below (hb9.mono B_w7.size)
  have F_a1_w9 : Rd w9 w.heap.size (.slice A1 a1.length c1) (fl a1) := F_a1_w7.below (hb9.mono B_w7.size)
  have F_pa0_w9 : In w9 w.heap.size (w.heap.size + 1) (.slice (some ⟨w.heap.size, 0, none⟩) 3 3) ([.int .i64 p0, .int .i64 q0, (.slice A0 a0.length c0)]) := F_pa0_w7.step hb9
  have T_pa0_w9 : (w.heap.size + 1) ≤ w9.heap.size := Nat.le_trans T_pa0_w7 hb9.size
  have F_pa1_w9 : In w9 (w.heap.size + 1) w2.heap.size (.slice (some ⟨w.heap.size + 1, 0, none⟩) 3 3) ([.int .i64 p1, .int .i64 q1, (.slice A1 a1.length c1)]) := F_pa1_w7.step hb9
  have T_pa1_w9 : w2.heap.size ≤ w9.heap.size := Nat.le_trans T_pa1_w7 hb9.size
  have B_w9 : Below w.heap.size w w9 := B_w7.trans (hb9.mono B_w7.size)
  have S_x0 : w.heap.size ≤ w7.heap.size := B_w7.size
  have D_pa0_x0 : (w.heap.size + 1) ≤ w7.heap.size := T_pa0_w7
  have D_pa1_x0 : w2.heap.size ≤ w7.heap.size := T_pa1_w7
  clear F_a0_w7 F_a1_w7 F_pa0_w7 T_pa0_w7 F_pa1_w7 T_pa1_w7 B_w7
  have F_x0_w9 : In w9 w7.heap.size w9.heap.size (.slice (some ⟨g9, 0, none⟩) a0.length a0.length) (fl a0) := In.made O9
  have T_x0_w9 : w9.heap.size ≤ w9.heap.size := Nat.le_refl _
  clear O9
  clear hb9
  obtain ⟨_, Z_pa1_w9, c136, _⟩ := F_pa1_w9.1.cells' (by decide)
  have Q_pa10_w9 : w9.cell? ⟨w.heap.size + 1, 0, none⟩ = some (.int .i64 p1) := c136 0 _ rfl
  have Q_pa11_w9 : w9.cell? ⟨w.heap.size + 1, 1, none⟩ = some (.int .i64 q1) := c136 1 _ rfl
  have Q_pa12_w9 : w9.cell? ⟨w.heap.size + 1, 2, none⟩ = some ((.slice A1 a1.length c1)) := c136 2 _ rfl
  clear c136
  go_wp2_with fail
  clear Z_pa1_w9 Q_pa10_w9 Q_pa11_w9 Q_pa12_w9
  have hb10 : Below w9.heap.size w9 (w9.alloc (.cells #[.int .i64 p0, .int .i64 q0, (.slice (some ⟨g9, 0, none⟩) a0.length a0.length)] 36)) := (Below.refl _ _).alloc (Nat.le_refl _) _
  have O10 := own_box3 w9 (.int .i64 p0) (.int .i64 q0) ((.slice (some ⟨g9, 0, none⟩) a0.length a0.length)) 36
  generalize w9.alloc (.cells #[.int .i64 p0, .int .i64 q0, (.slice (some ⟨g9, 0, none⟩) a0.length a0.length)] 36) = w10 at *
  have F_a0_w10 : Rd w10 w.heap.size (.slice A0 a0.length c0) (fl a0) := F_a0_w9.below (hb10.mono B_w9.size)
  have F_a1_w10 : Rd w10 w.heap.size (.slice A1 a1.length c1) (fl a1) := F_a1_w9.below (hb10.mono B_w9.size)
  have F_pa0_w10 : In w10 w.heap.size (w.heap.size + 1) (.slice (some ⟨w.heap.size, 0, none⟩) 3 3) ([.int .i64 p0, .int .i64 q0, (.slice A0 a0.length c0)]) := F_pa0_w9.step hb10
  have T_pa0_w10 : (w.heap.size + 1) ≤ w10.heap.size := Nat.le_trans T_pa0_w9 hb10.size
  have F_pa1_w10 : In w10 (w.heap.size + 1) w2.heap.size (.slice (some ⟨w.heap.size + 1, 0, none⟩) 3 3) ([.int .i64 p1, .int .i64 q1, (.slice A1 a1.length c1)]) := F_pa1_w9.step hb10
  have T_pa1_w10 : w2.heap.size ≤ w10.heap.size := Nat.le_trans T_pa1_w9 hb10.size
  have F_x0_w10 : In w10 w7.heap.size w9.heap.size (.slice (some ⟨g9, 0, none⟩) a0.length a0.length) (fl a0) := F_x0_w9.step hb10
  have T_x0_w10 : w9.heap.size ≤ w10.heap.size := Nat.le_trans T_x0_w9 hb10.size
  have B_w10 : Below w.heap.size w w10 := B_w9.trans (hb10.mono B_w9.size)
  have S_px0 : w.heap.size ≤ w9.heap.size := B_w9.size
  have D_pa0_px0 : (w.heap.size + 1) ≤ w9.heap.size := T_pa0_w9
  have D_pa1_px0 : w2.heap.size ≤ w9.heap.size := T_pa1_w9
  have D_x0_px0 : w9.heap.size ≤ w9.heap.size := T_x0_w9
  clear F_a0_w9 F_a1_w9 F_pa0_w9 T_pa0_w9 F_pa1_w9 T_pa1_w9 F_x0_w9 T_x0_w9 B_w9
  have F_px0_w10 : In w10 w9.heap.size w10.heap.size (.slice (some ⟨w9.heap.size, 0, none⟩) 3 3) ([.int .i64 p0, .int .i64 q0, (.slice (some ⟨g9, 0, none⟩) a0.length a0.length)]) := In.made O10
  have T_px0_w10 : w10.heap.size ≤ w10.heap.size := Nat.le_refl _
  clear O10
  clear hb10
  refine (toPic_any _ p1 q1 a1 _ (F_a1_w10.more B_w10.size) hm1).mono ?_
  rintro e w11 ⟨g11, rfl, O11, hb11⟩
  have F_a0_w11 : Rd w11 w.heap.size (.slice A0 a0.length c0) (fl a0) := F_a0_w10.below (hb11.mono B_w10.size)
  have F_a1_w11 : Rd w11 w.heap.size (.slice A1 a1.length c1) (fl a1) := F_a1_w10.below (hb11.mono B_w10.size)
  have F_pa0_w11 : In w11 w.heap.size (w.heap.size + 1) (.slice (some ⟨w.heap.size, 0, none⟩) 3 3) ([.int .i64 p0, .int .i64 q0, (.slice A0 a0.length c0)]) := F_pa0_w10.step hb11
  have T_pa0_w11 : (w.heap.size + 1) ≤ w11.heap.size := Nat.le_trans T_pa0_w10 hb11.size
  have F_pa1_w11 : In w11 (w.heap.size + 1) w2.heap.size (.slice (some ⟨w.heap.size + 1, 0, none⟩) 3 3) ([.int .i64 p1, .int .i64 q1, (.slice A1 a1.length c1)]) := F_pa1_w10.step hb11
  have T_pa1_w11 : w2.heap.size ≤ w11.heap.size := Nat.le_trans T_pa1_w10 hb11.size
  have F_x0_w11 : In w11 w7.heap.size w9.heap.size (.slice (some ⟨g9, 0, none⟩) a0.length a0.length) (fl a0) := F_x0_w10.step hb11
  have T_x0_w11 : w9.heap.size ≤ w11.heap.size := Nat.le_trans T_x0_w10 hb11.size
  have F_px0_w11 : In w11 w9.heap.size w10.heap.size (.slice (some ⟨w9.heap.size, 0, none⟩) 3 3) ([.int .i64 p0, .int .i64 q0, (.slice (some ⟨g9, 0, none⟩) a0.length a0.length)]) := F_px0_w10.step hb11
  have T_px0_w11 : w10.heap.size ≤ w11.heap.size := Nat.le_trans T_px0_w10 hb11.size
  have B_w11 : Below w.heap.size w w11 := B_w10.trans (hb11.mono B_w10.size)
  have S_x1 : w.heap.size ≤ w10.heap.size := B_w10.size
  have D_pa0_x1 : (w.heap.size + 1) ≤ w10.heap.size := T_pa0_w10
  have D_pa1_x1 : w2.heap.size ≤ w10.heap.size := T_pa1_w10
  have D_x0_x1 : w9.heap.size ≤ w10.heap.size := T_x0_w10
  have D_px0_x1 : w10.heap.size ≤ w10.heap.size := T_px0_w10
  clear F_a0_w10 F_a1_w10 F_pa0_w10 T_pa0_w10 F_pa1_w10 T_pa1_w10 F_x0_w10 T_x0_w10 F_px0_w10 T_px0_w10 B_w10
  have F_x1_w11 : In w11 w10.heap.size w11.heap.size (.slice (some ⟨g11, 0, none⟩) a1.length a1.length) (fl a1) := In.made O11
  have T_x1_w11 : w11.heap.size ≤ w11.heap.size := Nat.le_refl _
  clear O11
  clear hb11
  obtain ⟨_, Z_px0_w11, c187, _⟩ := F_px0_w11.1.cells' (by decide)
  have Q_px00_w11 : w11.cell? ⟨w9.heap.size, 0, none⟩ = some (.int .i64 p0) := c187 0 _ rfl
  have Q_px01_w11 : w11.cell? ⟨w9.heap.size, 1, none⟩ = some (.int .i64 q0) := c187 1 _ rfl
  have Q_px02_w11 : w11.cell? ⟨w9.heap.size, 2, none⟩ = some ((.slice (some ⟨g9, 0, none⟩) a0.length a0.length)) := c187 2 _ rfl
  clear c187
  go_wp2_with fail
  clear Z_px0_w11 Q_px00_w11 Q_px01_w11 Q_px02_w11
  have hb12 : Below w11.heap.size w11 (w11.alloc (.cells #[.int .i64 p1, .int .i64 q1, (.slice (some ⟨g11, 0, none⟩) a1.length a1.length)] 36)) := (Below.refl _ _).alloc (Nat.le_refl _) _
  have O12 := own_box3 w11 (.int .i64 p1) (.int .i64 q1) ((.slice (some ⟨g11, 0, none⟩) a1.length a1.length)) 36
  generalize w11.alloc (.cells #[.int .i64 p1, .int .i64 q1, (.slice (some ⟨g11, 0, none⟩) a1.length a1.length)] 36) = w12 at *
  have F_a0_w12 : Rd w12 w.heap.size (.slice A0 a0.length c0) (fl a0) := F_a0_w11.below (hb12.mono B_w11.size)
  have F_a1_w12 : Rd w12 w.heap.size (.slice A1 a1.length c1) (fl a1) := F_a1_w11.below (hb12.mono B_w11.size)
  have F_pa0_w12 : In w12 w.heap.size (w.heap.size + 1) (.slice (some ⟨w.heap.size, 0, none⟩) 3 3) ([.int .i64 p0, .int .i64 q0, (.slice A0 a0.length c0)]) := F_pa0_w11.step hb12
  have T_pa0_w12 : (w.heap.size + 1) ≤ w12.heap.size := Nat.le_trans T_pa0_w11 hb12.size
  have F_pa1_w12 : In w12 (w.heap.size + 1) w2.heap.size (.slice (some ⟨w.heap.size + 1, 0, none⟩) 3 3) ([.int .i64 p1, .int .i64 q1, (.slice A1 a1.length c1)]) := F_pa1_w11.step hb12
  have T_pa1_w12 : w2.heap.size ≤ w12.heap.size := Nat.le_trans T_pa1_w11 hb12.size
  have F_x0_w12 : In w12 w7.heap.size w9.heap.size (.slice (some ⟨g9, 0, none⟩) a0.length a0.length) (fl a0) := F_x0_w11.step hb12
  have T_x0_w12 : w9.heap.size ≤ w12.heap.size := Nat.le_trans T_x0_w11 hb12.size
  have F_px0_w12 : In w12 w9.heap.size w10.heap.size (.slice (some ⟨w9.heap.size, 0, none⟩) 3 3) ([.int .i64 p0, .int .i64 q0, (.slice (some ⟨g9, 0, none⟩) a0.length a0.length)]) := F_px0_w11.step hb12
  have T_px0_w12 : w10.heap.size ≤ w12.heap.size := Nat.le_trans T_px0_w11 hb12.size
  have F_x1_w12 : In w12 w10.heap.size w11.heap.size (.slice (some ⟨g11, 0, none⟩) a1.length a1.length) (fl a1) := F_x1_w11.step hb12
  have T_x1_w12 : w11.heap.size ≤ w12.heap.size := Nat.le_trans T_x1_w11 hb12.size
  have B_w12 : Below w.heap.size w w12 := B_w11.trans (hb12.mono B_w11.size)
  have S_px1 : w.heap.size ≤ w11.heap.size := B_w11.size
  have D_pa0_px1 : (w.heap.size + 1) ≤ w11.heap.size := T_pa0_w11
  have D_pa1_px1 : w2.heap.size ≤ w11.heap.size := T_pa1_w11
  have D_x0_px1 : w9.heap.size ≤ w11.heap.size := T_x0_w11
  have D_px0_px1 : w10.heap.size ≤ w11.heap.size := T_px0_w11
  have D_x1_px1 : w11.heap.size ≤ w11.heap.size := T_x1_w11
  clear F_a0_w11 F_a1_w11 F_pa0_w11 T_pa0_w11 F_pa1_w11 T_pa1_w11 F_x0_w11 T_x0_w11 F_px0_w11 T_px0_w11 F_x1_w11 T_x1_w11 B_w11
  have F_px1_w12 : In w12 w11.heap.size w12.heap.size (.slice (some ⟨w11.heap.size, 0, none⟩) 3 3) ([.int .i64 p1, .int .i64 q1, (.slice (some ⟨g11, 0, none⟩) a1.length a1.length)]) := In.made O12
  have T_px1_w12 : w12.heap.size ≤ w12.heap.size := Nat.le_refl _
  clear O12
  clear hb12
  refine (HI.out _ _ _ F_x0_w12.rd F_x1_w12.rd).mono ?_
  rintro e w13 ⟨g0, rfl, hg0, hb13⟩
  have F_a0_w13 : Rd w13 w.heap.size (.slice A0 a0.length c0) (fl a0) := F_a0_w12.below (hb13.mono B_w12.size)
  have F_a1_w13 : Rd w13 w.heap.size (.slice A1 a1.length c1) (fl a1) := F_a1_w12.below (hb13.mono B_w12.size)
  have F_pa0_w13 : In w13 w.heap.size (w.heap.size + 1) (.slice (some ⟨w.heap.size, 0, none⟩) 3 3) ([.int .i64 p0, .int .i64 q0, (.slice A0 a0.length c0)]) := F_pa0_w12.step hb13
  have T_pa0_w13 : (w.heap.size + 1) ≤ w13.heap.size := Nat.le_trans T_pa0_w12 hb13.size
  have F_pa1_w13 : In w13 (w.heap.size + 1) w2.heap.size (.slice (some ⟨w.heap.size + 1, 0, none⟩) 3 3) ([.int .i64 p1, .int .i64 q1, (.slice A1 a1.length c1)]) := F_pa1_w12.step hb13
  have T_pa1_w13 : w2.heap.size ≤ w13.heap.size := Nat.le_trans T_pa1_w12 hb13.size
  have F_x0_w13 : In w13 w7.heap.size w9.heap.size (.slice (some ⟨g9, 0, none⟩) a0.length a0.length) (fl a0) := F_x0_w12.step hb13
  have T_x0_w13 : w9.heap.size ≤ w13.heap.size := Nat.le_trans T_x0_w12 hb13.size
  have F_px0_w13 : In w13 w9.heap.size w10.heap.size (.slice (some ⟨w9.heap.size, 0, none⟩) 3 3) ([.int .i64 p0, .int .i64 q0, (.slice (some ⟨g9, 0, none⟩) a0.length a0.length)]) := F_px0_w12.step hb13
  have T_px0_w13 : w10.heap.size ≤ w13.heap.size := Nat.le_trans T_px0_w12 hb13.size
  have F_x1_w13 : In w13 w10.heap.size w11.heap.size (.slice (some ⟨g11, 0, none⟩) a1.length a1.length) (fl a1) := F_x1_w12.step hb13
  have T_x1_w13 : w11.heap.size ≤ w13.heap.size := Nat.le_trans T_x1_w12 hb13.size
  have F_px1_w13 : In w13 w11.heap.size w12.heap.size (.slice (some ⟨w11.heap.size, 0, none⟩) 3 3) ([.int .i64 p1, .int .i64 q1, (.slice (some ⟨g11, 0, none⟩) a1.length a1.length)]) := F_px1_w12.step hb13
  have T_px1_w13 : w12.heap.size ≤ w13.heap.size := Nat.le_trans T_px1_w12 hb13.size
  have B_w13 : Below w.heap.size w w13 := B_w12.trans (hb13.mono B_w12.size)
  clear F_a0_w12 F_a1_w12 F_pa0_w12 T_pa0_w12 F_pa1_w12 T_pa1_w12 F_x0_w12 T_x0_w12 F_px0_w12 T_px0_w12 F_x1_w12 T_x1_w12 F_px1_w12 T_px1_w12 B_w12
  clear hb13
  go_wp2_with (refine up_wide (by rw [Try.underlying23]; rfl) Try.underlying82 ?_; intro r n hr)
  refine (same_wi _ _ _ (by assumption) (by assumption) (hg0.1.trans hr0.1.symm)).mono ?_
  rintro e w14 ⟨rfl, n14, hw14⟩
  have hb14 : Below w13.heap.size w13 w14 := by rw [hw14]; first | exact below_drawn (Below.refl _ _) _ | exact below_drawn (below_drawn (Below.refl _ _) _) _ | exact below_drawn (below_drawn (below_drawn (Below.refl _ _) _) _) _
  clear hw14
  have F_a0_w14 : Rd w14 w.heap.size (.slice A0 a0.length c0) (fl a0) := F_a0_w13.below (hb14.mono B_w13.size)
  have F_a1_w14 : Rd w14 w.heap.size (.slice A1 a1.length c1) (fl a1) := F_a1_w13.below (hb14.mono B_w13.size)
  have F_pa0_w14 : In w14 w.heap.size (w.heap.size + 1) (.slice (some ⟨w.heap.size, 0, none⟩) 3 3) ([.int .i64 p0, .int .i64 q0, (.slice A0 a0.length c0)]) := F_pa0_w13.step hb14
  have T_pa0_w14 : (w.heap.size + 1) ≤ w14.heap.size := Nat.le_trans T_pa0_w13 hb14.size
  have F_pa1_w14 : In w14 (w.heap.size + 1) w2.heap.size (.slice (some ⟨w.heap.size + 1, 0, none⟩) 3 3) ([.int .i64 p1, .int .i64 q1, (.slice A1 a1.length c1)]) := F_pa1_w13.step hb14
  have T_pa1_w14 : w2.heap.size ≤ w14.heap.size := Nat.le_trans T_pa1_w13 hb14.size
  have F_x0_w14 : In w14 w7.heap.size w9.heap.size (.slice (some ⟨g9, 0, none⟩) a0.length a0.length) (fl a0) := F_x0_w13.step hb14
  have T_x0_w14 : w9.heap.size ≤ w14.heap.size := Nat.le_trans T_x0_w13 hb14.size
  have F_px0_w14 : In w14 w9.heap.size w10.heap.size (.slice (some ⟨w9.heap.size, 0, none⟩) 3 3) ([.int .i64 p0, .int .i64 q0, (.slice (some ⟨g9, 0, none⟩) a0.length a0.length)]) := F_px0_w13.step hb14
  have T_px0_w14 : w10.heap.size ≤ w14.heap.size := Nat.le_trans T_px0_w13 hb14.size
  have F_x1_w14 : In w14 w10.heap.size w11.heap.size (.slice (some ⟨g11, 0, none⟩) a1.length a1.length) (fl a1) := F_x1_w13.step hb14
  have T_x1_w14 : w11.heap.size ≤ w14.heap.size := Nat.le_trans T_x1_w13 hb14.size
  have F_px1_w14 : In w14 w11.heap.size w12.heap.size (.slice (some ⟨w11.heap.size, 0, none⟩) 3 3) ([.int .i64 p1, .int .i64 q1, (.slice (some ⟨g11, 0, none⟩) a1.length a1.length)]) := F_px1_w13.step hb14
  have T_px1_w14 : w12.heap.size ≤ w14.heap.size := Nat.le_trans T_px1_w13 hb14.size
  have B_w14 : Below w.heap.size w w14 := B_w13.trans (hb14.mono B_w13.size)
  clear F_a0_w13 F_a1_w13 F_pa0_w13 T_pa0_w13 F_pa1_w13 T_pa1_w13 F_x0_w13 T_x0_w13 F_px0_w13 T_px0_w13 F_x1_w13 T_x1_w13 F_px1_w13 T_px1_w13 B_w13
  clear hb14
  obtain ⟨_, Z_pa0_w14, c262, _⟩ := F_pa0_w14.1.cells' (by decide)
  have Q_pa00_w14 : w14.cell? ⟨w.heap.size, 0, none⟩ = some (.int .i64 p0) := c262 0 _ rfl
  have Q_pa01_w14 : w14.cell? ⟨w.heap.size, 1, none⟩ = some (.int .i64 q0) := c262 1 _ rfl
  have Q_pa02_w14 : w14.cell? ⟨w.heap.size, 2, none⟩ = some ((.slice A0 a0.length c0)) := c262 2 _ rfl
  clear c262
  obtain ⟨_, Z_px0_w14, c267, _⟩ := F_px0_w14.1.cells' (by decide)
  have Q_px00_w14 : w14.cell? ⟨w9.heap.size, 0, none⟩ = some (.int .i64 p0) := c267 0 _ rfl
  have Q_px01_w14 : w14.cell? ⟨w9.heap.size, 1, none⟩ = some (.int .i64 q0) := c267 1 _ rfl
  have Q_px02_w14 : w14.cell? ⟨w9.heap.size, 2, none⟩ = some ((.slice (some ⟨g9, 0, none⟩) a0.length a0.length)) := c267 2 _ rfl
  clear c267
  have E_a0_w14 : Rd w14 w14.heap.size (.slice A0 a0.length c0) (fl a0) := (F_a0_w14.more B_w14.size)
  have E_x0_w14 : Rd w14 w14.heap.size (.slice (some ⟨g9, 0, none⟩) a0.length a0.length) (fl a0) := F_x0_w14.rd
  go_wp2_with fail
  go_region_held3 (fun w' => w'.cell? ⟨w.heap.size, 0, none⟩ = some (.int .i64 p0) ∧ w'.cell? ⟨w.heap.size, 1, none⟩ = some (.int .i64 q0) ∧ w'.cell? ⟨w.heap.size, 2, none⟩ = some ((.slice A0 a0.length c0)) ∧ w'.cell? ⟨w9.heap.size, 0, none⟩ = some (.int .i64 p0) ∧ w'.cell? ⟨w9.heap.size, 1, none⟩ = some (.int .i64 q0) ∧ w'.cell? ⟨w9.heap.size, 2, none⟩ = some ((.slice (some ⟨g9, 0, none⟩) a0.length a0.length))) (first | exact ⟨Q_pa00_w14, Q_pa01_w14, Q_pa02_w14, Q_px00_w14, Q_px01_w14, Q_px02_w14⟩ | exact ⟨Q_pa00_w15, Q_pa01_w15, Q_pa02_w15, Q_px00_w15, Q_px01_w15, Q_px02_w15⟩ | exact ⟨Q_pa00_w16, Q_pa01_w16, Q_pa02_w16, Q_px00_w16, Q_px01_w16, Q_px02_w16⟩) ((first | (go_at_call 43; refine (toPic_any (.slice A0 a0.length c0) p0 q0 a0 _ ?_ hm0).mono ?_; exact E_a0_w14; rintro e w15 ⟨g15, rfl, P15, hb15⟩; replace hb15 : Below w14.heap.size w14 w15 := below_draw1 hb15; replace P15 : Own w15 w14.heap.size (.slice (some ⟨g15, 0, none⟩) a0.length a0.length) (fl a0) := P15; have E_a0_w15 := E_a0_w14.step hb15; have E_x0_w15 := E_x0_w14.step hb15; have Q_pa00_w15 : w15.cell? ⟨w.heap.size, 0, none⟩ = some (.int .i64 p0) := (hb15.cell (p := ⟨w.heap.size, 0, none⟩) Z_pa0_w14).trans Q_pa00_w14; have Q_pa01_w15 : w15.cell? ⟨w.heap.size, 1, none⟩ = some (.int .i64 q0) := (hb15.cell (p := ⟨w.heap.size, 1, none⟩) Z_pa0_w14).trans Q_pa01_w14; have Q_pa02_w15 : w15.cell? ⟨w.heap.size, 2, none⟩ = some ((.slice A0 a0.length c0)) := (hb15.cell (p := ⟨w.heap.size, 2, none⟩) Z_pa0_w14).trans Q_pa02_w14; have Z_pa0_w15 := Nat.lt_of_lt_of_le Z_pa0_w14 hb15.size; have Q_px00_w15 : w15.cell? ⟨w9.heap.size, 0, none⟩ = some (.int .i64 p0) := (hb15.cell (p := ⟨w9.heap.size, 0, none⟩) Z_px0_w14).trans Q_px00_w14; have Q_px01_w15 : w15.cell? ⟨w9.heap.size, 1, none⟩ = some (.int .i64 q0) := (hb15.cell (p := ⟨w9.heap.size, 1, none⟩) Z_px0_w14).trans Q_px01_w14; have Q_px02_w15 : w15.cell? ⟨w9.heap.size, 2, none⟩ = some ((.slice (some ⟨g9, 0, none⟩) a0.length a0.length)) := (hb15.cell (p := ⟨w9.heap.size, 2, none⟩) Z_px0_w14).trans Q_px02_w14; have Z_px0_w15 := Nat.lt_of_lt_of_le Z_px0_w14 hb15.size; have E_d0_w15 := P15.rd) | (go_at_call 45; refine (eqPic_any _ _ p0 q0 a0 a0 _ ?_ ?_ (Worth.refl _) hm0).mono ?_; exact E_x0_w15; exact E_d0_w15; rintro e w16 ⟨rfl, hb16⟩; have E_a0_w16 := E_a0_w15.step hb16; have E_x0_w16 := E_x0_w15.step hb16; have E_d0_w16 := E_d0_w15.step hb16; have Q_pa00_w16 : w16.cell? ⟨w.heap.size, 0, none⟩ = some (.int .i64 p0) := (hb16.cell (p := ⟨w.heap.size, 0, none⟩) Z_pa0_w15).trans Q_pa00_w15; have Q_pa01_w16 : w16.cell? ⟨w.heap.size, 1, none⟩ = some (.int .i64 q0) := (hb16.cell (p := ⟨w.heap.size, 1, none⟩) Z_pa0_w15).trans Q_pa01_w15; have Q_pa02_w16 : w16.cell? ⟨w.heap.size, 2, none⟩ = some ((.slice A0 a0.length c0)) := (hb16.cell (p := ⟨w.heap.size, 2, none⟩) Z_pa0_w15).trans Q_pa02_w15; have Z_pa0_w16 := Nat.lt_of_lt_of_le Z_pa0_w15 hb16.size; have Q_px00_w16 : w16.cell? ⟨w9.heap.size, 0, none⟩ = some (.int .i64 p0) := (hb16.cell (p := ⟨w9.heap.size, 0, none⟩) Z_px0_w15).trans Q_px00_w15; have Q_px01_w16 : w16.cell? ⟨w9.heap.size, 1, none⟩ = some (.int .i64 q0) := (hb16.cell (p := ⟨w9.heap.size, 1, none⟩) Z_px0_w15).trans Q_px01_w15; have Q_px02_w16 : w16.cell? ⟨w9.heap.size, 2, none⟩ = some ((.slice (some ⟨g9, 0, none⟩) a0.length a0.length)) := (hb16.cell (p := ⟨w9.heap.size, 2, none⟩) Z_px0_w15).trans Q_px02_w15; have Z_px0_w16 := Nat.lt_of_lt_of_le Z_px0_w15 hb16.size)))
  have hc17 : Below w14.heap.size w14 w16 := (hb15.trans (hb16.mono (by have := hb15.size; omega)))
  clear E_a0_w15 E_x0_w15 Q_pa00_w15 Q_pa01_w15 Q_pa02_w15 Z_pa0_w15 Q_px00_w15 Q_px01_w15 Q_px02_w15 Z_px0_w15 E_d0_w15 E_a0_w16 E_x0_w16 E_d0_w16 Q_pa00_w16 Q_pa01_w16 Q_pa02_w16 Z_pa0_w16 Q_px00_w16 Q_px01_w16 Q_px02_w16 Z_px0_w16 Z_pa0_w14 Q_pa00_w14 Q_pa01_w14 Q_pa02_w14 Z_px0_w14 Q_px00_w14 Q_px01_w14 Q_px02_w14 E_a0_w14 E_x0_w14 P15
  have F_a0_w16 : Rd w16 w.heap.size (.slice A0 a0.length c0) (fl a0) := F_a0_w14.below (hc17.mono B_w14.size)
  have F_a1_w16 : Rd w16 w.heap.size (.slice A1 a1.length c1) (fl a1) := F_a1_w14.below (hc17.mono B_w14.size)
  have F_pa0_w16 : In w16 w.heap.size (w.heap.size + 1) (.slice (some ⟨w.heap.size, 0, none⟩) 3 3) ([.int .i64 p0, .int .i64 q0, (.slice A0 a0.length c0)]) := F_pa0_w14.step hc17
  have T_pa0_w16 : (w.heap.size + 1) ≤ w16.heap.size := Nat.le_trans T_pa0_w14 hc17.size
  have F_pa1_w16 : In w16 (w.heap.size + 1) w2.heap.size (.slice (some ⟨w.heap.size + 1, 0, none⟩) 3 3) ([.int .i64 p1, .int .i64 q1, (.slice A1 a1.length c1)]) := F_pa1_w14.step hc17
  have T_pa1_w16 : w2.heap.size ≤ w16.heap.size := Nat.le_trans T_pa1_w14 hc17.size
  have F_x0_w16 : In w16 w7.heap.size w9.heap.size (.slice (some ⟨g9, 0, none⟩) a0.length a0.length) (fl a0) := F_x0_w14.step hc17
  have T_x0_w16 : w9.heap.size ≤ w16.heap.size := Nat.le_trans T_x0_w14 hc17.size
  have F_px0_w16 : In w16 w9.heap.size w10.heap.size (.slice (some ⟨w9.heap.size, 0, none⟩) 3 3) ([.int .i64 p0, .int .i64 q0, (.slice (some ⟨g9, 0, none⟩) a0.length a0.length)]) := F_px0_w14.step hc17
  have T_px0_w16 : w10.heap.size ≤ w16.heap.size := Nat.le_trans T_px0_w14 hc17.size
  have F_x1_w16 : In w16 w10.heap.size w11.heap.size (.slice (some ⟨g11, 0, none⟩) a1.length a1.length) (fl a1) := F_x1_w14.step hc17
  have T_x1_w16 : w11.heap.size ≤ w16.heap.size := Nat.le_trans T_x1_w14 hc17.size
  have F_px1_w16 : In w16 w11.heap.size w12.heap.size (.slice (some ⟨w11.heap.size, 0, none⟩) 3 3) ([.int .i64 p1, .int .i64 q1, (.slice (some ⟨g11, 0, none⟩) a1.length a1.length)]) := F_px1_w14.step hc17
  have T_px1_w16 : w12.heap.size ≤ w16.heap.size := Nat.le_trans T_px1_w14 hc17.size
  have B_w16 : Below w.heap.size w w16 := B_w14.trans (hc17.mono B_w14.size)
  clear F_a0_w14 F_a1_w14 F_pa0_w14 T_pa0_w14 F_pa1_w14 T_pa1_w14 F_x0_w14 T_x0_w14 F_px0_w14 T_px0_w14 F_x1_w14 T_x1_w14 F_px1_w14 T_px1_w14 B_w14
  clear hc17 hb15 hb16
  obtain ⟨_, Z_pa1_w16, c295, _⟩ := F_pa1_w16.1.cells' (by decide)
  have Q_pa10_w16 : w16.cell? ⟨w.heap.size + 1, 0, none⟩ = some (.int .i64 p1) := c295 0 _ rfl
  have Q_pa11_w16 : w16.cell? ⟨w.heap.size + 1, 1, none⟩ = some (.int .i64 q1) := c295 1 _ rfl
  have Q_pa12_w16 : w16.cell? ⟨w.heap.size + 1, 2, none⟩ = some ((.slice A1 a1.length c1)) := c295 2 _ rfl
  clear c295
  obtain ⟨_, Z_px1_w16, c300, _⟩ := F_px1_w16.1.cells' (by decide)
  have Q_px10_w16 : w16.cell? ⟨w11.heap.size, 0, none⟩ = some (.int .i64 p1) := c300 0 _ rfl
  have Q_px11_w16 : w16.cell? ⟨w11.heap.size, 1, none⟩ = some (.int .i64 q1) := c300 1 _ rfl
  have Q_px12_w16 : w16.cell? ⟨w11.heap.size, 2, none⟩ = some ((.slice (some ⟨g11, 0, none⟩) a1.length a1.length)) := c300 2 _ rfl
  clear c300
  have E_a1_w16 : Rd w16 w16.heap.size (.slice A1 a1.length c1) (fl a1) := (F_a1_w16.more B_w16.size)
  have E_x1_w16 : Rd w16 w16.heap.size (.slice (some ⟨g11, 0, none⟩) a1.length a1.length) (fl a1) := F_x1_w16.rd
  go_wp2_with fail
  go_region_held3 (fun w' => w'.cell? ⟨w.heap.size + 1, 0, none⟩ = some (.int .i64 p1) ∧ w'.cell? ⟨w.heap.size + 1, 1, none⟩ = some (.int .i64 q1) ∧ w'.cell? ⟨w.heap.size + 1, 2, none⟩ = some ((.slice A1 a1.length c1)) ∧ w'.cell? ⟨w11.heap.size, 0, none⟩ = some (.int .i64 p1) ∧ w'.cell? ⟨w11.heap.size, 1, none⟩ = some (.int .i64 q1) ∧ w'.cell? ⟨w11.heap.size, 2, none⟩ = some ((.slice (some ⟨g11, 0, none⟩) a1.length a1.length))) (first | exact ⟨Q_pa10_w16, Q_pa11_w16, Q_pa12_w16, Q_px10_w16, Q_px11_w16, Q_px12_w16⟩ | exact ⟨Q_pa10_w18, Q_pa11_w18, Q_pa12_w18, Q_px10_w18, Q_px11_w18, Q_px12_w18⟩ | exact ⟨Q_pa10_w19, Q_pa11_w19, Q_pa12_w19, Q_px10_w19, Q_px11_w19, Q_px12_w19⟩) ((first | (go_at_call 43; refine (toPic_any (.slice A1 a1.length c1) p1 q1 a1 _ ?_ hm1).mono ?_; exact E_a1_w16; rintro e w18 ⟨g18, rfl, P18, hb18⟩; replace hb18 : Below w16.heap.size w16 w18 := below_draw1 hb18; replace P18 : Own w18 w16.heap.size (.slice (some ⟨g18, 0, none⟩) a1.length a1.length) (fl a1) := P18; have E_a1_w18 := E_a1_w16.step hb18; have E_x1_w18 := E_x1_w16.step hb18; have Q_pa10_w18 : w18.cell? ⟨w.heap.size + 1, 0, none⟩ = some (.int .i64 p1) := (hb18.cell (p := ⟨w.heap.size + 1, 0, none⟩) Z_pa1_w16).trans Q_pa10_w16; have Q_pa11_w18 : w18.cell? ⟨w.heap.size + 1, 1, none⟩ = some (.int .i64 q1) := (hb18.cell (p := ⟨w.heap.size + 1, 1, none⟩) Z_pa1_w16).trans Q_pa11_w16; have Q_pa12_w18 : w18.cell? ⟨w.heap.size + 1, 2, none⟩ = some ((.slice A1 a1.length c1)) := (hb18.cell (p := ⟨w.heap.size + 1, 2, none⟩) Z_pa1_w16).trans Q_pa12_w16; have Z_pa1_w18 := Nat.lt_of_lt_of_le Z_pa1_w16 hb18.size; have Q_px10_w18 : w18.cell? ⟨w11.heap.size, 0, none⟩ = some (.int .i64 p1) := (hb18.cell (p := ⟨w11.heap.size, 0, none⟩) Z_px1_w16).trans Q_px10_w16; have Q_px11_w18 : w18.cell? ⟨w11.heap.size, 1, none⟩ = some (.int .i64 q1) := (hb18.cell (p := ⟨w11.heap.size, 1, none⟩) Z_px1_w16).trans Q_px11_w16; have Q_px12_w18 : w18.cell? ⟨w11.heap.size, 2, none⟩ = some ((.slice (some ⟨g11, 0, none⟩) a1.length a1.length)) := (hb18.cell (p := ⟨w11.heap.size, 2, none⟩) Z_px1_w16).trans Q_px12_w16; have Z_px1_w18 := Nat.lt_of_lt_of_le Z_px1_w16 hb18.size; have E_d1_w18 := P18.rd) | (go_at_call 45; refine (eqPic_any _ _ p1 q1 a1 a1 _ ?_ ?_ (Worth.refl _) hm1).mono ?_; exact E_x1_w18; exact E_d1_w18; rintro e w19 ⟨rfl, hb19⟩; have E_a1_w19 := E_a1_w18.step hb19; have E_x1_w19 := E_x1_w18.step hb19; have E_d1_w19 := E_d1_w18.step hb19; have Q_pa10_w19 : w19.cell? ⟨w.heap.size + 1, 0, none⟩ = some (.int .i64 p1) := (hb19.cell (p := ⟨w.heap.size + 1, 0, none⟩) Z_pa1_w18).trans Q_pa10_w18; have Q_pa11_w19 : w19.cell? ⟨w.heap.size + 1, 1, none⟩ = some (.int .i64 q1) := (hb19.cell (p := ⟨w.heap.size + 1, 1, none⟩) Z_pa1_w18).trans Q_pa11_w18; have Q_pa12_w19 : w19.cell? ⟨w.heap.size + 1, 2, none⟩ = some ((.slice A1 a1.length c1)) := (hb19.cell (p := ⟨w.heap.size + 1, 2, none⟩) Z_pa1_w18).trans Q_pa12_w18; have Z_pa1_w19 := Nat.lt_of_lt_of_le Z_pa1_w18 hb19.size; have Q_px10_w19 : w19.cell? ⟨w11.heap.size, 0, none⟩ = some (.int .i64 p1) := (hb19.cell (p := ⟨w11.heap.size, 0, none⟩) Z_px1_w18).trans Q_px10_w18; have Q_px11_w19 : w19.cell? ⟨w11.heap.size, 1, none⟩ = some (.int .i64 q1) := (hb19.cell (p := ⟨w11.heap.size, 1, none⟩) Z_px1_w18).trans Q_px11_w18; have Q_px12_w19 : w19.cell? ⟨w11.heap.size, 2, none⟩ = some ((.slice (some ⟨g11, 0, none⟩) a1.length a1.length)) := (hb19.cell (p := ⟨w11.heap.size, 2, none⟩) Z_px1_w18).trans Q_px12_w18; have Z_px1_w19 := Nat.lt_of_lt_of_le Z_px1_w18 hb19.size)))
  have hc20 : Below w16.heap.size w16 w19 := (hb18.trans (hb19.mono (by have := hb18.size; omega)))
  clear E_a1_w18 E_x1_w18 Q_pa10_w18 Q_pa11_w18 Q_pa12_w18 Z_pa1_w18 Q_px10_w18 Q_px11_w18 Q_px12_w18 Z_px1_w18 E_d1_w18 E_a1_w19 E_x1_w19 E_d1_w19 Q_pa10_w19 Q_pa11_w19 Q_pa12_w19 Z_pa1_w19 Q_px10_w19 Q_px11_w19 Q_px12_w19 Z_px1_w19 Z_pa1_w16 Q_pa10_w16 Q_pa11_w16 Q_pa12_w16 Z_px1_w16 Q_px10_w16 Q_px11_w16 Q_px12_w16 E_a1_w16 E_x1_w16 P18
  have F_a0_w19 : Rd w19 w.heap.size (.slice A0 a0.length c0) (fl a0) := F_a0_w16.below (hc20.mono B_w16.size)
  have F_a1_w19 : Rd w19 w.heap.size (.slice A1 a1.length c1) (fl a1) := F_a1_w16.below (hc20.mono B_w16.size)
  have F_pa0_w19 : In w19 w.heap.size (w.heap.size + 1) (.slice (some ⟨w.heap.size, 0, none⟩) 3 3) ([.int .i64 p0, .int .i64 q0, (.slice A0 a0.length c0)]) := F_pa0_w16.step hc20
  have T_pa0_w19 : (w.heap.size + 1) ≤ w19.heap.size := Nat.le_trans T_pa0_w16 hc20.size
  have F_pa1_w19 : In w19 (w.heap.size + 1) w2.heap.size (.slice (some ⟨w.heap.size + 1, 0, none⟩) 3 3) ([.int .i64 p1, .int .i64 q1, (.slice A1 a1.length c1)]) := F_pa1_w16.step hc20
  have T_pa1_w19 : w2.heap.size ≤ w19.heap.size := Nat.le_trans T_pa1_w16 hc20.size
  have F_x0_w19 : In w19 w7.heap.size w9.heap.size (.slice (some ⟨g9, 0, none⟩) a0.length a0.length) (fl a0) := F_x0_w16.step hc20
  have T_x0_w19 : w9.heap.size ≤ w19.heap.size := Nat.le_trans T_x0_w16 hc20.size
  have F_px0_w19 : In w19 w9.heap.size w10.heap.size (.slice (some ⟨w9.heap.size, 0, none⟩) 3 3) ([.int .i64 p0, .int .i64 q0, (.slice (some ⟨g9, 0, none⟩) a0.length a0.length)]) := F_px0_w16.step hc20
  have T_px0_w19 : w10.heap.size ≤ w19.heap.size := Nat.le_trans T_px0_w16 hc20.size
  have F_x1_w19 : In w19 w10.heap.size w11.heap.size (.slice (some ⟨g11, 0, none⟩) a1.length a1.length) (fl a1) := F_x1_w16.step hc20
  have T_x1_w19 : w11.heap.size ≤ w19.heap.size := Nat.le_trans T_x1_w16 hc20.size
  have F_px1_w19 : In w19 w11.heap.size w12.heap.size (.slice (some ⟨w11.heap.size, 0, none⟩) 3 3) ([.int .i64 p1, .int .i64 q1, (.slice (some ⟨g11, 0, none⟩) a1.length a1.length)]) := F_px1_w16.step hc20
  have T_px1_w19 : w12.heap.size ≤ w19.heap.size := Nat.le_trans T_px1_w16 hc20.size
  have B_w19 : Below w.heap.size w w19 := B_w16.trans (hc20.mono B_w16.size)
  clear F_a0_w16 F_a1_w16 F_pa0_w16 T_pa0_w16 F_pa1_w16 T_pa1_w16 F_x0_w16 T_x0_w16 F_px0_w16 T_px0_w16 F_x1_w16 T_x1_w16 F_px1_w16 T_px1_w16 B_w16
  clear hc20 hb18 hb19
  go_wp2_with fail
  go_ret
  exact ⟨rfl, B_w19⟩

namespace fnExactPeakRatio
open Go.ChangeShapes Go.WideShapes Go.ChangeAt Go.RowKit
open Go.ChangeMaps (open_string)
set_option linter.unusedVariables false
theorem own : ownKnob Try.prog.godebug = none := by kernel_rfl
theorem laidOut : laidOutB Try.prog = true := by kernel_rfl
set_option maxRecDepth 100000 in
theorem lifted (os : Os) (started : os.Started) (H : Type) (enc : TypeId × Value → H) :
    ReturnsInHanded {} Try.checked os 11 .any (Rows.fnExactPeakRatioSpec.pre6 enc Try.prog Try.f11 Rows.fnExactPeakRatioRow.domain false) (Rows.fnExactPeakRatioSpec.post enc Try.prog Try.f11 false true false false) := by
  refine returnsInHanded_of_change (C := Try.checked) own started (by kernel_rfl) Try.func11
    (ChangeSpec.witness6 (enc := enc) (C := Try.checked) false ⟨#[], #[.agg #[.int .i64 0, .int .i64 0, .slice none 0 0], .agg #[.int .i64 0, .int .i64 0, .slice none 0 0], .float .f32 0], []⟩ 8 (by kernel_rfl) (by kernel_rfl) (by kernel_rfl) (by kernel_rfl)) ?_
  intro W base args ds gs before hval0 hW hcnd _
  have hval : ∀ (j : Nat) t v, Try.f11.params[j]? = some t → args[j]? = some v → Value.okWide Try.prog W .any base t v := hval0
  have hW' := hW
  have hlt0 := hW.lt
  obtain ⟨p, q, hA0, hV, rfl, hfz, hnd⟩ := hW
  have hA : DataW.TrodAll enc Try.prog W 0 (fun _ => true) true Try.f11.params.toList args.toList ds p := hA0
  have hAk := hA
  have hltp : ∀ x ∈ p, x.block < W.heap.size := fun x hx => hlt0 x (List.mem_append_left _ hx)
  have hread : ∀ t ∈ Try.f11.params.toList, Try.prog.readableRec t = true ∧ t < Try.prog.types.size := by
    rw [Try.params11]
    intro t ht
    simp only [List.mem_cons, List.not_mem_nil, or_false] at ht
    rcases ht with rfl | rfl | rfl <;> exact ⟨by kernel_rfl, of_decide_eq_true (by kernel_rfl)⟩
  rw [Try.params11] at hA hval
  obtain ⟨v0, vs0, d0, ds0, p0, q0, hargs, rfl, rfl, h0, r0⟩ := trodAll_cons hA
  obtain ⟨v1, vs1, d1, ds1, p1, q1, rfl, rfl, rfl, h1, r1⟩ := trodAll_cons r0
  obtain ⟨v2, vs2, d2, ds2, p2, q2, rfl, rfl, rfl, h2, r2⟩ := trodAll_cons r1
  obtain ⟨rfl, rfl, rfl⟩ := trodAll_nil r2
  obtain rfl : args = #[v0, v1, v2] := by cases args; simp_all
  obtain ⟨rfl, rfl⟩ := trodVars_none hV
  obtain ⟨b0, p0, q0, a0, rfl, y0, z0, g0, w0⟩ := open_pic Try.underlying27 (by kernel_rfl) (by kernel_rfl) Try.underlying2 Try.underlying2 Try.underlying22 Try.underlying23 (by kernel_rfl) (hval 0 27 v0 rfl rfl) h0 (fun x hx => hltp x (by simp [hx]))
  obtain ⟨b1, p1, q1, a1, rfl, y1, z1, g1, w1⟩ := open_pic Try.underlying27 (by kernel_rfl) (by kernel_rfl) Try.underlying2 Try.underlying2 Try.underlying22 Try.underlying23 (by kernel_rfl) (hval 1 27 v1 rfl rfl) h1 (fun x hx => hltp x (by simp [hx]))
  obtain ⟨a2, rfl, rfl, rfl, w2⟩ := open_float Try.underlying23 (hval 2 23 v2 rfl rfl) h2
  clear hA0 hval0
  refine (walk W b0 p0 q0 a0 y0 z0 g0 w0 b1 p1 q1 a1 y1 z1 g1 w1 a2 w2).mono fun e W' ⟨he, hg⟩ => ?_
  subst he
  exact ⟨_, rfl, post_grown (pv := []) hW' hg (fun _ _ _ => (trodAll_cons_mk (shut_bool Try.underlying4 _) trodAll_mk0)) (trodAll_low laidOut hg _ _ _ _ hread hltp hAk) rfl rfl⟩

theorem over : Rows.fnExactPeakRatioRow.holds Try.pinned (OpenSpec.ofChange Rows.fnExactPeakRatioSpec) :=
  OpenClaim.holds_of_wide 11 Try.f11 rfl rfl rfl rfl rfl rfl rfl ⟨rfl, rfl, rfl, rfl, rfl⟩ rfl rfl rfl rfl rfl (by kernel_rfl) Try.func11 (by kernel_rfl)
    (of_decide_eq_true (by kernel_rfl)) (by unfold Func.isWrapper; first | (rw [if_pos (by decide +kernel)]; kernel_rfl) | (rw [if_neg (by decide +kernel)]; exact ⟨rfl, rfl⟩))
    (fun os started H enc _ => lifted os started H enc)

theorem proved : Rows.FnExactPeakRatioSaid := over
end fnExactPeakRatio
end Go.Proofs.Ythkklilfignmpaa
