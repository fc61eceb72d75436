/-
  The walk of the law of PutPicture.
-/
import Derived.Test.YtfbdmhkmkmbipaaRows
import Derived.ProofKit
import Derived.OpenShut
import Derived.WalkLawsBesides
import Derived.KernelRfl
import Derived.Test.YtfbdmhkmkmbipaaPiM
import Derived.Test.YtfbdmhkmkmbipaaPutI
import Derived.Test.YtfbdmhkmkmbipaaPutS
import Derived.Test.YtfbdmhkmkmbipaaBx3
namespace Go.Proofs.Ytfbdmhkmkmbipaa
open Go.RowKit Fl
set_option linter.unusedVariables false
set_option maxRecDepth 100000 in
set_option maxHeartbeats 8000000 in
theorem fnExactPutPicture.walk (w : World) (v0 : Value) (p0 q0 : Int) (a0 : List Nat) (y0 : (Lit.int .i64 p0).wf = true) (z0 : (Lit.int .i64 q0).wf = true) (h0 : Rd w w.heap.size v0 (a0.map (.float .f32))) (w0 : ∀ x ∈ a0, x < 2 ^ 32) (v1 : Value) (p1 q1 : Int) (a1 : List Nat) (y1 : (Lit.int .i64 p1).wf = true) (z1 : (Lit.int .i64 q1).wf = true) (h1 : Rd w w.heap.size v1 (a1.map (.float .f32))) (w1 : ∀ x ∈ a1, x < 2 ^ 32) (a2 : Int) (w2 : (Lit.int .i64 a2).wf = true) (a3 : Int) (w3 : (Lit.int .i64 a3).wf = true) :
    Calls Try.prog 7 #[.agg #[.int .i64 p0, .int .i64 q0, v0], .agg #[.int .i64 p1, .int .i64 q1, v1], .int .i64 a2, .int .i64 a3] w fun e w' => e = .returned (.bool true) ∧ Below w.heap.size w w' := by
  have hle0 : a0.length ≤ 9223372036854775807 := by
    have := h0.le
    rw [show (a0.map (.float .f32)) = fl a0 from rfl, fl_len] at this
    unfold maxLen at this
    omega
  replace h0 : Rd w w.heap.size v0 (fl a0) := h0
  obtain ⟨A0, c0, hv0, hc01, hc02, hcell0⟩ := id h0
  rw [fl_len] at hv0
  clear hcell0 hc01 hc02
  subst hv0
  have HX0 := Lib.hid w0
  clear w0
  have hle1 : a1.length ≤ 9223372036854775807 := by
    have := h1.le
    rw [show (a1.map (.float .f32)) = fl a1 from rfl, fl_len] at this
    unfold maxLen at this
    omega
  replace h1 : Rd w w.heap.size v1 (fl a1) := h1
  obtain ⟨A1, c1, hv1, hc11, hc12, hcell1⟩ := id h1
  rw [fl_len] at hv1
  clear hcell1 hc11 hc12
  subst hv1
  have HX1 := Lib.hid w1
  clear w1
  obtain ⟨P, hPe⟩ : ∃ x, x = crP (ptB p0 q0 a0 p1 q1 a1 a2 a3) p0 := ⟨_, rfl⟩
  obtain ⟨Q, hQe⟩ : ∃ x, x = crP (ptB p0 q0 a0 p1 q1 a1 a2 a3) q0 := ⟨_, rfl⟩
  obtain ⟨L, hLe⟩ : ∃ x, x = ptV p0 q0 a0 p1 q1 a1 a2 a3 := ⟨_, rfl⟩
  obtain ⟨b, hbe⟩ : ∃ x, x = ptB p0 q0 a0 p1 q1 a1 a2 a3 := ⟨_, rfl⟩
  have hL : L.length ≤ 1048576 := by rw [hLe]; exact ptV_len _ _ _ _ _ _ _ _
  have HS0 := Lib.hid (fun (hm0 : a0.length ≤ 1048576) (hm1 : a1.length ≤ 1048576) (w' : World) (u0 : Value) (u1 : Value) (hr0 : Rd w' w'.heap.size u0 (fl a0)) (hr1 : Rd w' w'.heap.size u1 (fl a1)) => (show Calls Try.prog 35 #[.agg #[.int .i64 p0, .int .i64 q0, u0], .agg #[.int .i64 p1, .int .i64 q1, u1], .int .i64 a2, .int .i64 a3] w' (RetPs P Q L b w') from Calls.mono (show Calls Try.prog 35 #[.agg #[.int .i64 p0, .int .i64 q0, u0], .agg #[.int .i64 p1, .int .i64 q1, u1], .int .i64 a2, .int .i64 a3] w' (RetPc P Q L b w') by rw [hPe, hQe, hLe, hbe]; exact putS_any u0 p0 q0 a0 u1 p1 q1 a1 a2 a3 w' hr0 hr1 hm0 HX0.out hm1 HX1.out) fun e w'' h => retPs h))
  have HI0 := Lib.hid (fun (hm0 : a0.length ≤ 1048576) (hm1 : a1.length ≤ 1048576) (w' : World) (u0 : Value) (u1 : Value) (hr0 : Rd w' w'.heap.size u0 (fl a0)) (hr1 : Rd w' w'.heap.size u1 (fl a1)) => (show Calls Try.prog 37 #[.agg #[.int .i64 p0, .int .i64 q0, u0], .agg #[.int .i64 p1, .int .i64 q1, u1], .int .i64 a2, .int .i64 a3] w' (RetPs P Q L b w') from Calls.mono (show Calls Try.prog 37 #[.agg #[.int .i64 p0, .int .i64 q0, u0], .agg #[.int .i64 p1, .int .i64 q1, u1], .int .i64 a2, .int .i64 a3] w' (RetPc P Q L b w') by rw [hPe, hQe, hLe, hbe]; exact putI_any u0 p0 q0 a0 u1 p1 q1 a1 a2 a3 w' hr0 hr1 hm0 HX0.out hm1 HX1.out) fun e w'' h => retPs h))
  clear hPe hQe hLe hbe
  have hsf : ∀ (a : Addr) (x : Nat) (w : World), (store a (.float .f32 x)).run Try.prog w = stored Try.prog w a (.float .f32 x) .plain := fun a x w => run_store _ w a _ _ rfl
  go_enter Try.func7, Try.ntmps7
  have F_a0_w : Rd w w.heap.size (.slice A0 a0.length c0) (fl a0) := h0
  have F_a1_w : Rd w w.heap.size (.slice A1 a1.length c1) (fl a1) := h1
  have B_w : Below w.heap.size w w := Below.refl _ _
  clear h0 h1
  go_wp2_with fail
  have hb1 : Below w.heap.size w (w.alloc (.cells #[.int .i64 p0, .int .i64 q0, (.slice A0 a0.length c0)] 48)) := (Below.refl _ _).alloc (Nat.le_refl _) _
  have O1 := own_box3 w (.int .i64 p0) (.int .i64 q0) ((.slice A0 a0.length c0)) 48
  have hs1 : (w.alloc (.cells #[.int .i64 p0, .int .i64 q0, (.slice A0 a0.length c0)] 48)).heap.size = w.heap.size + 1 := by simp
  generalize w.alloc (.cells #[.int .i64 p0, .int .i64 q0, (.slice A0 a0.length c0)] 48) = w1 at *
  have F_a0_w1 : Rd w1 w.heap.size (.slice A0 a0.length c0) (fl a0) := F_a0_w.below (hb1.mono B_w.size)
  have F_a1_w1 : Rd w1 w.heap.size (.slice A1 a1.length c1) (fl a1) := F_a1_w.below (hb1.mono B_w.size)
  have B_w1 : Below w.heap.size w w1 := B_w.trans (hb1.mono B_w.size)
  have S_pa0 : w.heap.size ≤ w.heap.size := B_w.size
  clear F_a0_w F_a1_w B_w
  have F_pa0_w1 : In w1 w.heap.size w1.heap.size (.slice (some ⟨w.heap.size, 0, none⟩) 3 3) ([.int .i64 p0, .int .i64 q0, (.slice A0 a0.length c0)]) := In.made O1
  have T_pa0_w1 : w1.heap.size ≤ w1.heap.size := Nat.le_refl _
  clear O1
  clear hb1
  have hb2 : Below w1.heap.size w1 (w1.alloc (.cells #[.int .i64 p1, .int .i64 q1, (.slice A1 a1.length c1)] 48)) := (Below.refl _ _).alloc (Nat.le_refl _) _
  have O2 := own_box3 w1 (.int .i64 p1) (.int .i64 q1) ((.slice A1 a1.length c1)) 48
  have hs2 : (w1.alloc (.cells #[.int .i64 p1, .int .i64 q1, (.slice A1 a1.length c1)] 48)).heap.size = w1.heap.size + 1 := by simp
  generalize w1.alloc (.cells #[.int .i64 p1, .int .i64 q1, (.slice A1 a1.length c1)] 48) = w2 at *
  have F_a0_w2 : Rd w2 w.heap.size (.slice A0 a0.length c0) (fl a0) := F_a0_w1.below (hb2.mono B_w1.size)
  have F_a1_w2 : Rd w2 w.heap.size (.slice A1 a1.length c1) (fl a1) := F_a1_w1.below (hb2.mono B_w1.size)
  have F_pa0_w2 : In w2 w.heap.size w1.heap.size (.slice (some ⟨w.heap.size, 0, none⟩) 3 3) ([.int .i64 p0, .int .i64 q0, (.slice A0 a0.length c0)]) := F_pa0_w1.step hb2
  have T_pa0_w2 : w1.heap.size ≤ w2.heap.size := Nat.le_trans T_pa0_w1 hb2.size
  have B_w2 : Below w.heap.size w w2 := B_w1.trans (hb2.mono B_w1.size)
  have S_pa1 : w.heap.size ≤ w1.heap.size := B_w1.size
  have D_pa0_pa1 : w1.heap.size ≤ w1.heap.size := T_pa0_w1
  clear F_a0_w1 F_a1_w1 F_pa0_w1 T_pa0_w1 B_w1
  have F_pa1_w2 : In w2 w1.heap.size w2.heap.size (.slice (some ⟨w1.heap.size, 0, none⟩) 3 3) ([.int .i64 p1, .int .i64 q1, (.slice A1 a1.length c1)]) := In.made O2
  have T_pa1_w2 : w2.heap.size ≤ w2.heap.size := Nat.le_refl _
  clear O2
  clear hb2
  rw [hs1] at F_pa0_w2 T_pa0_w2 F_pa1_w2 D_pa0_pa1 S_pa1
  clear hs1 hs2
  refine (szPic_any _ p0 q0 a0 (1048576) _ (F_a0_w2.more B_w2.size) (by omega) (by omega) hle0).mono ?_
  rintro e w3 ⟨rfl, hb3⟩
  have F_a0_w3 : Rd w3 w.heap.size (.slice A0 a0.length c0) (fl a0) := F_a0_w2.below (hb3.mono B_w2.size)
  have F_a1_w3 : Rd w3 w.heap.size (.slice A1 a1.length c1) (fl a1) := F_a1_w2.below (hb3.mono B_w2.size)
  have F_pa0_w3 : In w3 w.heap.size (w.heap.size + 1) (.slice (some ⟨w.heap.size, 0, none⟩) 3 3) ([.int .i64 p0, .int .i64 q0, (.slice A0 a0.length c0)]) := F_pa0_w2.step hb3
  have T_pa0_w3 : (w.heap.size + 1) ≤ w3.heap.size := Nat.le_trans T_pa0_w2 hb3.size
  have F_pa1_w3 : In w3 (w.heap.size + 1) w2.heap.size (.slice (some ⟨w.heap.size + 1, 0, none⟩) 3 3) ([.int .i64 p1, .int .i64 q1, (.slice A1 a1.length c1)]) := F_pa1_w2.step hb3
  have T_pa1_w3 : w2.heap.size ≤ w3.heap.size := Nat.le_trans T_pa1_w2 hb3.size
  have B_w3 : Below w.heap.size w w3 := B_w2.trans (hb3.mono B_w2.size)
  clear F_a0_w2 F_a1_w2 F_pa0_w2 T_pa0_w2 F_pa1_w2 T_pa1_w2 B_w2
  clear hb3
  by_cases hbig0 : (1048576 : Int) < a0.length
  · rw [if_pos hbig0]
    go_wp2_with fail
    go_ret
    exact ⟨rfl, B_w3⟩
  rw [if_neg hbig0]
  have hm0 : a0.length ≤ 1048576 := by omega
  have hl0 : 0 ≤ (1048576 : Int) - a0.length := by omega
  clear hbig0
  obtain ⟨_, Z_pa1_w3, c57, _⟩ := F_pa1_w3.1.cells' (by decide)
  have Q_pa10_w3 : w3.cell? ⟨w.heap.size + 1, 0, none⟩ = some (.int .i64 p1) := c57 0 _ rfl
  have Q_pa11_w3 : w3.cell? ⟨w.heap.size + 1, 1, none⟩ = some (.int .i64 q1) := c57 1 _ rfl
  have Q_pa12_w3 : w3.cell? ⟨w.heap.size + 1, 2, none⟩ = some ((.slice A1 a1.length c1)) := c57 2 _ rfl
  clear c57
  go_wp2_with fail
  clear Z_pa1_w3 Q_pa10_w3 Q_pa11_w3 Q_pa12_w3
  refine (szPic_any _ p1 q1 a1 (1048576 - a0.length) _ (F_a1_w3.more B_w3.size) (by omega) (by omega) hle1).mono ?_
  rintro e w4 ⟨rfl, hb4⟩
  have F_a0_w4 : Rd w4 w.heap.size (.slice A0 a0.length c0) (fl a0) := F_a0_w3.below (hb4.mono B_w3.size)
  have F_a1_w4 : Rd w4 w.heap.size (.slice A1 a1.length c1) (fl a1) := F_a1_w3.below (hb4.mono B_w3.size)
  have F_pa0_w4 : In w4 w.heap.size (w.heap.size + 1) (.slice (some ⟨w.heap.size, 0, none⟩) 3 3) ([.int .i64 p0, .int .i64 q0, (.slice A0 a0.length c0)]) := F_pa0_w3.step hb4
  have T_pa0_w4 : (w.heap.size + 1) ≤ w4.heap.size := Nat.le_trans T_pa0_w3 hb4.size
  have F_pa1_w4 : In w4 (w.heap.size + 1) w2.heap.size (.slice (some ⟨w.heap.size + 1, 0, none⟩) 3 3) ([.int .i64 p1, .int .i64 q1, (.slice A1 a1.length c1)]) := F_pa1_w3.step hb4
  have T_pa1_w4 : w2.heap.size ≤ w4.heap.size := Nat.le_trans T_pa1_w3 hb4.size
  have B_w4 : Below w.heap.size w w4 := B_w3.trans (hb4.mono B_w3.size)
  clear F_a0_w3 F_a1_w3 F_pa0_w3 T_pa0_w3 F_pa1_w3 T_pa1_w3 B_w3
  clear hb4
  by_cases hbig1 : (1048576 - a0.length : Int) < a1.length
  · rw [if_pos hbig1]
    go_wp2_with fail
    go_ret
    exact ⟨rfl, B_w4⟩
  rw [if_neg hbig1]
  have hm1 : a1.length ≤ 1048576 := by omega
  have hl1 : 0 ≤ (1048576 - a0.length : Int) - a1.length := by omega
  clear hbig1
  have HS := Lib.hid (HS0.out hm0 hm1)
  have HI := Lib.hid (HI0.out hm0 hm1)
  clear HS0 HI0
  obtain ⟨_, Z_pa0_w4, c87, _⟩ := F_pa0_w4.1.cells' (by decide)
  have Q_pa00_w4 : w4.cell? ⟨w.heap.size, 0, none⟩ = some (.int .i64 p0) := c87 0 _ rfl
  have Q_pa01_w4 : w4.cell? ⟨w.heap.size, 1, none⟩ = some (.int .i64 q0) := c87 1 _ rfl
  have Q_pa02_w4 : w4.cell? ⟨w.heap.size, 2, none⟩ = some ((.slice A0 a0.length c0)) := c87 2 _ rfl
  clear c87
  obtain ⟨_, Z_pa1_w4, c92, _⟩ := F_pa1_w4.1.cells' (by decide)
  have Q_pa10_w4 : w4.cell? ⟨w.heap.size + 1, 0, none⟩ = some (.int .i64 p1) := c92 0 _ rfl
  have Q_pa11_w4 : w4.cell? ⟨w.heap.size + 1, 1, none⟩ = some (.int .i64 q1) := c92 1 _ rfl
  have Q_pa12_w4 : w4.cell? ⟨w.heap.size + 1, 2, none⟩ = some ((.slice A1 a1.length c1)) := c92 2 _ rfl
  clear c92
  have E_a0 : Rd w4 w4.heap.size (.slice A0 a0.length c0) (fl a0) := (F_a0_w4.more B_w4.size)
  have E_a1 : Rd w4 w4.heap.size (.slice A1 a1.length c1) (fl a1) := (F_a1_w4.more B_w4.size)
  have HSH := Lib.hid (fun (w' : World) (hb : Below w4.heap.size w4 w') => (show w'.cell? ⟨w.heap.size, 0, none⟩ = some (.int .i64 p0) ∧ w'.cell? ⟨w.heap.size, 1, none⟩ = some (.int .i64 q0) ∧ w'.cell? ⟨w.heap.size, 2, none⟩ = some ((.slice A0 a0.length c0)) ∧ w'.cell? ⟨w.heap.size + 1, 0, none⟩ = some (.int .i64 p1) ∧ w'.cell? ⟨w.heap.size + 1, 1, none⟩ = some (.int .i64 q1) ∧ w'.cell? ⟨w.heap.size + 1, 2, none⟩ = some ((.slice A1 a1.length c1)) from ⟨(hb.cell (p := ⟨w.heap.size, 0, none⟩) Z_pa0_w4).trans Q_pa00_w4, (hb.cell (p := ⟨w.heap.size, 1, none⟩) Z_pa0_w4).trans Q_pa01_w4, (hb.cell (p := ⟨w.heap.size, 2, none⟩) Z_pa0_w4).trans Q_pa02_w4, (hb.cell (p := ⟨w.heap.size + 1, 0, none⟩) Z_pa1_w4).trans Q_pa10_w4, (hb.cell (p := ⟨w.heap.size + 1, 1, none⟩) Z_pa1_w4).trans Q_pa11_w4, (hb.cell (p := ⟨w.heap.size + 1, 2, none⟩) Z_pa1_w4).trans Q_pa12_w4⟩))
  go_upto_region 8 with fail
  go_cut [10, 11] from 31 to 40 (fun s8 s9 wx => ∃ (g8 : Nat) (A8 : Option Addr) (c8 : Nat), s8 = .pointer (some ⟨g8, 0, none⟩) ∧ s9 = .bool b ∧ Below w4.heap.size w4 wx ∧ Own wx w4.heap.size (.slice A8 L.length c8) (fl L) ∧ Own wx w4.heap.size (.slice (some ⟨g8, 0, none⟩) 3 3) [.int .i64 P, .int .i64 Q, .slice A8 L.length c8])
  case first =>
    have hB00 := Lib.hid (show Below w4.heap.size w4 w4.drew from below_drawn (Below.refl _ _) 1)
    refine wp_region_held_drew (S := (fun w' => w'.cell? ⟨w.heap.size, 0, none⟩ = some (.int .i64 p0) ∧ w'.cell? ⟨w.heap.size, 1, none⟩ = some (.int .i64 q0) ∧ w'.cell? ⟨w.heap.size, 2, none⟩ = some ((.slice A0 a0.length c0)) ∧ w'.cell? ⟨w.heap.size + 1, 0, none⟩ = some (.int .i64 p1) ∧ w'.cell? ⟨w.heap.size + 1, 1, none⟩ = some (.int .i64 q1) ∧ w'.cell? ⟨w.heap.size + 1, 2, none⟩ = some ((.slice A1 a1.length c1)))) (by kernel_rfl) ?_ (fun hHeld => ?_)
    · exact HSH.out _ (below_drawn (Below.refl _ _) 1)
    refine wpAnyH_take (i := 0) (v := ?v1) rfl (by kernel_rfl) (by kernel_rfl) (by kernel_rfl) (fun _ _ _ h => h) (Or.inl ⟨by rfl, ?y1⟩) (by assumption) ?r1
    case y1 => (intro w hSw; (try dsimp only at hSw); go_simp; try (with_reducible rfl))
    (try simp only [Act.put]); (try simp only [List.setIfInBounds_toArray]); (try simp only [List.set_cons_succ]); (try simp only [List.set_cons_zero])
    refine wpAnyH_take (i := 2) (v := ?v2) rfl (by kernel_rfl) (by kernel_rfl) (by kernel_rfl) (fun _ _ _ h => h) (Or.inl ⟨by rfl, ?y2⟩) (by assumption) ?r2
    case y2 => (intro w hSw; (try dsimp only at hSw); go_simp; try (with_reducible rfl))
    (try simp only [Act.put]); (try simp only [List.setIfInBounds_toArray]); (try simp only [List.set_cons_succ]); (try simp only [List.set_cons_zero])
    refine wpAnyH_take (i := 4) (v := ?v3) rfl (by kernel_rfl) (by kernel_rfl) (by kernel_rfl) (fun _ _ _ h => h) (Or.inl ⟨by rfl, ?y3⟩) (by assumption) ?r3
    case y3 => (intro w hSw; (try dsimp only at hSw); go_simp; try (with_reducible rfl))
    (try simp only [Act.put]); (try simp only [List.setIfInBounds_toArray]); (try simp only [List.set_cons_succ]); (try simp only [List.set_cons_zero])
    refine wpAnyH_take (i := 5) (v := ?v4) rfl (by kernel_rfl) (by kernel_rfl) (by kernel_rfl) (fun _ _ _ h => h) (Or.inl ⟨by rfl, ?y4⟩) (by assumption) ?r4
    case y4 => (intro w hSw; (try dsimp only at hSw); go_simp; try (with_reducible rfl))
    (try simp only [Act.put]); (try simp only [List.setIfInBounds_toArray]); (try simp only [List.set_cons_succ]); (try simp only [List.set_cons_zero])
    refine wpAnyH_ready (rs := [1, 10]) (by kernel_rfl) (by simp) ?_
    refine AllReadyH.cons rfl (fun K hK => ?_) (AllReadyH.cons rfl (fun K hK => ?_) AllReadyH.nil)
    · skip
      go_simp
      go_at_call 36
      refine (toPic_any (.slice A0 a0.length c0) p0 q0 a0 w4.drew (E_a0.step hB00.out) hm0).mono ?_
      rintro e v1 ⟨gv1, rfl, Ov1, hbv1⟩
      have hBv1 := Lib.hid (hB00.out.trans (hbv1.mono hB00.out.size))
      refine hK.out _ _ ?_ (fun hHeld => ?_)
      · exact HSH.out _ hBv1.out
      clear hK K
      (try simp only [Act.put]); (try simp only [List.setIfInBounds_toArray]); (try simp only [List.set_cons_succ]); (try simp only [List.set_cons_zero])
      refine wpAnyH_ready (rs := [3, 10]) (by kernel_rfl) (by simp) ?_
      refine AllReadyH.cons rfl (fun K hK => ?_) (AllReadyH.cons rfl (fun K hK => ?_) AllReadyH.nil)
      · skip
        go_simp
        go_at_call 36
        refine (toPic_any (.slice A1 a1.length c1) p1 q1 a1 v1 (E_a1.step hBv1.out) hm1).mono ?_
        rintro e v2 ⟨gv2, rfl, Ov2, hbv2⟩
        have hBv2 := Lib.hid (hBv1.out.trans (hbv2.mono hBv1.out.size))
        refine hK.out _ _ ?_ (fun hHeld => ?_)
        · exact HSH.out _ hBv2.out
        clear hK K
        (try simp only [Act.put]); (try simp only [List.setIfInBounds_toArray]); (try simp only [List.set_cons_succ]); (try simp only [List.set_cons_zero])
        refine wpAnyH_ready (rs := [6, 10]) (by kernel_rfl) (by simp) ?_
        refine AllReadyH.cons rfl (fun K hK => ?_) (AllReadyH.cons rfl (fun K hK => ?_) AllReadyH.nil)
        · skip
          go_simp
          go_at_call 35
          refine (HS.out v2 _ _ (Ov1.rd.step hbv2) Ov2.rd).mono ?_
          rintro e v3 ⟨A8, c8, rfl, Ov3, hbv3⟩
          have O8 := Lib.hid Ov3
          have HLO := Lib.hid hBv2.out.size
          have hBv3 := Lib.hid (hBv2.out.trans (hbv3.mono hBv2.out.size))
          refine hK.out _ _ ?_ (fun hHeld => ?_)
          · exact HSH.out _ hBv3.out
          clear hK K
          (try simp only [Act.put]); (try simp only [List.setIfInBounds_toArray]); (try simp only [List.set_cons_succ]); (try simp only [List.set_cons_zero])
          refine wpAnyH_take (i := 7) (v := ?v5) rfl (by kernel_rfl) (by kernel_rfl) (by kernel_rfl) (fun _ _ _ h => h) (Or.inl ⟨by rfl, ?y5⟩) (by assumption) ?r5
          case y5 => (intro w hSw; (try dsimp only at hSw); go_simp; try (with_reducible rfl))
          (try simp only [Act.put]); (try simp only [List.setIfInBounds_toArray]); (try simp only [List.set_cons_succ]); (try simp only [List.set_cons_zero])
          refine wpAnyH_take (i := 8) (v := ?v6) rfl (by kernel_rfl) (by kernel_rfl) (by kernel_rfl) (fun _ _ _ h => h) (Or.inl ⟨by rfl, ?y6⟩) (by assumption) ?r6
          case y6 => (intro w hSw; (try dsimp only at hSw); go_simp; try (with_reducible rfl))
          (try simp only [Act.put]); (try simp only [List.setIfInBounds_toArray]); (try simp only [List.set_cons_succ]); (try simp only [List.set_cons_zero])
          refine wpAnyH_take (i := 9) (v := ?v7) rfl (by kernel_rfl) (by kernel_rfl) (by kernel_rfl) (fun _ _ _ h => h) (Or.inl ⟨by rfl, ?y7⟩) (by assumption) ?r7
          case y7 => (intro w hSw; (try dsimp only at hSw); go_simp; try (with_reducible rfl))
          (try simp only [Act.put]); (try simp only [List.setIfInBounds_toArray]); (try simp only [List.set_cons_succ]); (try simp only [List.set_cons_zero])
          refine wpAnyH_ready (rs := [10]) (by kernel_rfl) (by simp) ?_
          refine AllReadyH.cons rfl (fun K hK => ?_) AllReadyH.nil
          go_simp
          refine hK.out _ _ ?_ (fun hHeld => ?_)
          · exact HSH.out _ (hBv3.out.alloc hBv3.out.size _)
          clear hK K
          (try simp only [Act.put]); (try simp only [List.setIfInBounds_toArray]); (try simp only [List.set_cons_succ]); (try simp only [List.set_cons_zero])
          refine wpAnyH_ready (rs := [11]) (by kernel_rfl) (by simp) ?_
          refine AllReadyH.cons rfl (fun K hK => ?_) AllReadyH.nil
          go_simp
          refine hK.out _ _ ?_ (fun hHeld => ?_)
          · exact HSH.out _ (hBv3.out.alloc hBv3.out.size _)
          clear hK K
          (try simp only [Act.put]); (try simp only [List.setIfInBounds_toArray]); (try simp only [List.set_cons_succ]); (try simp only [List.set_cons_zero])
          refine wpAnyH_ready (rs := [12]) (by kernel_rfl) (by simp) ?_
          refine AllReadyH.cons rfl (fun K hK => ?_) AllReadyH.nil
          go_simp
          refine hK.out _ _ ?_ (fun hHeld => ?_)
          · exact HSH.out _ (hBv3.out.alloc hBv3.out.size _)
          clear hK K
          (try simp only [Act.put]); (try simp only [List.setIfInBounds_toArray]); (try simp only [List.set_cons_succ]); (try simp only [List.set_cons_zero])
          refine wpAnyH_done (by kernel_rfl) ?_ _
          (try go_wp2_with fail)
          go_meet
          exact ⟨_, A8, c8, rfl, rfl, hBv3.out.alloc hBv3.out.size _, (O8.out.below ((Below.refl _ _).alloc (Nat.le_refl _) _)).less HLO.out, (own_box3 v3 (.int .i64 P) (.int .i64 Q) (.slice A8 L.length c8) 50).less hBv3.out.size⟩
        · skip
          have hBy4 := Lib.hid (show Below w4.heap.size w4 (v2.alloc (.cells #[.int .i64 0, .int .i64 0, .slice none 0 0] 50)) from hBv2.out.alloc hBv2.out.size _)
          have HXy4 := Lib.hid (show Bx (v2.alloc (.cells #[.int .i64 0, .int .i64 0, .slice none 0 0] 50)) v2.heap.size [.int .i64 0, .int .i64 0, .slice none 0 0] from bx_new v2 [.int .i64 0, .int .i64 0, .slice none 0 0] 50)
          have HG8 := Lib.hid (show w4.heap.size ≤ v2.heap.size from hBv2.out.size)
          go_simp
          refine hK.out _ _ ?_ (fun hHeld => ?_)
          · exact HSH.out _ hBy4.out
          clear hK K
          (try simp only [Act.put]); (try simp only [List.setIfInBounds_toArray]); (try simp only [List.set_cons_succ]); (try simp only [List.set_cons_zero])
          refine wpAnyH_ready (rs := [6]) (by kernel_rfl) (by simp) ?_
          refine AllReadyH.cons rfl (fun K hK => ?_) AllReadyH.nil
          go_simp
          go_at_call 35
          refine (HS.out (v2.alloc (.cells #[.int .i64 0, .int .i64 0, .slice none 0 0] 50)) _ _ ((Ov1.rd.step hbv2).step ((Below.refl _ _).alloc (Nat.le_refl _) _)) (Ov2.rd.step ((Below.refl _ _).alloc (Nat.le_refl _) _))).mono ?_
          rintro e v5 ⟨A8, c8, rfl, Ov5, hbv5⟩
          have O8 := Lib.hid Ov5
          have HLO := Lib.hid hBy4.out.size
          have hBv5 := Lib.hid (hBy4.out.trans (hbv5.mono hBy4.out.size))
          have HG9 := Lib.hid (HXy4).out.1
          have HXv5 := Lib.hid ((HXy4).out.step hbv5)
          refine hK.out _ _ ?_ (fun hHeld => ?_)
          · exact HSH.out _ hBv5.out
          clear hK K
          (try simp only [Act.put]); (try simp only [List.setIfInBounds_toArray]); (try simp only [List.set_cons_succ]); (try simp only [List.set_cons_zero])
          refine wpAnyH_take (i := 7) (v := ?v8) rfl (by kernel_rfl) (by kernel_rfl) (by kernel_rfl) (fun _ _ _ h => h) (Or.inl ⟨by rfl, ?y8⟩) (by assumption) ?r8
          case y8 => (intro w hSw; (try dsimp only at hSw); go_simp; try (with_reducible rfl))
          (try simp only [Act.put]); (try simp only [List.setIfInBounds_toArray]); (try simp only [List.set_cons_succ]); (try simp only [List.set_cons_zero])
          refine wpAnyH_take (i := 8) (v := ?v9) rfl (by kernel_rfl) (by kernel_rfl) (by kernel_rfl) (fun _ _ _ h => h) (Or.inl ⟨by rfl, ?y9⟩) (by assumption) ?r9
          case y9 => (intro w hSw; (try dsimp only at hSw); go_simp; try (with_reducible rfl))
          (try simp only [Act.put]); (try simp only [List.setIfInBounds_toArray]); (try simp only [List.set_cons_succ]); (try simp only [List.set_cons_zero])
          refine wpAnyH_take (i := 9) (v := ?v10) rfl (by kernel_rfl) (by kernel_rfl) (by kernel_rfl) (fun _ _ _ h => h) (Or.inl ⟨by rfl, ?y10⟩) (by assumption) ?r10
          case y10 => (intro w hSw; (try dsimp only at hSw); go_simp; try (with_reducible rfl))
          (try simp only [Act.put]); (try simp only [List.setIfInBounds_toArray]); (try simp only [List.set_cons_succ]); (try simp only [List.set_cons_zero])
          have HXX := HXv5
          obtain ⟨d0, d1, d2, f0, f1, f2⟩ := bx_threeL HXX.out
          refine wpAnyH_ready (rs := [11]) (by kernel_rfl) (by simp) ?_
          refine AllReadyH.cons rfl (fun K hK => ?_) AllReadyH.nil
          go_simp
          refine hK.out _ _ ?_ (fun hHeld => ?_)
          · exact HSH.out _ (((hBv5.out.setCell (p := ⟨v2.heap.size, 0, none⟩) HG8.out _).setCell (p := ⟨v2.heap.size, 1, none⟩) HG8.out _).setCell (p := ⟨v2.heap.size, 2, none⟩) HG8.out _)
          clear hK K
          (try simp only [Act.put]); (try simp only [List.setIfInBounds_toArray]); (try simp only [List.set_cons_succ]); (try simp only [List.set_cons_zero])
          refine wpAnyH_ready (rs := [12]) (by kernel_rfl) (by simp) ?_
          refine AllReadyH.cons rfl (fun K hK => ?_) AllReadyH.nil
          go_simp
          refine hK.out _ _ ?_ (fun hHeld => ?_)
          · exact HSH.out _ (((hBv5.out.setCell (p := ⟨v2.heap.size, 0, none⟩) HG8.out _).setCell (p := ⟨v2.heap.size, 1, none⟩) HG8.out _).setCell (p := ⟨v2.heap.size, 2, none⟩) HG8.out _)
          clear hK K
          (try simp only [Act.put]); (try simp only [List.setIfInBounds_toArray]); (try simp only [List.set_cons_succ]); (try simp only [List.set_cons_zero])
          refine wpAnyH_done (by kernel_rfl) ?_ _
          (try go_wp2_with fail)
          go_meet
          exact ⟨v2.heap.size, A8, c8, rfl, rfl, (((hBv5.out.setCell (p := ⟨v2.heap.size, 0, none⟩) HG8.out _).setCell (p := ⟨v2.heap.size, 1, none⟩) HG8.out _).setCell (p := ⟨v2.heap.size, 2, none⟩) HG8.out _), (((O8.out.setLess (a := ⟨v2.heap.size, 0, none⟩) HG9.out _).setLess (a := ⟨v2.heap.size, 1, none⟩) HG9.out _).setLess (a := ⟨v2.heap.size, 2, none⟩) HG9.out _).less HLO.out, bx_own3L (((HXX.out.set 0 (by simp) (.int .i64 P)).set 1 (by simp) (.int .i64 Q)).set 2 (by simp) (.slice A8 L.length c8)) HG8.out⟩
      · skip
        have hBy6 := Lib.hid (show Below w4.heap.size w4 (v1.alloc (.cells #[.int .i64 0, .int .i64 0, .slice none 0 0] 50)) from hBv1.out.alloc hBv1.out.size _)
        have HXy6 := Lib.hid (show Bx (v1.alloc (.cells #[.int .i64 0, .int .i64 0, .slice none 0 0] 50)) v1.heap.size [.int .i64 0, .int .i64 0, .slice none 0 0] from bx_new v1 [.int .i64 0, .int .i64 0, .slice none 0 0] 50)
        have HG8 := Lib.hid (show w4.heap.size ≤ v1.heap.size from hBv1.out.size)
        go_simp
        refine hK.out _ _ ?_ (fun hHeld => ?_)
        · exact HSH.out _ hBy6.out
        clear hK K
        (try simp only [Act.put]); (try simp only [List.setIfInBounds_toArray]); (try simp only [List.set_cons_succ]); (try simp only [List.set_cons_zero])
        refine wpAnyH_ready (rs := [3]) (by kernel_rfl) (by simp) ?_
        refine AllReadyH.cons rfl (fun K hK => ?_) AllReadyH.nil
        go_simp
        go_at_call 36
        refine (toPic_any (.slice A1 a1.length c1) p1 q1 a1 (v1.alloc (.cells #[.int .i64 0, .int .i64 0, .slice none 0 0] 50)) (E_a1.step hBy6.out) hm1).mono ?_
        rintro e v7 ⟨gv7, rfl, Ov7, hbv7⟩
        have hBv7 := Lib.hid (hBy6.out.trans (hbv7.mono hBy6.out.size))
        have HXv7 := Lib.hid ((HXy6).out.step hbv7)
        refine hK.out _ _ ?_ (fun hHeld => ?_)
        · exact HSH.out _ hBv7.out
        clear hK K
        (try simp only [Act.put]); (try simp only [List.setIfInBounds_toArray]); (try simp only [List.set_cons_succ]); (try simp only [List.set_cons_zero])
        refine wpAnyH_ready (rs := [6]) (by kernel_rfl) (by simp) ?_
        refine AllReadyH.cons rfl (fun K hK => ?_) AllReadyH.nil
        go_simp
        go_at_call 35
        refine (HS.out v7 _ _ ((Ov1.rd.step ((Below.refl _ _).alloc (Nat.le_refl _) _)).step hbv7) Ov7.rd).mono ?_
        rintro e v8 ⟨A8, c8, rfl, Ov8, hbv8⟩
        have O8 := Lib.hid Ov8
        have HLO := Lib.hid hBv7.out.size
        have hBv8 := Lib.hid (hBv7.out.trans (hbv8.mono hBv7.out.size))
        have HG9 := Lib.hid (HXv7).out.1
        have HXv8 := Lib.hid ((HXv7).out.step hbv8)
        refine hK.out _ _ ?_ (fun hHeld => ?_)
        · exact HSH.out _ hBv8.out
        clear hK K
        (try simp only [Act.put]); (try simp only [List.setIfInBounds_toArray]); (try simp only [List.set_cons_succ]); (try simp only [List.set_cons_zero])
        refine wpAnyH_take (i := 7) (v := ?v11) rfl (by kernel_rfl) (by kernel_rfl) (by kernel_rfl) (fun _ _ _ h => h) (Or.inl ⟨by rfl, ?y11⟩) (by assumption) ?r11
        case y11 => (intro w hSw; (try dsimp only at hSw); go_simp; try (with_reducible rfl))
        (try simp only [Act.put]); (try simp only [List.setIfInBounds_toArray]); (try simp only [List.set_cons_succ]); (try simp only [List.set_cons_zero])
        refine wpAnyH_take (i := 8) (v := ?v12) rfl (by kernel_rfl) (by kernel_rfl) (by kernel_rfl) (fun _ _ _ h => h) (Or.inl ⟨by rfl, ?y12⟩) (by assumption) ?r12
        case y12 => (intro w hSw; (try dsimp only at hSw); go_simp; try (with_reducible rfl))
        (try simp only [Act.put]); (try simp only [List.setIfInBounds_toArray]); (try simp only [List.set_cons_succ]); (try simp only [List.set_cons_zero])
        refine wpAnyH_take (i := 9) (v := ?v13) rfl (by kernel_rfl) (by kernel_rfl) (by kernel_rfl) (fun _ _ _ h => h) (Or.inl ⟨by rfl, ?y13⟩) (by assumption) ?r13
        case y13 => (intro w hSw; (try dsimp only at hSw); go_simp; try (with_reducible rfl))
        (try simp only [Act.put]); (try simp only [List.setIfInBounds_toArray]); (try simp only [List.set_cons_succ]); (try simp only [List.set_cons_zero])
        have HXX := HXv8
        obtain ⟨d0, d1, d2, f0, f1, f2⟩ := bx_threeL HXX.out
        refine wpAnyH_ready (rs := [11]) (by kernel_rfl) (by simp) ?_
        refine AllReadyH.cons rfl (fun K hK => ?_) AllReadyH.nil
        go_simp
        refine hK.out _ _ ?_ (fun hHeld => ?_)
        · exact HSH.out _ (((hBv8.out.setCell (p := ⟨v1.heap.size, 0, none⟩) HG8.out _).setCell (p := ⟨v1.heap.size, 1, none⟩) HG8.out _).setCell (p := ⟨v1.heap.size, 2, none⟩) HG8.out _)
        clear hK K
        (try simp only [Act.put]); (try simp only [List.setIfInBounds_toArray]); (try simp only [List.set_cons_succ]); (try simp only [List.set_cons_zero])
        refine wpAnyH_ready (rs := [12]) (by kernel_rfl) (by simp) ?_
        refine AllReadyH.cons rfl (fun K hK => ?_) AllReadyH.nil
        go_simp
        refine hK.out _ _ ?_ (fun hHeld => ?_)
        · exact HSH.out _ (((hBv8.out.setCell (p := ⟨v1.heap.size, 0, none⟩) HG8.out _).setCell (p := ⟨v1.heap.size, 1, none⟩) HG8.out _).setCell (p := ⟨v1.heap.size, 2, none⟩) HG8.out _)
        clear hK K
        (try simp only [Act.put]); (try simp only [List.setIfInBounds_toArray]); (try simp only [List.set_cons_succ]); (try simp only [List.set_cons_zero])
        refine wpAnyH_done (by kernel_rfl) ?_ _
        (try go_wp2_with fail)
        go_meet
        exact ⟨v1.heap.size, A8, c8, rfl, rfl, (((hBv8.out.setCell (p := ⟨v1.heap.size, 0, none⟩) HG8.out _).setCell (p := ⟨v1.heap.size, 1, none⟩) HG8.out _).setCell (p := ⟨v1.heap.size, 2, none⟩) HG8.out _), (((O8.out.setLess (a := ⟨v1.heap.size, 0, none⟩) HG9.out _).setLess (a := ⟨v1.heap.size, 1, none⟩) HG9.out _).setLess (a := ⟨v1.heap.size, 2, none⟩) HG9.out _).less HLO.out, bx_own3L (((HXX.out.set 0 (by simp) (.int .i64 P)).set 1 (by simp) (.int .i64 Q)).set 2 (by simp) (.slice A8 L.length c8)) HG8.out⟩
    · skip
      have hBy9 := Lib.hid (show Below w4.heap.size w4 (w4.drew.alloc (.cells #[.int .i64 0, .int .i64 0, .slice none 0 0] 50)) from hB00.out.alloc hB00.out.size _)
      have HXy9 := Lib.hid (show Bx (w4.drew.alloc (.cells #[.int .i64 0, .int .i64 0, .slice none 0 0] 50)) w4.heap.size [.int .i64 0, .int .i64 0, .slice none 0 0] from bx_new w4.drew [.int .i64 0, .int .i64 0, .slice none 0 0] 50)
      have HG8 := Lib.hid (show w4.heap.size ≤ w4.heap.size from hB00.out.size)
      go_simp
      refine hK.out _ _ ?_ (fun hHeld => ?_)
      · exact HSH.out _ hBy9.out
      clear hK K
      (try simp only [Act.put]); (try simp only [List.setIfInBounds_toArray]); (try simp only [List.set_cons_succ]); (try simp only [List.set_cons_zero])
      refine wpAnyH_ready (rs := [1]) (by kernel_rfl) (by simp) ?_
      refine AllReadyH.cons rfl (fun K hK => ?_) AllReadyH.nil
      go_simp
      go_at_call 36
      refine (toPic_any (.slice A0 a0.length c0) p0 q0 a0 (w4.drew.alloc (.cells #[.int .i64 0, .int .i64 0, .slice none 0 0] 50)) (E_a0.step hBy9.out) hm0).mono ?_
      rintro e v10 ⟨gv10, rfl, Ov10, hbv10⟩
      have hBv10 := Lib.hid (hBy9.out.trans (hbv10.mono hBy9.out.size))
      have HXv10 := Lib.hid ((HXy9).out.step hbv10)
      refine hK.out _ _ ?_ (fun hHeld => ?_)
      · exact HSH.out _ hBv10.out
      clear hK K
      (try simp only [Act.put]); (try simp only [List.setIfInBounds_toArray]); (try simp only [List.set_cons_succ]); (try simp only [List.set_cons_zero])
      refine wpAnyH_ready (rs := [3]) (by kernel_rfl) (by simp) ?_
      refine AllReadyH.cons rfl (fun K hK => ?_) AllReadyH.nil
      go_simp
      go_at_call 36
      refine (toPic_any (.slice A1 a1.length c1) p1 q1 a1 v10 (E_a1.step hBv10.out) hm1).mono ?_
      rintro e v11 ⟨gv11, rfl, Ov11, hbv11⟩
      have hBv11 := Lib.hid (hBv10.out.trans (hbv11.mono hBv10.out.size))
      have HXv11 := Lib.hid ((HXv10).out.step hbv11)
      refine hK.out _ _ ?_ (fun hHeld => ?_)
      · exact HSH.out _ hBv11.out
      clear hK K
      (try simp only [Act.put]); (try simp only [List.setIfInBounds_toArray]); (try simp only [List.set_cons_succ]); (try simp only [List.set_cons_zero])
      refine wpAnyH_ready (rs := [6]) (by kernel_rfl) (by simp) ?_
      refine AllReadyH.cons rfl (fun K hK => ?_) AllReadyH.nil
      go_simp
      go_at_call 35
      refine (HS.out v11 _ _ (Ov10.rd.step hbv11) Ov11.rd).mono ?_
      rintro e v12 ⟨A8, c8, rfl, Ov12, hbv12⟩
      have O8 := Lib.hid Ov12
      have HLO := Lib.hid hBv11.out.size
      have hBv12 := Lib.hid (hBv11.out.trans (hbv12.mono hBv11.out.size))
      have HG9 := Lib.hid (HXv11).out.1
      have HXv12 := Lib.hid ((HXv11).out.step hbv12)
      refine hK.out _ _ ?_ (fun hHeld => ?_)
      · exact HSH.out _ hBv12.out
      clear hK K
      (try simp only [Act.put]); (try simp only [List.setIfInBounds_toArray]); (try simp only [List.set_cons_succ]); (try simp only [List.set_cons_zero])
      refine wpAnyH_take (i := 7) (v := ?v14) rfl (by kernel_rfl) (by kernel_rfl) (by kernel_rfl) (fun _ _ _ h => h) (Or.inl ⟨by rfl, ?y14⟩) (by assumption) ?r14
      case y14 => (intro w hSw; (try dsimp only at hSw); go_simp; try (with_reducible rfl))
      (try simp only [Act.put]); (try simp only [List.setIfInBounds_toArray]); (try simp only [List.set_cons_succ]); (try simp only [List.set_cons_zero])
      refine wpAnyH_take (i := 8) (v := ?v15) rfl (by kernel_rfl) (by kernel_rfl) (by kernel_rfl) (fun _ _ _ h => h) (Or.inl ⟨by rfl, ?y15⟩) (by assumption) ?r15
      case y15 => (intro w hSw; (try dsimp only at hSw); go_simp; try (with_reducible rfl))
      (try simp only [Act.put]); (try simp only [List.setIfInBounds_toArray]); (try simp only [List.set_cons_succ]); (try simp only [List.set_cons_zero])
      refine wpAnyH_take (i := 9) (v := ?v16) rfl (by kernel_rfl) (by kernel_rfl) (by kernel_rfl) (fun _ _ _ h => h) (Or.inl ⟨by rfl, ?y16⟩) (by assumption) ?r16
      case y16 => (intro w hSw; (try dsimp only at hSw); go_simp; try (with_reducible rfl))
      (try simp only [Act.put]); (try simp only [List.setIfInBounds_toArray]); (try simp only [List.set_cons_succ]); (try simp only [List.set_cons_zero])
      have HXX := HXv12
      obtain ⟨d0, d1, d2, f0, f1, f2⟩ := bx_threeL HXX.out
      refine wpAnyH_ready (rs := [11]) (by kernel_rfl) (by simp) ?_
      refine AllReadyH.cons rfl (fun K hK => ?_) AllReadyH.nil
      go_simp
      refine hK.out _ _ ?_ (fun hHeld => ?_)
      · exact HSH.out _ (((hBv12.out.setCell (p := ⟨w4.heap.size, 0, none⟩) HG8.out _).setCell (p := ⟨w4.heap.size, 1, none⟩) HG8.out _).setCell (p := ⟨w4.heap.size, 2, none⟩) HG8.out _)
      clear hK K
      (try simp only [Act.put]); (try simp only [List.setIfInBounds_toArray]); (try simp only [List.set_cons_succ]); (try simp only [List.set_cons_zero])
      refine wpAnyH_ready (rs := [12]) (by kernel_rfl) (by simp) ?_
      refine AllReadyH.cons rfl (fun K hK => ?_) AllReadyH.nil
      go_simp
      refine hK.out _ _ ?_ (fun hHeld => ?_)
      · exact HSH.out _ (((hBv12.out.setCell (p := ⟨w4.heap.size, 0, none⟩) HG8.out _).setCell (p := ⟨w4.heap.size, 1, none⟩) HG8.out _).setCell (p := ⟨w4.heap.size, 2, none⟩) HG8.out _)
      clear hK K
      (try simp only [Act.put]); (try simp only [List.setIfInBounds_toArray]); (try simp only [List.set_cons_succ]); (try simp only [List.set_cons_zero])
      refine wpAnyH_done (by kernel_rfl) ?_ _
      (try go_wp2_with fail)
      go_meet
      exact ⟨w4.heap.size, A8, c8, rfl, rfl, (((hBv12.out.setCell (p := ⟨w4.heap.size, 0, none⟩) HG8.out _).setCell (p := ⟨w4.heap.size, 1, none⟩) HG8.out _).setCell (p := ⟨w4.heap.size, 2, none⟩) HG8.out _), (((O8.out.setLess (a := ⟨w4.heap.size, 0, none⟩) HG9.out _).setLess (a := ⟨w4.heap.size, 1, none⟩) HG9.out _).setLess (a := ⟨w4.heap.size, 2, none⟩) HG9.out _).less HLO.out, bx_own3L (((HXX.out.set 0 (by simp) (.int .i64 P)).set 1 (by simp) (.int .i64 Q)).set 2 (by simp) (.slice A8 L.length c8)) HG8.out⟩
  obtain ⟨g5, Ar, cr, rfl, rfl, hb5, O5x, OB5⟩ := hcut
  obtain ⟨w5, hwn5⟩ : ∃ z, z = wc := ⟨_, rfl⟩
  subst hwn5
  clear HSH Z_pa0_w4 Q_pa00_w4 Q_pa01_w4 Q_pa02_w4 Z_pa1_w4 Q_pa10_w4 Q_pa11_w4 Q_pa12_w4 E_a0 E_a1
  have F_a0_w5 : Rd w5 w.heap.size (.slice A0 a0.length c0) (fl a0) := F_a0_w4.below (hb5.mono B_w4.size)
  have F_a1_w5 : Rd w5 w.heap.size (.slice A1 a1.length c1) (fl a1) := F_a1_w4.below (hb5.mono B_w4.size)
  have F_pa0_w5 : In w5 w.heap.size (w.heap.size + 1) (.slice (some ⟨w.heap.size, 0, none⟩) 3 3) ([.int .i64 p0, .int .i64 q0, (.slice A0 a0.length c0)]) := F_pa0_w4.step hb5
  have T_pa0_w5 : (w.heap.size + 1) ≤ w5.heap.size := Nat.le_trans T_pa0_w4 hb5.size
  have F_pa1_w5 : In w5 (w.heap.size + 1) w2.heap.size (.slice (some ⟨w.heap.size + 1, 0, none⟩) 3 3) ([.int .i64 p1, .int .i64 q1, (.slice A1 a1.length c1)]) := F_pa1_w4.step hb5
  have T_pa1_w5 : w2.heap.size ≤ w5.heap.size := Nat.le_trans T_pa1_w4 hb5.size
  have B_w5 : Below w.heap.size w w5 := B_w4.trans (hb5.mono B_w4.size)
  have S_r0 : w.heap.size ≤ w4.heap.size := B_w4.size
  have D_pa0_r0 : (w.heap.size + 1) ≤ w4.heap.size := T_pa0_w4
  have D_pa1_r0 : w2.heap.size ≤ w4.heap.size := T_pa1_w4
  have S_pr : w.heap.size ≤ w4.heap.size := B_w4.size
  have D_pa0_pr : (w.heap.size + 1) ≤ w4.heap.size := T_pa0_w4
  have D_pa1_pr : w2.heap.size ≤ w4.heap.size := T_pa1_w4
  clear F_a0_w4 F_a1_w4 F_pa0_w4 T_pa0_w4 F_pa1_w4 T_pa1_w4 B_w4
  have F_r0_w5 : In w5 w4.heap.size w5.heap.size (.slice Ar L.length cr) (fl L) := In.made O5x
  have T_r0_w5 : w5.heap.size ≤ w5.heap.size := Nat.le_refl _
  clear O5x
  have F_pr_w5 : In w5 w4.heap.size w5.heap.size (.slice (some ⟨g5, 0, none⟩) 3 3) ([.int .i64 P, .int .i64 Q, .slice Ar L.length cr]) := In.made OB5
  have T_pr_w5 : w5.heap.size ≤ w5.heap.size := Nat.le_refl _
  clear OB5
  clear hb5
  obtain ⟨_, Z_pa0_w5, c410, _⟩ := F_pa0_w5.1.cells' (by decide)
  have Q_pa00_w5 : w5.cell? ⟨w.heap.size, 0, none⟩ = some (.int .i64 p0) := c410 0 _ rfl
  have Q_pa01_w5 : w5.cell? ⟨w.heap.size, 1, none⟩ = some (.int .i64 q0) := c410 1 _ rfl
  have Q_pa02_w5 : w5.cell? ⟨w.heap.size, 2, none⟩ = some ((.slice A0 a0.length c0)) := c410 2 _ rfl
  clear c410
  go_wp2_with fail
  clear Z_pa0_w5 Q_pa00_w5 Q_pa01_w5 Q_pa02_w5
  refine (toPic_any _ p0 q0 a0 _ (F_a0_w5.more B_w5.size) hm0).mono ?_
  rintro e w6 ⟨g6, rfl, O6, hb6⟩
  have F_a0_w6 : Rd w6 w.heap.size (.slice A0 a0.length c0) (fl a0) := F_a0_w5.below (hb6.mono B_w5.size)
  have F_a1_w6 : Rd w6 w.heap.size (.slice A1 a1.length c1) (fl a1) := F_a1_w5.below (hb6.mono B_w5.size)
  have F_pa0_w6 : In w6 w.heap.size (w.heap.size + 1) (.slice (some ⟨w.heap.size, 0, none⟩) 3 3) ([.int .i64 p0, .int .i64 q0, (.slice A0 a0.length c0)]) := F_pa0_w5.step hb6
  have T_pa0_w6 : (w.heap.size + 1) ≤ w6.heap.size := Nat.le_trans T_pa0_w5 hb6.size
  have F_pa1_w6 : In w6 (w.heap.size + 1) w2.heap.size (.slice (some ⟨w.heap.size + 1, 0, none⟩) 3 3) ([.int .i64 p1, .int .i64 q1, (.slice A1 a1.length c1)]) := F_pa1_w5.step hb6
  have T_pa1_w6 : w2.heap.size ≤ w6.heap.size := Nat.le_trans T_pa1_w5 hb6.size
  have F_r0_w6 : In w6 w4.heap.size w5.heap.size (.slice Ar L.length cr) (fl L) := F_r0_w5.step hb6
  have T_r0_w6 : w5.heap.size ≤ w6.heap.size := Nat.le_trans T_r0_w5 hb6.size
  have F_pr_w6 : In w6 w4.heap.size w5.heap.size (.slice (some ⟨g5, 0, none⟩) 3 3) ([.int .i64 P, .int .i64 Q, .slice Ar L.length cr]) := F_pr_w5.step hb6
  have T_pr_w6 : w5.heap.size ≤ w6.heap.size := Nat.le_trans T_pr_w5 hb6.size
  have B_w6 : Below w.heap.size w w6 := B_w5.trans (hb6.mono B_w5.size)
  have S_x0 : w.heap.size ≤ w5.heap.size := B_w5.size
  have D_pa0_x0 : (w.heap.size + 1) ≤ w5.heap.size := T_pa0_w5
  have D_pa1_x0 : w2.heap.size ≤ w5.heap.size := T_pa1_w5
  have D_r0_x0 : w5.heap.size ≤ w5.heap.size := T_r0_w5
  have D_pr_x0 : w5.heap.size ≤ w5.heap.size := T_pr_w5
  clear F_a0_w5 F_a1_w5 F_pa0_w5 T_pa0_w5 F_pa1_w5 T_pa1_w5 F_r0_w5 T_r0_w5 F_pr_w5 T_pr_w5 B_w5
  have F_x0_w6 : In w6 w5.heap.size w6.heap.size (.slice (some ⟨g6, 0, none⟩) a0.length a0.length) (fl a0) := In.made O6
  have T_x0_w6 : w6.heap.size ≤ w6.heap.size := Nat.le_refl _
  clear O6
  clear hb6
  obtain ⟨_, Z_pa1_w6, c440, _⟩ := F_pa1_w6.1.cells' (by decide)
  have Q_pa10_w6 : w6.cell? ⟨w.heap.size + 1, 0, none⟩ = some (.int .i64 p1) := c440 0 _ rfl
  have Q_pa11_w6 : w6.cell? ⟨w.heap.size + 1, 1, none⟩ = some (.int .i64 q1) := c440 1 _ rfl
  have Q_pa12_w6 : w6.cell? ⟨w.heap.size + 1, 2, none⟩ = some ((.slice A1 a1.length c1)) := c440 2 _ rfl
  clear c440
  go_wp2_with fail
  clear Z_pa1_w6 Q_pa10_w6 Q_pa11_w6 Q_pa12_w6
  have hb7 : Below w6.heap.size w6 (w6.alloc (.cells #[.int .i64 p0, .int .i64 q0, (.slice (some ⟨g6, 0, none⟩) a0.length a0.length)] 50)) := (Below.refl _ _).alloc (Nat.le_refl _) _
  have O7 := own_box3 w6 (.int .i64 p0) (.int .i64 q0) ((.slice (some ⟨g6, 0, none⟩) a0.length a0.length)) 50
  generalize w6.alloc (.cells #[.int .i64 p0, .int .i64 q0, (.slice (some ⟨g6, 0, none⟩) a0.length a0.length)] 50) = w7 at *
  have F_a0_w7 : Rd w7 w.heap.size (.slice A0 a0.length c0) (fl a0) := F_a0_w6.below (hb7.mono B_w6.size)
  have F_a1_w7 : Rd w7 w.heap.size (.slice A1 a1.length c1) (fl a1) := F_a1_w6.below (hb7.mono B_w6.size)
  have F_pa0_w7 : In w7 w.heap.size (w.heap.size + 1) (.slice (some ⟨w.heap.size, 0, none⟩) 3 3) ([.int .i64 p0, .int .i64 q0, (.slice A0 a0.length c0)]) := F_pa0_w6.step hb7
  have T_pa0_w7 : (w.heap.size + 1) ≤ w7.heap.size := Nat.le_trans T_pa0_w6 hb7.size
  have F_pa1_w7 : In w7 (w.heap.size + 1) w2.heap.size (.slice (some ⟨w.heap.size + 1, 0, none⟩) 3 3) ([.int .i64 p1, .int .i64 q1, (.slice A1 a1.length c1)]) := F_pa1_w6.step hb7
  have T_pa1_w7 : w2.heap.size ≤ w7.heap.size := Nat.le_trans T_pa1_w6 hb7.size
  have F_r0_w7 : In w7 w4.heap.size w5.heap.size (.slice Ar L.length cr) (fl L) := F_r0_w6.step hb7
  have T_r0_w7 : w5.heap.size ≤ w7.heap.size := Nat.le_trans T_r0_w6 hb7.size
  have F_pr_w7 : In w7 w4.heap.size w5.heap.size (.slice (some ⟨g5, 0, none⟩) 3 3) ([.int .i64 P, .int .i64 Q, .slice Ar L.length cr]) := F_pr_w6.step hb7
  have T_pr_w7 : w5.heap.size ≤ w7.heap.size := Nat.le_trans T_pr_w6 hb7.size
  have F_x0_w7 : In w7 w5.heap.size w6.heap.size (.slice (some ⟨g6, 0, none⟩) a0.length a0.length) (fl a0) := F_x0_w6.step hb7
  have T_x0_w7 : w6.heap.size ≤ w7.heap.size := Nat.le_trans T_x0_w6 hb7.size
  have B_w7 : Below w.heap.size w w7 := B_w6.trans (hb7.mono B_w6.size)
  have S_px0 : w.heap.size ≤ w6.heap.size := B_w6.size
  have D_pa0_px0 : (w.heap.size + 1) ≤ w6.heap.size := T_pa0_w6
  have D_pa1_px0 : w2.heap.size ≤ w6.heap.size := T_pa1_w6
  have D_r0_px0 : w5.heap.size ≤ w6.heap.size := T_r0_w6
  have D_pr_px0 : w5.heap.size ≤ w6.heap.size := T_pr_w6
  have D_x0_px0 : w6.heap.size ≤ w6.heap.size := T_x0_w6
  clear F_a0_w6 F_a1_w6 F_pa0_w6 T_pa0_w6 F_pa1_w6 T_pa1_w6 F_r0_w6 T_r0_w6 F_pr_w6 T_pr_w6 F_x0_w6 T_x0_w6 B_w6
  have F_px0_w7 : In w7 w6.heap.size w7.heap.size (.slice (some ⟨w6.heap.size, 0, none⟩) 3 3) ([.int .i64 p0, .int .i64 q0, (.slice (some ⟨g6, 0, none⟩) a0.length a0.length)]) := In.made O7
  have T_px0_w7 : w7.heap.size ≤ w7.heap.size := Nat.le_refl _
  clear O7
  clear hb7
  refine (toPic_any _ p1 q1 a1 _ (F_a1_w7.more B_w7.size) hm1).mono ?_
  rintro e w8 ⟨g8, rfl, O8, hb8⟩
  have F_a0_w8 : Rd w8 w.heap.size (.slice A0 a0.length c0) (fl a0) := F_a0_w7.below (hb8.mono B_w7.size)
  have F_a1_w8 : Rd w8 w.heap.size (.slice A1 a1.length c1) (fl a1) := F_a1_w7.below (hb8.mono B_w7.size)
  have F_pa0_w8 : In w8 w.heap.size (w.heap.size + 1) (.slice (some ⟨w.heap.size, 0, none⟩) 3 3) ([.int .i64 p0, .int .i64 q0, (.slice A0 a0.length c0)]) := F_pa0_w7.step hb8
  have T_pa0_w8 : (w.heap.size + 1) ≤ w8.heap.size := Nat.le_trans T_pa0_w7 hb8.size
  have F_pa1_w8 : In w8 (w.heap.size + 1) w2.heap.size (.slice (some ⟨w.heap.size + 1, 0, none⟩) 3 3) ([.int .i64 p1, .int .i64 q1, (.slice A1 a1.length c1)]) := F_pa1_w7.step hb8
  have T_pa1_w8 : w2.heap.size ≤ w8.heap.size := Nat.le_trans T_pa1_w7 hb8.size
  have F_r0_w8 : In w8 w4.heap.size w5.heap.size (.slice Ar L.length cr) (fl L) := F_r0_w7.step hb8
  have T_r0_w8 : w5.heap.size ≤ w8.heap.size := Nat.le_trans T_r0_w7 hb8.size
  have F_pr_w8 : In w8 w4.heap.size w5.heap.size (.slice (some ⟨g5, 0, none⟩) 3 3) ([.int .i64 P, .int .i64 Q, .slice Ar L.length cr]) := F_pr_w7.step hb8
  have T_pr_w8 : w5.heap.size ≤ w8.heap.size := Nat.le_trans T_pr_w7 hb8.size
  have F_x0_w8 : In w8 w5.heap.size w6.heap.size (.slice (some ⟨g6, 0, none⟩) a0.length a0.length) (fl a0) := F_x0_w7.step hb8
  have T_x0_w8 : w6.heap.size ≤ w8.heap.size := Nat.le_trans T_x0_w7 hb8.size
  have F_px0_w8 : In w8 w6.heap.size w7.heap.size (.slice (some ⟨w6.heap.size, 0, none⟩) 3 3) ([.int .i64 p0, .int .i64 q0, (.slice (some ⟨g6, 0, none⟩) a0.length a0.length)]) := F_px0_w7.step hb8
  have T_px0_w8 : w7.heap.size ≤ w8.heap.size := Nat.le_trans T_px0_w7 hb8.size
  have B_w8 : Below w.heap.size w w8 := B_w7.trans (hb8.mono B_w7.size)
  have S_x1 : w.heap.size ≤ w7.heap.size := B_w7.size
  have D_pa0_x1 : (w.heap.size + 1) ≤ w7.heap.size := T_pa0_w7
  have D_pa1_x1 : w2.heap.size ≤ w7.heap.size := T_pa1_w7
  have D_r0_x1 : w5.heap.size ≤ w7.heap.size := T_r0_w7
  have D_pr_x1 : w5.heap.size ≤ w7.heap.size := T_pr_w7
  have D_x0_x1 : w6.heap.size ≤ w7.heap.size := T_x0_w7
  have D_px0_x1 : w7.heap.size ≤ w7.heap.size := T_px0_w7
  clear F_a0_w7 F_a1_w7 F_pa0_w7 T_pa0_w7 F_pa1_w7 T_pa1_w7 F_r0_w7 T_r0_w7 F_pr_w7 T_pr_w7 F_x0_w7 T_x0_w7 F_px0_w7 T_px0_w7 B_w7
  have F_x1_w8 : In w8 w7.heap.size w8.heap.size (.slice (some ⟨g8, 0, none⟩) a1.length a1.length) (fl a1) := In.made O8
  have T_x1_w8 : w8.heap.size ≤ w8.heap.size := Nat.le_refl _
  clear O8
  clear hb8
  obtain ⟨_, Z_px0_w8, c503, _⟩ := F_px0_w8.1.cells' (by decide)
  have Q_px00_w8 : w8.cell? ⟨w6.heap.size, 0, none⟩ = some (.int .i64 p0) := c503 0 _ rfl
  have Q_px01_w8 : w8.cell? ⟨w6.heap.size, 1, none⟩ = some (.int .i64 q0) := c503 1 _ rfl
  have Q_px02_w8 : w8.cell? ⟨w6.heap.size, 2, none⟩ = some ((.slice (some ⟨g6, 0, none⟩) a0.length a0.length)) := c503 2 _ rfl
  clear c503
  go_wp2_with fail
  clear Z_px0_w8 Q_px00_w8 Q_px01_w8 Q_px02_w8
  have hb9 : Below w8.heap.size w8 (w8.alloc (.cells #[.int .i64 p1, .int .i64 q1, (.slice (some ⟨g8, 0, none⟩) a1.length a1.length)] 50)) := (Below.refl _ _).alloc (Nat.le_refl _) _
  have O9 := own_box3 w8 (.int .i64 p1) (.int .i64 q1) ((.slice (some ⟨g8, 0, none⟩) a1.length a1.length)) 50
  generalize w8.alloc (.cells #[.int .i64 p1, .int .i64 q1, (.slice (some ⟨g8, 0, none⟩) a1.length a1.length)] 50) = w9 at *
  have F_a0_w9 : Rd w9 w.heap.size (.slice A0 a0.length c0) (fl a0) := F_a0_w8.below (hb9.mono B_w8.size)
  have F_a1_w9 : Rd w9 w.heap.size (.slice A1 a1.length c1) (fl a1) := F_a1_w8.below (hb9.mono B_w8.size)
  have F_pa0_w9 : In w9 w.heap.size (w.heap.size + 1) (.slice (some ⟨w.heap.size, 0, none⟩) 3 3) ([.int .i64 p0, .int .i64 q0, (.slice A0 a0.length c0)]) := F_pa0_w8.step hb9
  have T_pa0_w9 : (w.heap.size + 1) ≤ w9.heap.size := Nat.le_trans T_pa0_w8 hb9.size
  have F_pa1_w9 : In w9 (w.heap.size + 1) w2.heap.size (.slice (some ⟨w.heap.size + 1, 0, none⟩) 3 3) ([.int .i64 p1, .int .i64 q1, (.slice A1 a1.length c1)]) := F_pa1_w8.step hb9
  have T_pa1_w9 : w2.heap.size ≤ w9.heap.size := Nat.le_trans T_pa1_w8 hb9.size
  have F_r0_w9 : In w9 w4.heap.size w5.heap.size (.slice Ar L.length cr) (fl L) := F_r0_w8.step hb9
  have T_r0_w9 : w5.heap.size ≤ w9.heap.size := Nat.le_trans T_r0_w8 hb9.size
  have F_pr_w9 : In w9 w4.heap.size w5.heap.size (.slice (some ⟨g5, 0, none⟩) 3 3) ([.int .i64 P, .int .i64 Q, .slice Ar L.length cr]) := F_pr_w8.step hb9
  have T_pr_w9 : w5.heap.size ≤ w9.heap.size := Nat.le_trans T_pr_w8 hb9.size
  have F_x0_w9 : In w9 w5.heap.size w6.heap.size (.slice (some ⟨g6, 0, none⟩) a0.length a0.length) (fl a0) := F_x0_w8.step hb9
  have T_x0_w9 : w6.heap.size ≤ w9.heap.size := Nat.le_trans T_x0_w8 hb9.size
  have F_px0_w9 : In w9 w6.heap.size w7.heap.size (.slice (some ⟨w6.heap.size, 0, none⟩) 3 3) ([.int .i64 p0, .int .i64 q0, (.slice (some ⟨g6, 0, none⟩) a0.length a0.length)]) := F_px0_w8.step hb9
  have T_px0_w9 : w7.heap.size ≤ w9.heap.size := Nat.le_trans T_px0_w8 hb9.size
  have F_x1_w9 : In w9 w7.heap.size w8.heap.size (.slice (some ⟨g8, 0, none⟩) a1.length a1.length) (fl a1) := F_x1_w8.step hb9
  have T_x1_w9 : w8.heap.size ≤ w9.heap.size := Nat.le_trans T_x1_w8 hb9.size
  have B_w9 : Below w.heap.size w w9 := B_w8.trans (hb9.mono B_w8.size)
  have S_px1 : w.heap.size ≤ w8.heap.size := B_w8.size
  have D_pa0_px1 : (w.heap.size + 1) ≤ w8.heap.size := T_pa0_w8
  have D_pa1_px1 : w2.heap.size ≤ w8.heap.size := T_pa1_w8
  have D_r0_px1 : w5.heap.size ≤ w8.heap.size := T_r0_w8
  have D_pr_px1 : w5.heap.size ≤ w8.heap.size := T_pr_w8
  have D_x0_px1 : w6.heap.size ≤ w8.heap.size := T_x0_w8
  have D_px0_px1 : w7.heap.size ≤ w8.heap.size := T_px0_w8
  have D_x1_px1 : w8.heap.size ≤ w8.heap.size := T_x1_w8
  clear F_a0_w8 F_a1_w8 F_pa0_w8 T_pa0_w8 F_pa1_w8 T_pa1_w8 F_r0_w8 T_r0_w8 F_pr_w8 T_pr_w8 F_x0_w8 T_x0_w8 F_px0_w8 T_px0_w8 F_x1_w8 T_x1_w8 B_w8
  have F_px1_w9 : In w9 w8.heap.size w9.heap.size (.slice (some ⟨w8.heap.size, 0, none⟩) 3 3) ([.int .i64 p1, .int .i64 q1, (.slice (some ⟨g8, 0, none⟩) a1.length a1.length)]) := In.made O9
  have T_px1_w9 : w9.heap.size ≤ w9.heap.size := Nat.le_refl _
  clear O9
  clear hb9
  refine (HI.out _ _ _ F_x0_w9.rd F_x1_w9.rd).mono ?_
  rintro e w10 ⟨Ag, cg, rfl, O10x, hb10⟩
  have F_a0_w10 : Rd w10 w.heap.size (.slice A0 a0.length c0) (fl a0) := F_a0_w9.below (hb10.mono B_w9.size)
  have F_a1_w10 : Rd w10 w.heap.size (.slice A1 a1.length c1) (fl a1) := F_a1_w9.below (hb10.mono B_w9.size)
  have F_pa0_w10 : In w10 w.heap.size (w.heap.size + 1) (.slice (some ⟨w.heap.size, 0, none⟩) 3 3) ([.int .i64 p0, .int .i64 q0, (.slice A0 a0.length c0)]) := F_pa0_w9.step hb10
  have T_pa0_w10 : (w.heap.size + 1) ≤ w10.heap.size := Nat.le_trans T_pa0_w9 hb10.size
  have F_pa1_w10 : In w10 (w.heap.size + 1) w2.heap.size (.slice (some ⟨w.heap.size + 1, 0, none⟩) 3 3) ([.int .i64 p1, .int .i64 q1, (.slice A1 a1.length c1)]) := F_pa1_w9.step hb10
  have T_pa1_w10 : w2.heap.size ≤ w10.heap.size := Nat.le_trans T_pa1_w9 hb10.size
  have F_r0_w10 : In w10 w4.heap.size w5.heap.size (.slice Ar L.length cr) (fl L) := F_r0_w9.step hb10
  have T_r0_w10 : w5.heap.size ≤ w10.heap.size := Nat.le_trans T_r0_w9 hb10.size
  have F_pr_w10 : In w10 w4.heap.size w5.heap.size (.slice (some ⟨g5, 0, none⟩) 3 3) ([.int .i64 P, .int .i64 Q, .slice Ar L.length cr]) := F_pr_w9.step hb10
  have T_pr_w10 : w5.heap.size ≤ w10.heap.size := Nat.le_trans T_pr_w9 hb10.size
  have F_x0_w10 : In w10 w5.heap.size w6.heap.size (.slice (some ⟨g6, 0, none⟩) a0.length a0.length) (fl a0) := F_x0_w9.step hb10
  have T_x0_w10 : w6.heap.size ≤ w10.heap.size := Nat.le_trans T_x0_w9 hb10.size
  have F_px0_w10 : In w10 w6.heap.size w7.heap.size (.slice (some ⟨w6.heap.size, 0, none⟩) 3 3) ([.int .i64 p0, .int .i64 q0, (.slice (some ⟨g6, 0, none⟩) a0.length a0.length)]) := F_px0_w9.step hb10
  have T_px0_w10 : w7.heap.size ≤ w10.heap.size := Nat.le_trans T_px0_w9 hb10.size
  have F_x1_w10 : In w10 w7.heap.size w8.heap.size (.slice (some ⟨g8, 0, none⟩) a1.length a1.length) (fl a1) := F_x1_w9.step hb10
  have T_x1_w10 : w8.heap.size ≤ w10.heap.size := Nat.le_trans T_x1_w9 hb10.size
  have F_px1_w10 : In w10 w8.heap.size w9.heap.size (.slice (some ⟨w8.heap.size, 0, none⟩) 3 3) ([.int .i64 p1, .int .i64 q1, (.slice (some ⟨g8, 0, none⟩) a1.length a1.length)]) := F_px1_w9.step hb10
  have T_px1_w10 : w9.heap.size ≤ w10.heap.size := Nat.le_trans T_px1_w9 hb10.size
  have B_w10 : Below w.heap.size w w10 := B_w9.trans (hb10.mono B_w9.size)
  have S_g0 : w.heap.size ≤ w9.heap.size := B_w9.size
  have D_pa0_g0 : (w.heap.size + 1) ≤ w9.heap.size := T_pa0_w9
  have D_pa1_g0 : w2.heap.size ≤ w9.heap.size := T_pa1_w9
  have D_r0_g0 : w5.heap.size ≤ w9.heap.size := T_r0_w9
  have D_pr_g0 : w5.heap.size ≤ w9.heap.size := T_pr_w9
  have D_x0_g0 : w6.heap.size ≤ w9.heap.size := T_x0_w9
  have D_px0_g0 : w7.heap.size ≤ w9.heap.size := T_px0_w9
  have D_x1_g0 : w8.heap.size ≤ w9.heap.size := T_x1_w9
  have D_px1_g0 : w9.heap.size ≤ w9.heap.size := T_px1_w9
  clear F_a0_w9 F_a1_w9 F_pa0_w9 T_pa0_w9 F_pa1_w9 T_pa1_w9 F_r0_w9 T_r0_w9 F_pr_w9 T_pr_w9 F_x0_w9 T_x0_w9 F_px0_w9 T_px0_w9 F_x1_w9 T_x1_w9 F_px1_w9 T_px1_w9 B_w9
  have F_g0_w10 : In w10 w9.heap.size w10.heap.size (.slice Ag L.length cg) (fl L) := In.made O10x
  have T_g0_w10 : w10.heap.size ≤ w10.heap.size := Nat.le_refl _
  clear O10x
  clear hb10
  obtain ⟨_, Z_pr_w10, c578, _⟩ := F_pr_w10.1.cells' (by decide)
  have Q_pr0_w10 : w10.cell? ⟨g5, 0, none⟩ = some (.int .i64 P) := c578 0 _ rfl
  have Q_pr1_w10 : w10.cell? ⟨g5, 1, none⟩ = some (.int .i64 Q) := c578 1 _ rfl
  have Q_pr2_w10 : w10.cell? ⟨g5, 2, none⟩ = some (.slice Ar L.length cr) := c578 2 _ rfl
  clear c578
  go_wp2_with fail
  clear Z_pr_w10 Q_pr0_w10 Q_pr1_w10 Q_pr2_w10
  have hb11 : Below w10.heap.size w10 (w10.alloc (.cells #[.int .i64 P, .int .i64 Q, .slice Ag L.length cg] 50)) := (Below.refl _ _).alloc (Nat.le_refl _) _
  have O11 := own_box3 w10 (.int .i64 P) (.int .i64 Q) (.slice Ag L.length cg) 50
  generalize w10.alloc (.cells #[.int .i64 P, .int .i64 Q, .slice Ag L.length cg] 50) = w11 at *
  have F_a0_w11 : Rd w11 w.heap.size (.slice A0 a0.length c0) (fl a0) := F_a0_w10.below (hb11.mono B_w10.size)
  have F_a1_w11 : Rd w11 w.heap.size (.slice A1 a1.length c1) (fl a1) := F_a1_w10.below (hb11.mono B_w10.size)
  have F_pa0_w11 : In w11 w.heap.size (w.heap.size + 1) (.slice (some ⟨w.heap.size, 0, none⟩) 3 3) ([.int .i64 p0, .int .i64 q0, (.slice A0 a0.length c0)]) := F_pa0_w10.step hb11
  have T_pa0_w11 : (w.heap.size + 1) ≤ w11.heap.size := Nat.le_trans T_pa0_w10 hb11.size
  have F_pa1_w11 : In w11 (w.heap.size + 1) w2.heap.size (.slice (some ⟨w.heap.size + 1, 0, none⟩) 3 3) ([.int .i64 p1, .int .i64 q1, (.slice A1 a1.length c1)]) := F_pa1_w10.step hb11
  have T_pa1_w11 : w2.heap.size ≤ w11.heap.size := Nat.le_trans T_pa1_w10 hb11.size
  have F_r0_w11 : In w11 w4.heap.size w5.heap.size (.slice Ar L.length cr) (fl L) := F_r0_w10.step hb11
  have T_r0_w11 : w5.heap.size ≤ w11.heap.size := Nat.le_trans T_r0_w10 hb11.size
  have F_pr_w11 : In w11 w4.heap.size w5.heap.size (.slice (some ⟨g5, 0, none⟩) 3 3) ([.int .i64 P, .int .i64 Q, .slice Ar L.length cr]) := F_pr_w10.step hb11
  have T_pr_w11 : w5.heap.size ≤ w11.heap.size := Nat.le_trans T_pr_w10 hb11.size
  have F_x0_w11 : In w11 w5.heap.size w6.heap.size (.slice (some ⟨g6, 0, none⟩) a0.length a0.length) (fl a0) := F_x0_w10.step hb11
  have T_x0_w11 : w6.heap.size ≤ w11.heap.size := Nat.le_trans T_x0_w10 hb11.size
  have F_px0_w11 : In w11 w6.heap.size w7.heap.size (.slice (some ⟨w6.heap.size, 0, none⟩) 3 3) ([.int .i64 p0, .int .i64 q0, (.slice (some ⟨g6, 0, none⟩) a0.length a0.length)]) := F_px0_w10.step hb11
  have T_px0_w11 : w7.heap.size ≤ w11.heap.size := Nat.le_trans T_px0_w10 hb11.size
  have F_x1_w11 : In w11 w7.heap.size w8.heap.size (.slice (some ⟨g8, 0, none⟩) a1.length a1.length) (fl a1) := F_x1_w10.step hb11
  have T_x1_w11 : w8.heap.size ≤ w11.heap.size := Nat.le_trans T_x1_w10 hb11.size
  have F_px1_w11 : In w11 w8.heap.size w9.heap.size (.slice (some ⟨w8.heap.size, 0, none⟩) 3 3) ([.int .i64 p1, .int .i64 q1, (.slice (some ⟨g8, 0, none⟩) a1.length a1.length)]) := F_px1_w10.step hb11
  have T_px1_w11 : w9.heap.size ≤ w11.heap.size := Nat.le_trans T_px1_w10 hb11.size
  have F_g0_w11 : In w11 w9.heap.size w10.heap.size (.slice Ag L.length cg) (fl L) := F_g0_w10.step hb11
  have T_g0_w11 : w10.heap.size ≤ w11.heap.size := Nat.le_trans T_g0_w10 hb11.size
  have B_w11 : Below w.heap.size w w11 := B_w10.trans (hb11.mono B_w10.size)
  have S_pg : w.heap.size ≤ w10.heap.size := B_w10.size
  have D_pa0_pg : (w.heap.size + 1) ≤ w10.heap.size := T_pa0_w10
  have D_pa1_pg : w2.heap.size ≤ w10.heap.size := T_pa1_w10
  have D_r0_pg : w5.heap.size ≤ w10.heap.size := T_r0_w10
  have D_pr_pg : w5.heap.size ≤ w10.heap.size := T_pr_w10
  have D_x0_pg : w6.heap.size ≤ w10.heap.size := T_x0_w10
  have D_px0_pg : w7.heap.size ≤ w10.heap.size := T_px0_w10
  have D_x1_pg : w8.heap.size ≤ w10.heap.size := T_x1_w10
  have D_px1_pg : w9.heap.size ≤ w10.heap.size := T_px1_w10
  have D_g0_pg : w10.heap.size ≤ w10.heap.size := T_g0_w10
  clear F_a0_w10 F_a1_w10 F_pa0_w10 T_pa0_w10 F_pa1_w10 T_pa1_w10 F_r0_w10 T_r0_w10 F_pr_w10 T_pr_w10 F_x0_w10 T_x0_w10 F_px0_w10 T_px0_w10 F_x1_w10 T_x1_w10 F_px1_w10 T_px1_w10 F_g0_w10 T_g0_w10 B_w10
  have F_pg_w11 : In w11 w10.heap.size w11.heap.size (.slice (some ⟨w10.heap.size, 0, none⟩) 3 3) ([.int .i64 P, .int .i64 Q, .slice Ag L.length cg]) := In.made O11
  have T_pg_w11 : w11.heap.size ≤ w11.heap.size := Nat.le_refl _
  clear O11
  clear hb11
  refine (eqPic_any _ _ _ _ L L _ F_g0_w11.rd F_r0_w11.rd (Worth.refl _) hL).mono ?_
  rintro e w12 ⟨rfl, hb12⟩
  have F_a0_w12 : Rd w12 w.heap.size (.slice A0 a0.length c0) (fl a0) := F_a0_w11.below (hb12.mono B_w11.size)
  have F_a1_w12 : Rd w12 w.heap.size (.slice A1 a1.length c1) (fl a1) := F_a1_w11.below (hb12.mono B_w11.size)
  have F_pa0_w12 : In w12 w.heap.size (w.heap.size + 1) (.slice (some ⟨w.heap.size, 0, none⟩) 3 3) ([.int .i64 p0, .int .i64 q0, (.slice A0 a0.length c0)]) := F_pa0_w11.step hb12
  have T_pa0_w12 : (w.heap.size + 1) ≤ w12.heap.size := Nat.le_trans T_pa0_w11 hb12.size
  have F_pa1_w12 : In w12 (w.heap.size + 1) w2.heap.size (.slice (some ⟨w.heap.size + 1, 0, none⟩) 3 3) ([.int .i64 p1, .int .i64 q1, (.slice A1 a1.length c1)]) := F_pa1_w11.step hb12
  have T_pa1_w12 : w2.heap.size ≤ w12.heap.size := Nat.le_trans T_pa1_w11 hb12.size
  have F_r0_w12 : In w12 w4.heap.size w5.heap.size (.slice Ar L.length cr) (fl L) := F_r0_w11.step hb12
  have T_r0_w12 : w5.heap.size ≤ w12.heap.size := Nat.le_trans T_r0_w11 hb12.size
  have F_pr_w12 : In w12 w4.heap.size w5.heap.size (.slice (some ⟨g5, 0, none⟩) 3 3) ([.int .i64 P, .int .i64 Q, .slice Ar L.length cr]) := F_pr_w11.step hb12
  have T_pr_w12 : w5.heap.size ≤ w12.heap.size := Nat.le_trans T_pr_w11 hb12.size
  have F_x0_w12 : In w12 w5.heap.size w6.heap.size (.slice (some ⟨g6, 0, none⟩) a0.length a0.length) (fl a0) := F_x0_w11.step hb12
  have T_x0_w12 : w6.heap.size ≤ w12.heap.size := Nat.le_trans T_x0_w11 hb12.size
  have F_px0_w12 : In w12 w6.heap.size w7.heap.size (.slice (some ⟨w6.heap.size, 0, none⟩) 3 3) ([.int .i64 p0, .int .i64 q0, (.slice (some ⟨g6, 0, none⟩) a0.length a0.length)]) := F_px0_w11.step hb12
  have T_px0_w12 : w7.heap.size ≤ w12.heap.size := Nat.le_trans T_px0_w11 hb12.size
  have F_x1_w12 : In w12 w7.heap.size w8.heap.size (.slice (some ⟨g8, 0, none⟩) a1.length a1.length) (fl a1) := F_x1_w11.step hb12
  have T_x1_w12 : w8.heap.size ≤ w12.heap.size := Nat.le_trans T_x1_w11 hb12.size
  have F_px1_w12 : In w12 w8.heap.size w9.heap.size (.slice (some ⟨w8.heap.size, 0, none⟩) 3 3) ([.int .i64 p1, .int .i64 q1, (.slice (some ⟨g8, 0, none⟩) a1.length a1.length)]) := F_px1_w11.step hb12
  have T_px1_w12 : w9.heap.size ≤ w12.heap.size := Nat.le_trans T_px1_w11 hb12.size
  have F_g0_w12 : In w12 w9.heap.size w10.heap.size (.slice Ag L.length cg) (fl L) := F_g0_w11.step hb12
  have T_g0_w12 : w10.heap.size ≤ w12.heap.size := Nat.le_trans T_g0_w11 hb12.size
  have F_pg_w12 : In w12 w10.heap.size w11.heap.size (.slice (some ⟨w10.heap.size, 0, none⟩) 3 3) ([.int .i64 P, .int .i64 Q, .slice Ag L.length cg]) := F_pg_w11.step hb12
  have T_pg_w12 : w11.heap.size ≤ w12.heap.size := Nat.le_trans T_pg_w11 hb12.size
  have B_w12 : Below w.heap.size w w12 := B_w11.trans (hb12.mono B_w11.size)
  clear F_a0_w11 F_a1_w11 F_pa0_w11 T_pa0_w11 F_pa1_w11 T_pa1_w11 F_r0_w11 T_r0_w11 F_pr_w11 T_pr_w11 F_x0_w11 T_x0_w11 F_px0_w11 T_px0_w11 F_x1_w11 T_x1_w11 F_px1_w11 T_px1_w11 F_g0_w11 T_g0_w11 F_pg_w11 T_pg_w11 B_w11
  clear hb12
  obtain ⟨_, Z_pa0_w12, c651, _⟩ := F_pa0_w12.1.cells' (by decide)
  have Q_pa00_w12 : w12.cell? ⟨w.heap.size, 0, none⟩ = some (.int .i64 p0) := c651 0 _ rfl
  have Q_pa01_w12 : w12.cell? ⟨w.heap.size, 1, none⟩ = some (.int .i64 q0) := c651 1 _ rfl
  have Q_pa02_w12 : w12.cell? ⟨w.heap.size, 2, none⟩ = some ((.slice A0 a0.length c0)) := c651 2 _ rfl
  clear c651
  obtain ⟨_, Z_px0_w12, c656, _⟩ := F_px0_w12.1.cells' (by decide)
  have Q_px00_w12 : w12.cell? ⟨w6.heap.size, 0, none⟩ = some (.int .i64 p0) := c656 0 _ rfl
  have Q_px01_w12 : w12.cell? ⟨w6.heap.size, 1, none⟩ = some (.int .i64 q0) := c656 1 _ rfl
  have Q_px02_w12 : w12.cell? ⟨w6.heap.size, 2, none⟩ = some ((.slice (some ⟨g6, 0, none⟩) a0.length a0.length)) := c656 2 _ rfl
  clear c656
  have E_a0_w12 : Rd w12 w12.heap.size (.slice A0 a0.length c0) (fl a0) := (F_a0_w12.more B_w12.size)
  have E_x0_w12 : Rd w12 w12.heap.size (.slice (some ⟨g6, 0, none⟩) a0.length a0.length) (fl a0) := F_x0_w12.rd
  go_wp2_with fail
  go_region_held3 (fun w' => w'.cell? ⟨w.heap.size, 0, none⟩ = some (.int .i64 p0) ∧ w'.cell? ⟨w.heap.size, 1, none⟩ = some (.int .i64 q0) ∧ w'.cell? ⟨w.heap.size, 2, none⟩ = some ((.slice A0 a0.length c0)) ∧ w'.cell? ⟨w6.heap.size, 0, none⟩ = some (.int .i64 p0) ∧ w'.cell? ⟨w6.heap.size, 1, none⟩ = some (.int .i64 q0) ∧ w'.cell? ⟨w6.heap.size, 2, none⟩ = some ((.slice (some ⟨g6, 0, none⟩) a0.length a0.length))) (first | exact ⟨Q_pa00_w12, Q_pa01_w12, Q_pa02_w12, Q_px00_w12, Q_px01_w12, Q_px02_w12⟩ | exact ⟨Q_pa00_w13, Q_pa01_w13, Q_pa02_w13, Q_px00_w13, Q_px01_w13, Q_px02_w13⟩ | exact ⟨Q_pa00_w14, Q_pa01_w14, Q_pa02_w14, Q_px00_w14, Q_px01_w14, Q_px02_w14⟩) ((first | (go_at_call 36; refine (toPic_any (.slice A0 a0.length c0) p0 q0 a0 _ ?_ hm0).mono ?_; exact E_a0_w12; rintro e w13 ⟨g13, rfl, P13, hb13⟩; replace hb13 : Below w12.heap.size w12 w13 := below_draw1 hb13; replace P13 : Own w13 w12.heap.size (.slice (some ⟨g13, 0, none⟩) a0.length a0.length) (fl a0) := P13; have E_a0_w13 := E_a0_w12.step hb13; have E_x0_w13 := E_x0_w12.step hb13; have Q_pa00_w13 : w13.cell? ⟨w.heap.size, 0, none⟩ = some (.int .i64 p0) := (hb13.cell (p := ⟨w.heap.size, 0, none⟩) Z_pa0_w12).trans Q_pa00_w12; have Q_pa01_w13 : w13.cell? ⟨w.heap.size, 1, none⟩ = some (.int .i64 q0) := (hb13.cell (p := ⟨w.heap.size, 1, none⟩) Z_pa0_w12).trans Q_pa01_w12; have Q_pa02_w13 : w13.cell? ⟨w.heap.size, 2, none⟩ = some ((.slice A0 a0.length c0)) := (hb13.cell (p := ⟨w.heap.size, 2, none⟩) Z_pa0_w12).trans Q_pa02_w12; have Z_pa0_w13 := Nat.lt_of_lt_of_le Z_pa0_w12 hb13.size; have Q_px00_w13 : w13.cell? ⟨w6.heap.size, 0, none⟩ = some (.int .i64 p0) := (hb13.cell (p := ⟨w6.heap.size, 0, none⟩) Z_px0_w12).trans Q_px00_w12; have Q_px01_w13 : w13.cell? ⟨w6.heap.size, 1, none⟩ = some (.int .i64 q0) := (hb13.cell (p := ⟨w6.heap.size, 1, none⟩) Z_px0_w12).trans Q_px01_w12; have Q_px02_w13 : w13.cell? ⟨w6.heap.size, 2, none⟩ = some ((.slice (some ⟨g6, 0, none⟩) a0.length a0.length)) := (hb13.cell (p := ⟨w6.heap.size, 2, none⟩) Z_px0_w12).trans Q_px02_w12; have Z_px0_w13 := Nat.lt_of_lt_of_le Z_px0_w12 hb13.size; have E_d0_w13 := P13.rd) | (go_at_call 38; refine (eqPic_any _ _ p0 q0 a0 a0 _ ?_ ?_ (Worth.refl _) hm0).mono ?_; exact E_x0_w13; exact E_d0_w13; rintro e w14 ⟨rfl, hb14⟩; have E_a0_w14 := E_a0_w13.step hb14; have E_x0_w14 := E_x0_w13.step hb14; have E_d0_w14 := E_d0_w13.step hb14; have Q_pa00_w14 : w14.cell? ⟨w.heap.size, 0, none⟩ = some (.int .i64 p0) := (hb14.cell (p := ⟨w.heap.size, 0, none⟩) Z_pa0_w13).trans Q_pa00_w13; have Q_pa01_w14 : w14.cell? ⟨w.heap.size, 1, none⟩ = some (.int .i64 q0) := (hb14.cell (p := ⟨w.heap.size, 1, none⟩) Z_pa0_w13).trans Q_pa01_w13; have Q_pa02_w14 : w14.cell? ⟨w.heap.size, 2, none⟩ = some ((.slice A0 a0.length c0)) := (hb14.cell (p := ⟨w.heap.size, 2, none⟩) Z_pa0_w13).trans Q_pa02_w13; have Z_pa0_w14 := Nat.lt_of_lt_of_le Z_pa0_w13 hb14.size; have Q_px00_w14 : w14.cell? ⟨w6.heap.size, 0, none⟩ = some (.int .i64 p0) := (hb14.cell (p := ⟨w6.heap.size, 0, none⟩) Z_px0_w13).trans Q_px00_w13; have Q_px01_w14 : w14.cell? ⟨w6.heap.size, 1, none⟩ = some (.int .i64 q0) := (hb14.cell (p := ⟨w6.heap.size, 1, none⟩) Z_px0_w13).trans Q_px01_w13; have Q_px02_w14 : w14.cell? ⟨w6.heap.size, 2, none⟩ = some ((.slice (some ⟨g6, 0, none⟩) a0.length a0.length)) := (hb14.cell (p := ⟨w6.heap.size, 2, none⟩) Z_px0_w13).trans Q_px02_w13; have Z_px0_w14 := Nat.lt_of_lt_of_le Z_px0_w13 hb14.size)))
  have hc15 : Below w12.heap.size w12 w14 := (hb13.trans (hb14.mono (by have := hb13.size; omega)))
  clear E_a0_w13 E_x0_w13 Q_pa00_w13 Q_pa01_w13 Q_pa02_w13 Z_pa0_w13 Q_px00_w13 Q_px01_w13 Q_px02_w13 Z_px0_w13 E_d0_w13 E_a0_w14 E_x0_w14 E_d0_w14 Q_pa00_w14 Q_pa01_w14 Q_pa02_w14 Z_pa0_w14 Q_px00_w14 Q_px01_w14 Q_px02_w14 Z_px0_w14 Z_pa0_w12 Q_pa00_w12 Q_pa01_w12 Q_pa02_w12 Z_px0_w12 Q_px00_w12 Q_px01_w12 Q_px02_w12 E_a0_w12 E_x0_w12 P13
  have F_a0_w14 : Rd w14 w.heap.size (.slice A0 a0.length c0) (fl a0) := F_a0_w12.below (hc15.mono B_w12.size)
  have F_a1_w14 : Rd w14 w.heap.size (.slice A1 a1.length c1) (fl a1) := F_a1_w12.below (hc15.mono B_w12.size)
  have F_pa0_w14 : In w14 w.heap.size (w.heap.size + 1) (.slice (some ⟨w.heap.size, 0, none⟩) 3 3) ([.int .i64 p0, .int .i64 q0, (.slice A0 a0.length c0)]) := F_pa0_w12.step hc15
  have T_pa0_w14 : (w.heap.size + 1) ≤ w14.heap.size := Nat.le_trans T_pa0_w12 hc15.size
  have F_pa1_w14 : In w14 (w.heap.size + 1) w2.heap.size (.slice (some ⟨w.heap.size + 1, 0, none⟩) 3 3) ([.int .i64 p1, .int .i64 q1, (.slice A1 a1.length c1)]) := F_pa1_w12.step hc15
  have T_pa1_w14 : w2.heap.size ≤ w14.heap.size := Nat.le_trans T_pa1_w12 hc15.size
  have F_r0_w14 : In w14 w4.heap.size w5.heap.size (.slice Ar L.length cr) (fl L) := F_r0_w12.step hc15
  have T_r0_w14 : w5.heap.size ≤ w14.heap.size := Nat.le_trans T_r0_w12 hc15.size
  have F_pr_w14 : In w14 w4.heap.size w5.heap.size (.slice (some ⟨g5, 0, none⟩) 3 3) ([.int .i64 P, .int .i64 Q, .slice Ar L.length cr]) := F_pr_w12.step hc15
  have T_pr_w14 : w5.heap.size ≤ w14.heap.size := Nat.le_trans T_pr_w12 hc15.size
  have F_x0_w14 : In w14 w5.heap.size w6.heap.size (.slice (some ⟨g6, 0, none⟩) a0.length a0.length) (fl a0) := F_x0_w12.step hc15
  have T_x0_w14 : w6.heap.size ≤ w14.heap.size := Nat.le_trans T_x0_w12 hc15.size
  have F_px0_w14 : In w14 w6.heap.size w7.heap.size (.slice (some ⟨w6.heap.size, 0, none⟩) 3 3) ([.int .i64 p0, .int .i64 q0, (.slice (some ⟨g6, 0, none⟩) a0.length a0.length)]) := F_px0_w12.step hc15
  have T_px0_w14 : w7.heap.size ≤ w14.heap.size := Nat.le_trans T_px0_w12 hc15.size
  have F_x1_w14 : In w14 w7.heap.size w8.heap.size (.slice (some ⟨g8, 0, none⟩) a1.length a1.length) (fl a1) := F_x1_w12.step hc15
  have T_x1_w14 : w8.heap.size ≤ w14.heap.size := Nat.le_trans T_x1_w12 hc15.size
  have F_px1_w14 : In w14 w8.heap.size w9.heap.size (.slice (some ⟨w8.heap.size, 0, none⟩) 3 3) ([.int .i64 p1, .int .i64 q1, (.slice (some ⟨g8, 0, none⟩) a1.length a1.length)]) := F_px1_w12.step hc15
  have T_px1_w14 : w9.heap.size ≤ w14.heap.size := Nat.le_trans T_px1_w12 hc15.size
  have F_g0_w14 : In w14 w9.heap.size w10.heap.size (.slice Ag L.length cg) (fl L) := F_g0_w12.step hc15
  have T_g0_w14 : w10.heap.size ≤ w14.heap.size := Nat.le_trans T_g0_w12 hc15.size
  have F_pg_w14 : In w14 w10.heap.size w11.heap.size (.slice (some ⟨w10.heap.size, 0, none⟩) 3 3) ([.int .i64 P, .int .i64 Q, .slice Ag L.length cg]) := F_pg_w12.step hc15
  have T_pg_w14 : w11.heap.size ≤ w14.heap.size := Nat.le_trans T_pg_w12 hc15.size
  have B_w14 : Below w.heap.size w w14 := B_w12.trans (hc15.mono B_w12.size)
  clear F_a0_w12 F_a1_w12 F_pa0_w12 T_pa0_w12 F_pa1_w12 T_pa1_w12 F_r0_w12 T_r0_w12 F_pr_w12 T_pr_w12 F_x0_w12 T_x0_w12 F_px0_w12 T_px0_w12 F_x1_w12 T_x1_w12 F_px1_w12 T_px1_w12 F_g0_w12 T_g0_w12 F_pg_w12 T_pg_w12 B_w12
  clear hc15 hb13 hb14
  obtain ⟨_, Z_pa1_w14, c692, _⟩ := F_pa1_w14.1.cells' (by decide)
  have Q_pa10_w14 : w14.cell? ⟨w.heap.size + 1, 0, none⟩ = some (.int .i64 p1) := c692 0 _ rfl
  have Q_pa11_w14 : w14.cell? ⟨w.heap.size + 1, 1, none⟩ = some (.int .i64 q1) := c692 1 _ rfl
  have Q_pa12_w14 : w14.cell? ⟨w.heap.size + 1, 2, none⟩ = some ((.slice A1 a1.length c1)) := c692 2 _ rfl
  clear c692
  obtain ⟨_, Z_px1_w14, c697, _⟩ := F_px1_w14.1.cells' (by decide)
  have Q_px10_w14 : w14.cell? ⟨w8.heap.size, 0, none⟩ = some (.int .i64 p1) := c697 0 _ rfl
  have Q_px11_w14 : w14.cell? ⟨w8.heap.size, 1, none⟩ = some (.int .i64 q1) := c697 1 _ rfl
  have Q_px12_w14 : w14.cell? ⟨w8.heap.size, 2, none⟩ = some ((.slice (some ⟨g8, 0, none⟩) a1.length a1.length)) := c697 2 _ rfl
  clear c697
  have E_a1_w14 : Rd w14 w14.heap.size (.slice A1 a1.length c1) (fl a1) := (F_a1_w14.more B_w14.size)
  have E_x1_w14 : Rd w14 w14.heap.size (.slice (some ⟨g8, 0, none⟩) a1.length a1.length) (fl a1) := F_x1_w14.rd
  go_wp2_with fail
  go_region_held3 (fun w' => w'.cell? ⟨w.heap.size + 1, 0, none⟩ = some (.int .i64 p1) ∧ w'.cell? ⟨w.heap.size + 1, 1, none⟩ = some (.int .i64 q1) ∧ w'.cell? ⟨w.heap.size + 1, 2, none⟩ = some ((.slice A1 a1.length c1)) ∧ w'.cell? ⟨w8.heap.size, 0, none⟩ = some (.int .i64 p1) ∧ w'.cell? ⟨w8.heap.size, 1, none⟩ = some (.int .i64 q1) ∧ w'.cell? ⟨w8.heap.size, 2, none⟩ = some ((.slice (some ⟨g8, 0, none⟩) a1.length a1.length))) (first | exact ⟨Q_pa10_w14, Q_pa11_w14, Q_pa12_w14, Q_px10_w14, Q_px11_w14, Q_px12_w14⟩ | exact ⟨Q_pa10_w16, Q_pa11_w16, Q_pa12_w16, Q_px10_w16, Q_px11_w16, Q_px12_w16⟩ | exact ⟨Q_pa10_w17, Q_pa11_w17, Q_pa12_w17, Q_px10_w17, Q_px11_w17, Q_px12_w17⟩) ((first | (go_at_call 36; refine (toPic_any (.slice A1 a1.length c1) p1 q1 a1 _ ?_ hm1).mono ?_; exact E_a1_w14; rintro e w16 ⟨g16, rfl, P16, hb16⟩; replace hb16 : Below w14.heap.size w14 w16 := below_draw1 hb16; replace P16 : Own w16 w14.heap.size (.slice (some ⟨g16, 0, none⟩) a1.length a1.length) (fl a1) := P16; have E_a1_w16 := E_a1_w14.step hb16; have E_x1_w16 := E_x1_w14.step hb16; have Q_pa10_w16 : w16.cell? ⟨w.heap.size + 1, 0, none⟩ = some (.int .i64 p1) := (hb16.cell (p := ⟨w.heap.size + 1, 0, none⟩) Z_pa1_w14).trans Q_pa10_w14; have Q_pa11_w16 : w16.cell? ⟨w.heap.size + 1, 1, none⟩ = some (.int .i64 q1) := (hb16.cell (p := ⟨w.heap.size + 1, 1, none⟩) Z_pa1_w14).trans Q_pa11_w14; have Q_pa12_w16 : w16.cell? ⟨w.heap.size + 1, 2, none⟩ = some ((.slice A1 a1.length c1)) := (hb16.cell (p := ⟨w.heap.size + 1, 2, none⟩) Z_pa1_w14).trans Q_pa12_w14; have Z_pa1_w16 := Nat.lt_of_lt_of_le Z_pa1_w14 hb16.size; have Q_px10_w16 : w16.cell? ⟨w8.heap.size, 0, none⟩ = some (.int .i64 p1) := (hb16.cell (p := ⟨w8.heap.size, 0, none⟩) Z_px1_w14).trans Q_px10_w14; have Q_px11_w16 : w16.cell? ⟨w8.heap.size, 1, none⟩ = some (.int .i64 q1) := (hb16.cell (p := ⟨w8.heap.size, 1, none⟩) Z_px1_w14).trans Q_px11_w14; have Q_px12_w16 : w16.cell? ⟨w8.heap.size, 2, none⟩ = some ((.slice (some ⟨g8, 0, none⟩) a1.length a1.length)) := (hb16.cell (p := ⟨w8.heap.size, 2, none⟩) Z_px1_w14).trans Q_px12_w14; have Z_px1_w16 := Nat.lt_of_lt_of_le Z_px1_w14 hb16.size; have E_d1_w16 := P16.rd) | (go_at_call 38; refine (eqPic_any _ _ p1 q1 a1 a1 _ ?_ ?_ (Worth.refl _) hm1).mono ?_; exact E_x1_w16; exact E_d1_w16; rintro e w17 ⟨rfl, hb17⟩; have E_a1_w17 := E_a1_w16.step hb17; have E_x1_w17 := E_x1_w16.step hb17; have E_d1_w17 := E_d1_w16.step hb17; have Q_pa10_w17 : w17.cell? ⟨w.heap.size + 1, 0, none⟩ = some (.int .i64 p1) := (hb17.cell (p := ⟨w.heap.size + 1, 0, none⟩) Z_pa1_w16).trans Q_pa10_w16; have Q_pa11_w17 : w17.cell? ⟨w.heap.size + 1, 1, none⟩ = some (.int .i64 q1) := (hb17.cell (p := ⟨w.heap.size + 1, 1, none⟩) Z_pa1_w16).trans Q_pa11_w16; have Q_pa12_w17 : w17.cell? ⟨w.heap.size + 1, 2, none⟩ = some ((.slice A1 a1.length c1)) := (hb17.cell (p := ⟨w.heap.size + 1, 2, none⟩) Z_pa1_w16).trans Q_pa12_w16; have Z_pa1_w17 := Nat.lt_of_lt_of_le Z_pa1_w16 hb17.size; have Q_px10_w17 : w17.cell? ⟨w8.heap.size, 0, none⟩ = some (.int .i64 p1) := (hb17.cell (p := ⟨w8.heap.size, 0, none⟩) Z_px1_w16).trans Q_px10_w16; have Q_px11_w17 : w17.cell? ⟨w8.heap.size, 1, none⟩ = some (.int .i64 q1) := (hb17.cell (p := ⟨w8.heap.size, 1, none⟩) Z_px1_w16).trans Q_px11_w16; have Q_px12_w17 : w17.cell? ⟨w8.heap.size, 2, none⟩ = some ((.slice (some ⟨g8, 0, none⟩) a1.length a1.length)) := (hb17.cell (p := ⟨w8.heap.size, 2, none⟩) Z_px1_w16).trans Q_px12_w16; have Z_px1_w17 := Nat.lt_of_lt_of_le Z_px1_w16 hb17.size)))
  have hc18 : Below w14.heap.size w14 w17 := (hb16.trans (hb17.mono (by have := hb16.size; omega)))
  clear E_a1_w16 E_x1_w16 Q_pa10_w16 Q_pa11_w16 Q_pa12_w16 Z_pa1_w16 Q_px10_w16 Q_px11_w16 Q_px12_w16 Z_px1_w16 E_d1_w16 E_a1_w17 E_x1_w17 E_d1_w17 Q_pa10_w17 Q_pa11_w17 Q_pa12_w17 Z_pa1_w17 Q_px10_w17 Q_px11_w17 Q_px12_w17 Z_px1_w17 Z_pa1_w14 Q_pa10_w14 Q_pa11_w14 Q_pa12_w14 Z_px1_w14 Q_px10_w14 Q_px11_w14 Q_px12_w14 E_a1_w14 E_x1_w14 P16
  have F_a0_w17 : Rd w17 w.heap.size (.slice A0 a0.length c0) (fl a0) := F_a0_w14.below (hc18.mono B_w14.size)
  have F_a1_w17 : Rd w17 w.heap.size (.slice A1 a1.length c1) (fl a1) := F_a1_w14.below (hc18.mono B_w14.size)
  have F_pa0_w17 : In w17 w.heap.size (w.heap.size + 1) (.slice (some ⟨w.heap.size, 0, none⟩) 3 3) ([.int .i64 p0, .int .i64 q0, (.slice A0 a0.length c0)]) := F_pa0_w14.step hc18
  have T_pa0_w17 : (w.heap.size + 1) ≤ w17.heap.size := Nat.le_trans T_pa0_w14 hc18.size
  have F_pa1_w17 : In w17 (w.heap.size + 1) w2.heap.size (.slice (some ⟨w.heap.size + 1, 0, none⟩) 3 3) ([.int .i64 p1, .int .i64 q1, (.slice A1 a1.length c1)]) := F_pa1_w14.step hc18
  have T_pa1_w17 : w2.heap.size ≤ w17.heap.size := Nat.le_trans T_pa1_w14 hc18.size
  have F_r0_w17 : In w17 w4.heap.size w5.heap.size (.slice Ar L.length cr) (fl L) := F_r0_w14.step hc18
  have T_r0_w17 : w5.heap.size ≤ w17.heap.size := Nat.le_trans T_r0_w14 hc18.size
  have F_pr_w17 : In w17 w4.heap.size w5.heap.size (.slice (some ⟨g5, 0, none⟩) 3 3) ([.int .i64 P, .int .i64 Q, .slice Ar L.length cr]) := F_pr_w14.step hc18
  have T_pr_w17 : w5.heap.size ≤ w17.heap.size := Nat.le_trans T_pr_w14 hc18.size
  have F_x0_w17 : In w17 w5.heap.size w6.heap.size (.slice (some ⟨g6, 0, none⟩) a0.length a0.length) (fl a0) := F_x0_w14.step hc18
  have T_x0_w17 : w6.heap.size ≤ w17.heap.size := Nat.le_trans T_x0_w14 hc18.size
  have F_px0_w17 : In w17 w6.heap.size w7.heap.size (.slice (some ⟨w6.heap.size, 0, none⟩) 3 3) ([.int .i64 p0, .int .i64 q0, (.slice (some ⟨g6, 0, none⟩) a0.length a0.length)]) := F_px0_w14.step hc18
  have T_px0_w17 : w7.heap.size ≤ w17.heap.size := Nat.le_trans T_px0_w14 hc18.size
  have F_x1_w17 : In w17 w7.heap.size w8.heap.size (.slice (some ⟨g8, 0, none⟩) a1.length a1.length) (fl a1) := F_x1_w14.step hc18
  have T_x1_w17 : w8.heap.size ≤ w17.heap.size := Nat.le_trans T_x1_w14 hc18.size
  have F_px1_w17 : In w17 w8.heap.size w9.heap.size (.slice (some ⟨w8.heap.size, 0, none⟩) 3 3) ([.int .i64 p1, .int .i64 q1, (.slice (some ⟨g8, 0, none⟩) a1.length a1.length)]) := F_px1_w14.step hc18
  have T_px1_w17 : w9.heap.size ≤ w17.heap.size := Nat.le_trans T_px1_w14 hc18.size
  have F_g0_w17 : In w17 w9.heap.size w10.heap.size (.slice Ag L.length cg) (fl L) := F_g0_w14.step hc18
  have T_g0_w17 : w10.heap.size ≤ w17.heap.size := Nat.le_trans T_g0_w14 hc18.size
  have F_pg_w17 : In w17 w10.heap.size w11.heap.size (.slice (some ⟨w10.heap.size, 0, none⟩) 3 3) ([.int .i64 P, .int .i64 Q, .slice Ag L.length cg]) := F_pg_w14.step hc18
  have T_pg_w17 : w11.heap.size ≤ w17.heap.size := Nat.le_trans T_pg_w14 hc18.size
  have B_w17 : Below w.heap.size w w17 := B_w14.trans (hc18.mono B_w14.size)
  clear F_a0_w14 F_a1_w14 F_pa0_w14 T_pa0_w14 F_pa1_w14 T_pa1_w14 F_r0_w14 T_r0_w14 F_pr_w14 T_pr_w14 F_x0_w14 T_x0_w14 F_px0_w14 T_px0_w14 F_x1_w14 T_x1_w14 F_px1_w14 T_px1_w14 F_g0_w14 T_g0_w14 F_pg_w14 T_pg_w14 B_w14
  clear hc18 hb16 hb17
  obtain ⟨_, Z_px0_w17, c733, _⟩ := F_px0_w17.1.cells' (by decide)
  have Q_px00_w17 : w17.cell? ⟨w6.heap.size, 0, none⟩ = some (.int .i64 p0) := c733 0 _ rfl
  have Q_px01_w17 : w17.cell? ⟨w6.heap.size, 1, none⟩ = some (.int .i64 q0) := c733 1 _ rfl
  have Q_px02_w17 : w17.cell? ⟨w6.heap.size, 2, none⟩ = some ((.slice (some ⟨g6, 0, none⟩) a0.length a0.length)) := c733 2 _ rfl
  clear c733
  go_wp2_with fail
  clear Z_px0_w17 Q_px00_w17 Q_px01_w17 Q_px02_w17
  refine (markPic_any _ _ _ a0 _ _ _ F_x0_w17.1 hm0 (by omega) (by omega)).mono ?_
  rintro e w20 ⟨rfl, w19, hb19, hw20⟩
  have F_a0_w19 : Rd w19 w.heap.size (.slice A0 a0.length c0) (fl a0) := F_a0_w17.below (hb19.mono B_w17.size)
  have F_a1_w19 : Rd w19 w.heap.size (.slice A1 a1.length c1) (fl a1) := F_a1_w17.below (hb19.mono B_w17.size)
  have F_pa0_w19 : In w19 w.heap.size (w.heap.size + 1) (.slice (some ⟨w.heap.size, 0, none⟩) 3 3) ([.int .i64 p0, .int .i64 q0, (.slice A0 a0.length c0)]) := F_pa0_w17.step hb19
  have T_pa0_w19 : (w.heap.size + 1) ≤ w19.heap.size := Nat.le_trans T_pa0_w17 hb19.size
  have F_pa1_w19 : In w19 (w.heap.size + 1) w2.heap.size (.slice (some ⟨w.heap.size + 1, 0, none⟩) 3 3) ([.int .i64 p1, .int .i64 q1, (.slice A1 a1.length c1)]) := F_pa1_w17.step hb19
  have T_pa1_w19 : w2.heap.size ≤ w19.heap.size := Nat.le_trans T_pa1_w17 hb19.size
  have F_r0_w19 : In w19 w4.heap.size w5.heap.size (.slice Ar L.length cr) (fl L) := F_r0_w17.step hb19
  have T_r0_w19 : w5.heap.size ≤ w19.heap.size := Nat.le_trans T_r0_w17 hb19.size
  have F_pr_w19 : In w19 w4.heap.size w5.heap.size (.slice (some ⟨g5, 0, none⟩) 3 3) ([.int .i64 P, .int .i64 Q, .slice Ar L.length cr]) := F_pr_w17.step hb19
  have T_pr_w19 : w5.heap.size ≤ w19.heap.size := Nat.le_trans T_pr_w17 hb19.size
  have F_x0_w19 : In w19 w5.heap.size w6.heap.size (.slice (some ⟨g6, 0, none⟩) a0.length a0.length) (fl a0) := F_x0_w17.step hb19
  have T_x0_w19 : w6.heap.size ≤ w19.heap.size := Nat.le_trans T_x0_w17 hb19.size
  have F_px0_w19 : In w19 w6.heap.size w7.heap.size (.slice (some ⟨w6.heap.size, 0, none⟩) 3 3) ([.int .i64 p0, .int .i64 q0, (.slice (some ⟨g6, 0, none⟩) a0.length a0.length)]) := F_px0_w17.step hb19
  have T_px0_w19 : w7.heap.size ≤ w19.heap.size := Nat.le_trans T_px0_w17 hb19.size
  have F_x1_w19 : In w19 w7.heap.size w8.heap.size (.slice (some ⟨g8, 0, none⟩) a1.length a1.length) (fl a1) := F_x1_w17.step hb19
  have T_x1_w19 : w8.heap.size ≤ w19.heap.size := Nat.le_trans T_x1_w17 hb19.size
  have F_px1_w19 : In w19 w8.heap.size w9.heap.size (.slice (some ⟨w8.heap.size, 0, none⟩) 3 3) ([.int .i64 p1, .int .i64 q1, (.slice (some ⟨g8, 0, none⟩) a1.length a1.length)]) := F_px1_w17.step hb19
  have T_px1_w19 : w9.heap.size ≤ w19.heap.size := Nat.le_trans T_px1_w17 hb19.size
  have F_g0_w19 : In w19 w9.heap.size w10.heap.size (.slice Ag L.length cg) (fl L) := F_g0_w17.step hb19
  have T_g0_w19 : w10.heap.size ≤ w19.heap.size := Nat.le_trans T_g0_w17 hb19.size
  have F_pg_w19 : In w19 w10.heap.size w11.heap.size (.slice (some ⟨w10.heap.size, 0, none⟩) 3 3) ([.int .i64 P, .int .i64 Q, .slice Ag L.length cg]) := F_pg_w17.step hb19
  have T_pg_w19 : w11.heap.size ≤ w19.heap.size := Nat.le_trans T_pg_w17 hb19.size
  have B_w19 : Below w.heap.size w w19 := B_w17.trans (hb19.mono B_w17.size)
  clear F_a0_w17 F_a1_w17 F_pa0_w17 T_pa0_w17 F_pa1_w17 T_pa1_w17 F_r0_w17 T_r0_w17 F_pr_w17 T_pr_w17 F_x0_w17 T_x0_w17 F_px0_w17 T_px0_w17 F_x1_w17 T_x1_w17 F_px1_w17 T_px1_w17 F_g0_w17 T_g0_w17 F_pg_w17 T_pg_w17 B_w17
  clear hb19
  have ht20 : Tw w5.heap.size w6.heap.size w19 w20 := by rw [hw20]; exact over_tw F_x0_w19.1 F_x0_w19.2 _
  have NF20 : In w20 w5.heap.size w6.heap.size (.slice (some ⟨g6, 0, none⟩) a0.length a0.length) ((List.range a0.length).map (mkF (1))) := by rw [hw20]; have := F_x0_w19.over (mkF (1)); rw [fl_len] at this; exact this
  clear hw20
  have F_a0_w20 : Rd w20 w.heap.size (.slice A0 a0.length c0) (fl a0) := F_a0_w19.tw ht20 S_x0 B_w19.size
  have F_a1_w20 : Rd w20 w.heap.size (.slice A1 a1.length c1) (fl a1) := F_a1_w19.tw ht20 S_x0 B_w19.size
  have F_pa0_w20 : In w20 w.heap.size (w.heap.size + 1) (.slice (some ⟨w.heap.size, 0, none⟩) 3 3) ([.int .i64 p0, .int .i64 q0, (.slice A0 a0.length c0)]) := F_pa0_w19.tw ht20 (.inl D_pa0_x0)
  have T_pa0_w20 : (w.heap.size + 1) ≤ w20.heap.size := Nat.le_trans T_pa0_w19 ht20.size
  have F_pa1_w20 : In w20 (w.heap.size + 1) w2.heap.size (.slice (some ⟨w.heap.size + 1, 0, none⟩) 3 3) ([.int .i64 p1, .int .i64 q1, (.slice A1 a1.length c1)]) := F_pa1_w19.tw ht20 (.inl D_pa1_x0)
  have T_pa1_w20 : w2.heap.size ≤ w20.heap.size := Nat.le_trans T_pa1_w19 ht20.size
  have F_r0_w20 : In w20 w4.heap.size w5.heap.size (.slice Ar L.length cr) (fl L) := F_r0_w19.tw ht20 (.inl D_r0_x0)
  have T_r0_w20 : w5.heap.size ≤ w20.heap.size := Nat.le_trans T_r0_w19 ht20.size
  have F_pr_w20 : In w20 w4.heap.size w5.heap.size (.slice (some ⟨g5, 0, none⟩) 3 3) ([.int .i64 P, .int .i64 Q, .slice Ar L.length cr]) := F_pr_w19.tw ht20 (.inl D_pr_x0)
  have T_pr_w20 : w5.heap.size ≤ w20.heap.size := Nat.le_trans T_pr_w19 ht20.size
  have F_x0_w20 : In w20 w5.heap.size w6.heap.size (.slice (some ⟨g6, 0, none⟩) a0.length a0.length) ((List.range a0.length).map (mkF (1))) := NF20
  have T_x0_w20 : w6.heap.size ≤ w20.heap.size := Nat.le_trans T_x0_w19 ht20.size
  have F_px0_w20 : In w20 w6.heap.size w7.heap.size (.slice (some ⟨w6.heap.size, 0, none⟩) 3 3) ([.int .i64 p0, .int .i64 q0, (.slice (some ⟨g6, 0, none⟩) a0.length a0.length)]) := F_px0_w19.tw ht20 (.inr D_x0_px0)
  have T_px0_w20 : w7.heap.size ≤ w20.heap.size := Nat.le_trans T_px0_w19 ht20.size
  have F_x1_w20 : In w20 w7.heap.size w8.heap.size (.slice (some ⟨g8, 0, none⟩) a1.length a1.length) (fl a1) := F_x1_w19.tw ht20 (.inr D_x0_x1)
  have T_x1_w20 : w8.heap.size ≤ w20.heap.size := Nat.le_trans T_x1_w19 ht20.size
  have F_px1_w20 : In w20 w8.heap.size w9.heap.size (.slice (some ⟨w8.heap.size, 0, none⟩) 3 3) ([.int .i64 p1, .int .i64 q1, (.slice (some ⟨g8, 0, none⟩) a1.length a1.length)]) := F_px1_w19.tw ht20 (.inr D_x0_px1)
  have T_px1_w20 : w9.heap.size ≤ w20.heap.size := Nat.le_trans T_px1_w19 ht20.size
  have F_g0_w20 : In w20 w9.heap.size w10.heap.size (.slice Ag L.length cg) (fl L) := F_g0_w19.tw ht20 (.inr D_x0_g0)
  have T_g0_w20 : w10.heap.size ≤ w20.heap.size := Nat.le_trans T_g0_w19 ht20.size
  have F_pg_w20 : In w20 w10.heap.size w11.heap.size (.slice (some ⟨w10.heap.size, 0, none⟩) 3 3) ([.int .i64 P, .int .i64 Q, .slice Ag L.length cg]) := F_pg_w19.tw ht20 (.inr D_x0_pg)
  have T_pg_w20 : w11.heap.size ≤ w20.heap.size := Nat.le_trans T_pg_w19 ht20.size
  have B_w20 : Below w.heap.size w w20 := B_w19.trans (ht20.below S_x0 B_w19.size)
  clear F_a0_w19 F_a1_w19 F_pa0_w19 T_pa0_w19 F_pa1_w19 T_pa1_w19 F_r0_w19 T_r0_w19 F_pr_w19 T_pr_w19 F_x0_w19 T_x0_w19 F_px0_w19 T_px0_w19 F_x1_w19 T_x1_w19 F_px1_w19 T_px1_w19 F_g0_w19 T_g0_w19 F_pg_w19 T_pg_w19 B_w19
  clear ht20 NF20
  obtain ⟨_, Z_px1_w20, c795, _⟩ := F_px1_w20.1.cells' (by decide)
  have Q_px10_w20 : w20.cell? ⟨w8.heap.size, 0, none⟩ = some (.int .i64 p1) := c795 0 _ rfl
  have Q_px11_w20 : w20.cell? ⟨w8.heap.size, 1, none⟩ = some (.int .i64 q1) := c795 1 _ rfl
  have Q_px12_w20 : w20.cell? ⟨w8.heap.size, 2, none⟩ = some ((.slice (some ⟨g8, 0, none⟩) a1.length a1.length)) := c795 2 _ rfl
  clear c795
  go_wp2_with fail
  clear Z_px1_w20 Q_px10_w20 Q_px11_w20 Q_px12_w20
  refine (markPic_any _ _ _ a1 _ _ _ F_x1_w20.1 hm1 (by omega) (by omega)).mono ?_
  rintro e w22 ⟨rfl, w21, hb21, hw22⟩
  have F_a0_w21 : Rd w21 w.heap.size (.slice A0 a0.length c0) (fl a0) := F_a0_w20.below (hb21.mono B_w20.size)
  have F_a1_w21 : Rd w21 w.heap.size (.slice A1 a1.length c1) (fl a1) := F_a1_w20.below (hb21.mono B_w20.size)
  have F_pa0_w21 : In w21 w.heap.size (w.heap.size + 1) (.slice (some ⟨w.heap.size, 0, none⟩) 3 3) ([.int .i64 p0, .int .i64 q0, (.slice A0 a0.length c0)]) := F_pa0_w20.step hb21
  have T_pa0_w21 : (w.heap.size + 1) ≤ w21.heap.size := Nat.le_trans T_pa0_w20 hb21.size
  have F_pa1_w21 : In w21 (w.heap.size + 1) w2.heap.size (.slice (some ⟨w.heap.size + 1, 0, none⟩) 3 3) ([.int .i64 p1, .int .i64 q1, (.slice A1 a1.length c1)]) := F_pa1_w20.step hb21
  have T_pa1_w21 : w2.heap.size ≤ w21.heap.size := Nat.le_trans T_pa1_w20 hb21.size
  have F_r0_w21 : In w21 w4.heap.size w5.heap.size (.slice Ar L.length cr) (fl L) := F_r0_w20.step hb21
  have T_r0_w21 : w5.heap.size ≤ w21.heap.size := Nat.le_trans T_r0_w20 hb21.size
  have F_pr_w21 : In w21 w4.heap.size w5.heap.size (.slice (some ⟨g5, 0, none⟩) 3 3) ([.int .i64 P, .int .i64 Q, .slice Ar L.length cr]) := F_pr_w20.step hb21
  have T_pr_w21 : w5.heap.size ≤ w21.heap.size := Nat.le_trans T_pr_w20 hb21.size
  have F_x0_w21 : In w21 w5.heap.size w6.heap.size (.slice (some ⟨g6, 0, none⟩) a0.length a0.length) ((List.range a0.length).map (mkF (1))) := F_x0_w20.step hb21
  have T_x0_w21 : w6.heap.size ≤ w21.heap.size := Nat.le_trans T_x0_w20 hb21.size
  have F_px0_w21 : In w21 w6.heap.size w7.heap.size (.slice (some ⟨w6.heap.size, 0, none⟩) 3 3) ([.int .i64 p0, .int .i64 q0, (.slice (some ⟨g6, 0, none⟩) a0.length a0.length)]) := F_px0_w20.step hb21
  have T_px0_w21 : w7.heap.size ≤ w21.heap.size := Nat.le_trans T_px0_w20 hb21.size
  have F_x1_w21 : In w21 w7.heap.size w8.heap.size (.slice (some ⟨g8, 0, none⟩) a1.length a1.length) (fl a1) := F_x1_w20.step hb21
  have T_x1_w21 : w8.heap.size ≤ w21.heap.size := Nat.le_trans T_x1_w20 hb21.size
  have F_px1_w21 : In w21 w8.heap.size w9.heap.size (.slice (some ⟨w8.heap.size, 0, none⟩) 3 3) ([.int .i64 p1, .int .i64 q1, (.slice (some ⟨g8, 0, none⟩) a1.length a1.length)]) := F_px1_w20.step hb21
  have T_px1_w21 : w9.heap.size ≤ w21.heap.size := Nat.le_trans T_px1_w20 hb21.size
  have F_g0_w21 : In w21 w9.heap.size w10.heap.size (.slice Ag L.length cg) (fl L) := F_g0_w20.step hb21
  have T_g0_w21 : w10.heap.size ≤ w21.heap.size := Nat.le_trans T_g0_w20 hb21.size
  have F_pg_w21 : In w21 w10.heap.size w11.heap.size (.slice (some ⟨w10.heap.size, 0, none⟩) 3 3) ([.int .i64 P, .int .i64 Q, .slice Ag L.length cg]) := F_pg_w20.step hb21
  have T_pg_w21 : w11.heap.size ≤ w21.heap.size := Nat.le_trans T_pg_w20 hb21.size
  have B_w21 : Below w.heap.size w w21 := B_w20.trans (hb21.mono B_w20.size)
  clear F_a0_w20 F_a1_w20 F_pa0_w20 T_pa0_w20 F_pa1_w20 T_pa1_w20 F_r0_w20 T_r0_w20 F_pr_w20 T_pr_w20 F_x0_w20 T_x0_w20 F_px0_w20 T_px0_w20 F_x1_w20 T_x1_w20 F_px1_w20 T_px1_w20 F_g0_w20 T_g0_w20 F_pg_w20 T_pg_w20 B_w20
  clear hb21
  have ht22 : Tw w7.heap.size w8.heap.size w21 w22 := by rw [hw22]; exact over_tw F_x1_w21.1 F_x1_w21.2 _
  have NF22 : In w22 w7.heap.size w8.heap.size (.slice (some ⟨g8, 0, none⟩) a1.length a1.length) ((List.range a1.length).map (mkF (1 + a0.length))) := by rw [hw22]; have := F_x1_w21.over (mkF (1 + a0.length)); rw [fl_len] at this; exact this
  clear hw22
  have F_a0_w22 : Rd w22 w.heap.size (.slice A0 a0.length c0) (fl a0) := F_a0_w21.tw ht22 S_x1 B_w21.size
  have F_a1_w22 : Rd w22 w.heap.size (.slice A1 a1.length c1) (fl a1) := F_a1_w21.tw ht22 S_x1 B_w21.size
  have F_pa0_w22 : In w22 w.heap.size (w.heap.size + 1) (.slice (some ⟨w.heap.size, 0, none⟩) 3 3) ([.int .i64 p0, .int .i64 q0, (.slice A0 a0.length c0)]) := F_pa0_w21.tw ht22 (.inl D_pa0_x1)
  have T_pa0_w22 : (w.heap.size + 1) ≤ w22.heap.size := Nat.le_trans T_pa0_w21 ht22.size
  have F_pa1_w22 : In w22 (w.heap.size + 1) w2.heap.size (.slice (some ⟨w.heap.size + 1, 0, none⟩) 3 3) ([.int .i64 p1, .int .i64 q1, (.slice A1 a1.length c1)]) := F_pa1_w21.tw ht22 (.inl D_pa1_x1)
  have T_pa1_w22 : w2.heap.size ≤ w22.heap.size := Nat.le_trans T_pa1_w21 ht22.size
  have F_r0_w22 : In w22 w4.heap.size w5.heap.size (.slice Ar L.length cr) (fl L) := F_r0_w21.tw ht22 (.inl D_r0_x1)
  have T_r0_w22 : w5.heap.size ≤ w22.heap.size := Nat.le_trans T_r0_w21 ht22.size
  have F_pr_w22 : In w22 w4.heap.size w5.heap.size (.slice (some ⟨g5, 0, none⟩) 3 3) ([.int .i64 P, .int .i64 Q, .slice Ar L.length cr]) := F_pr_w21.tw ht22 (.inl D_pr_x1)
  have T_pr_w22 : w5.heap.size ≤ w22.heap.size := Nat.le_trans T_pr_w21 ht22.size
  have F_x0_w22 : In w22 w5.heap.size w6.heap.size (.slice (some ⟨g6, 0, none⟩) a0.length a0.length) ((List.range a0.length).map (mkF (1))) := F_x0_w21.tw ht22 (.inl D_x0_x1)
  have T_x0_w22 : w6.heap.size ≤ w22.heap.size := Nat.le_trans T_x0_w21 ht22.size
  have F_px0_w22 : In w22 w6.heap.size w7.heap.size (.slice (some ⟨w6.heap.size, 0, none⟩) 3 3) ([.int .i64 p0, .int .i64 q0, (.slice (some ⟨g6, 0, none⟩) a0.length a0.length)]) := F_px0_w21.tw ht22 (.inl D_px0_x1)
  have T_px0_w22 : w7.heap.size ≤ w22.heap.size := Nat.le_trans T_px0_w21 ht22.size
  have F_x1_w22 : In w22 w7.heap.size w8.heap.size (.slice (some ⟨g8, 0, none⟩) a1.length a1.length) ((List.range a1.length).map (mkF (1 + a0.length))) := NF22
  have T_x1_w22 : w8.heap.size ≤ w22.heap.size := Nat.le_trans T_x1_w21 ht22.size
  have F_px1_w22 : In w22 w8.heap.size w9.heap.size (.slice (some ⟨w8.heap.size, 0, none⟩) 3 3) ([.int .i64 p1, .int .i64 q1, (.slice (some ⟨g8, 0, none⟩) a1.length a1.length)]) := F_px1_w21.tw ht22 (.inr D_x1_px1)
  have T_px1_w22 : w9.heap.size ≤ w22.heap.size := Nat.le_trans T_px1_w21 ht22.size
  have F_g0_w22 : In w22 w9.heap.size w10.heap.size (.slice Ag L.length cg) (fl L) := F_g0_w21.tw ht22 (.inr D_x1_g0)
  have T_g0_w22 : w10.heap.size ≤ w22.heap.size := Nat.le_trans T_g0_w21 ht22.size
  have F_pg_w22 : In w22 w10.heap.size w11.heap.size (.slice (some ⟨w10.heap.size, 0, none⟩) 3 3) ([.int .i64 P, .int .i64 Q, .slice Ag L.length cg]) := F_pg_w21.tw ht22 (.inr D_x1_pg)
  have T_pg_w22 : w11.heap.size ≤ w22.heap.size := Nat.le_trans T_pg_w21 ht22.size
  have B_w22 : Below w.heap.size w w22 := B_w21.trans (ht22.below S_x1 B_w21.size)
  clear F_a0_w21 F_a1_w21 F_pa0_w21 T_pa0_w21 F_pa1_w21 T_pa1_w21 F_r0_w21 T_r0_w21 F_pr_w21 T_pr_w21 F_x0_w21 T_x0_w21 F_px0_w21 T_px0_w21 F_x1_w21 T_x1_w21 F_px1_w21 T_px1_w21 F_g0_w21 T_g0_w21 F_pg_w21 T_pg_w21 B_w21
  clear ht22 NF22
  obtain ⟨_, Z_pg_w22, c857, _⟩ := F_pg_w22.1.cells' (by decide)
  have Q_pg0_w22 : w22.cell? ⟨w10.heap.size, 0, none⟩ = some (.int .i64 P) := c857 0 _ rfl
  have Q_pg1_w22 : w22.cell? ⟨w10.heap.size, 1, none⟩ = some (.int .i64 Q) := c857 1 _ rfl
  have Q_pg2_w22 : w22.cell? ⟨w10.heap.size, 2, none⟩ = some (.slice Ag L.length cg) := c857 2 _ rfl
  clear c857
  obtain ⟨_, Z_pr_w22, c862, _⟩ := F_pr_w22.1.cells' (by decide)
  have Q_pr0_w22 : w22.cell? ⟨g5, 0, none⟩ = some (.int .i64 P) := c862 0 _ rfl
  have Q_pr1_w22 : w22.cell? ⟨g5, 1, none⟩ = some (.int .i64 Q) := c862 1 _ rfl
  have Q_pr2_w22 : w22.cell? ⟨g5, 2, none⟩ = some (.slice Ar L.length cr) := c862 2 _ rfl
  clear c862
  go_wp2_with fail
  clear Z_pg_w22 Q_pg0_w22 Q_pg1_w22 Q_pg2_w22 Z_pr_w22 Q_pr0_w22 Q_pr1_w22 Q_pr2_w22
  refine (eqPic_any _ _ _ _ L L _ F_g0_w22.rd F_r0_w22.rd (Worth.refl _) hL).mono ?_
  rintro e w23 ⟨rfl, hb23⟩
  have F_a0_w23 : Rd w23 w.heap.size (.slice A0 a0.length c0) (fl a0) := F_a0_w22.below (hb23.mono B_w22.size)
  have F_a1_w23 : Rd w23 w.heap.size (.slice A1 a1.length c1) (fl a1) := F_a1_w22.below (hb23.mono B_w22.size)
  have F_pa0_w23 : In w23 w.heap.size (w.heap.size + 1) (.slice (some ⟨w.heap.size, 0, none⟩) 3 3) ([.int .i64 p0, .int .i64 q0, (.slice A0 a0.length c0)]) := F_pa0_w22.step hb23
  have T_pa0_w23 : (w.heap.size + 1) ≤ w23.heap.size := Nat.le_trans T_pa0_w22 hb23.size
  have F_pa1_w23 : In w23 (w.heap.size + 1) w2.heap.size (.slice (some ⟨w.heap.size + 1, 0, none⟩) 3 3) ([.int .i64 p1, .int .i64 q1, (.slice A1 a1.length c1)]) := F_pa1_w22.step hb23
  have T_pa1_w23 : w2.heap.size ≤ w23.heap.size := Nat.le_trans T_pa1_w22 hb23.size
  have F_r0_w23 : In w23 w4.heap.size w5.heap.size (.slice Ar L.length cr) (fl L) := F_r0_w22.step hb23
  have T_r0_w23 : w5.heap.size ≤ w23.heap.size := Nat.le_trans T_r0_w22 hb23.size
  have F_pr_w23 : In w23 w4.heap.size w5.heap.size (.slice (some ⟨g5, 0, none⟩) 3 3) ([.int .i64 P, .int .i64 Q, .slice Ar L.length cr]) := F_pr_w22.step hb23
  have T_pr_w23 : w5.heap.size ≤ w23.heap.size := Nat.le_trans T_pr_w22 hb23.size
  have F_x0_w23 : In w23 w5.heap.size w6.heap.size (.slice (some ⟨g6, 0, none⟩) a0.length a0.length) ((List.range a0.length).map (mkF (1))) := F_x0_w22.step hb23
  have T_x0_w23 : w6.heap.size ≤ w23.heap.size := Nat.le_trans T_x0_w22 hb23.size
  have F_px0_w23 : In w23 w6.heap.size w7.heap.size (.slice (some ⟨w6.heap.size, 0, none⟩) 3 3) ([.int .i64 p0, .int .i64 q0, (.slice (some ⟨g6, 0, none⟩) a0.length a0.length)]) := F_px0_w22.step hb23
  have T_px0_w23 : w7.heap.size ≤ w23.heap.size := Nat.le_trans T_px0_w22 hb23.size
  have F_x1_w23 : In w23 w7.heap.size w8.heap.size (.slice (some ⟨g8, 0, none⟩) a1.length a1.length) ((List.range a1.length).map (mkF (1 + a0.length))) := F_x1_w22.step hb23
  have T_x1_w23 : w8.heap.size ≤ w23.heap.size := Nat.le_trans T_x1_w22 hb23.size
  have F_px1_w23 : In w23 w8.heap.size w9.heap.size (.slice (some ⟨w8.heap.size, 0, none⟩) 3 3) ([.int .i64 p1, .int .i64 q1, (.slice (some ⟨g8, 0, none⟩) a1.length a1.length)]) := F_px1_w22.step hb23
  have T_px1_w23 : w9.heap.size ≤ w23.heap.size := Nat.le_trans T_px1_w22 hb23.size
  have F_g0_w23 : In w23 w9.heap.size w10.heap.size (.slice Ag L.length cg) (fl L) := F_g0_w22.step hb23
  have T_g0_w23 : w10.heap.size ≤ w23.heap.size := Nat.le_trans T_g0_w22 hb23.size
  have F_pg_w23 : In w23 w10.heap.size w11.heap.size (.slice (some ⟨w10.heap.size, 0, none⟩) 3 3) ([.int .i64 P, .int .i64 Q, .slice Ag L.length cg]) := F_pg_w22.step hb23
  have T_pg_w23 : w11.heap.size ≤ w23.heap.size := Nat.le_trans T_pg_w22 hb23.size
  have B_w23 : Below w.heap.size w w23 := B_w22.trans (hb23.mono B_w22.size)
  clear F_a0_w22 F_a1_w22 F_pa0_w22 T_pa0_w22 F_pa1_w22 T_pa1_w22 F_r0_w22 T_r0_w22 F_pr_w22 T_pr_w22 F_x0_w22 T_x0_w22 F_px0_w22 T_px0_w22 F_x1_w22 T_x1_w22 F_px1_w22 T_px1_w22 F_g0_w22 T_g0_w22 F_pg_w22 T_pg_w22 B_w22
  clear hb23
  clear F_x0_w23 T_x0_w23 F_x1_w23 T_x1_w23 F_px0_w23 T_px0_w23 F_px1_w23 T_px1_w23
  obtain ⟨_, Z_pg_w23, c897, _⟩ := F_pg_w23.1.cells' (by decide)
  have Q_pg0_w23 : w23.cell? ⟨w10.heap.size, 0, none⟩ = some (.int .i64 P) := c897 0 _ rfl
  have Q_pg1_w23 : w23.cell? ⟨w10.heap.size, 1, none⟩ = some (.int .i64 Q) := c897 1 _ rfl
  have Q_pg2_w23 : w23.cell? ⟨w10.heap.size, 2, none⟩ = some (.slice Ag L.length cg) := c897 2 _ rfl
  clear c897
  go_wp2_with fail
  clear Z_pg_w23 Q_pg0_w23 Q_pg1_w23 Q_pg2_w23
  refine (markPic_any _ _ _ L _ _ _ F_g0_w23.1 hL (by omega) (by omega)).mono ?_
  rintro e w25 ⟨rfl, w24, hb24, hw25⟩
  have F_a0_w24 : Rd w24 w.heap.size (.slice A0 a0.length c0) (fl a0) := F_a0_w23.below (hb24.mono B_w23.size)
  have F_a1_w24 : Rd w24 w.heap.size (.slice A1 a1.length c1) (fl a1) := F_a1_w23.below (hb24.mono B_w23.size)
  have F_pa0_w24 : In w24 w.heap.size (w.heap.size + 1) (.slice (some ⟨w.heap.size, 0, none⟩) 3 3) ([.int .i64 p0, .int .i64 q0, (.slice A0 a0.length c0)]) := F_pa0_w23.step hb24
  have T_pa0_w24 : (w.heap.size + 1) ≤ w24.heap.size := Nat.le_trans T_pa0_w23 hb24.size
  have F_pa1_w24 : In w24 (w.heap.size + 1) w2.heap.size (.slice (some ⟨w.heap.size + 1, 0, none⟩) 3 3) ([.int .i64 p1, .int .i64 q1, (.slice A1 a1.length c1)]) := F_pa1_w23.step hb24
  have T_pa1_w24 : w2.heap.size ≤ w24.heap.size := Nat.le_trans T_pa1_w23 hb24.size
  have F_r0_w24 : In w24 w4.heap.size w5.heap.size (.slice Ar L.length cr) (fl L) := F_r0_w23.step hb24
  have T_r0_w24 : w5.heap.size ≤ w24.heap.size := Nat.le_trans T_r0_w23 hb24.size
  have F_pr_w24 : In w24 w4.heap.size w5.heap.size (.slice (some ⟨g5, 0, none⟩) 3 3) ([.int .i64 P, .int .i64 Q, .slice Ar L.length cr]) := F_pr_w23.step hb24
  have T_pr_w24 : w5.heap.size ≤ w24.heap.size := Nat.le_trans T_pr_w23 hb24.size
  have F_g0_w24 : In w24 w9.heap.size w10.heap.size (.slice Ag L.length cg) (fl L) := F_g0_w23.step hb24
  have T_g0_w24 : w10.heap.size ≤ w24.heap.size := Nat.le_trans T_g0_w23 hb24.size
  have F_pg_w24 : In w24 w10.heap.size w11.heap.size (.slice (some ⟨w10.heap.size, 0, none⟩) 3 3) ([.int .i64 P, .int .i64 Q, .slice Ag L.length cg]) := F_pg_w23.step hb24
  have T_pg_w24 : w11.heap.size ≤ w24.heap.size := Nat.le_trans T_pg_w23 hb24.size
  have B_w24 : Below w.heap.size w w24 := B_w23.trans (hb24.mono B_w23.size)
  clear F_a0_w23 F_a1_w23 F_pa0_w23 T_pa0_w23 F_pa1_w23 T_pa1_w23 F_r0_w23 T_r0_w23 F_pr_w23 T_pr_w23 F_g0_w23 T_g0_w23 F_pg_w23 T_pg_w23 B_w23
  clear hb24
  have ht25 : Tw w9.heap.size w10.heap.size w24 w25 := by rw [hw25]; exact over_tw F_g0_w24.1 F_g0_w24.2 _
  have NF25 : In w25 w9.heap.size w10.heap.size (.slice Ag L.length cg) ((List.range L.length).map (mkF (1))) := by rw [hw25]; have := F_g0_w24.over (mkF (1)); rw [fl_len] at this; exact this
  clear hw25
  have F_a0_w25 : Rd w25 w.heap.size (.slice A0 a0.length c0) (fl a0) := F_a0_w24.tw ht25 S_g0 B_w24.size
  have F_a1_w25 : Rd w25 w.heap.size (.slice A1 a1.length c1) (fl a1) := F_a1_w24.tw ht25 S_g0 B_w24.size
  have F_pa0_w25 : In w25 w.heap.size (w.heap.size + 1) (.slice (some ⟨w.heap.size, 0, none⟩) 3 3) ([.int .i64 p0, .int .i64 q0, (.slice A0 a0.length c0)]) := F_pa0_w24.tw ht25 (.inl D_pa0_g0)
  have T_pa0_w25 : (w.heap.size + 1) ≤ w25.heap.size := Nat.le_trans T_pa0_w24 ht25.size
  have F_pa1_w25 : In w25 (w.heap.size + 1) w2.heap.size (.slice (some ⟨w.heap.size + 1, 0, none⟩) 3 3) ([.int .i64 p1, .int .i64 q1, (.slice A1 a1.length c1)]) := F_pa1_w24.tw ht25 (.inl D_pa1_g0)
  have T_pa1_w25 : w2.heap.size ≤ w25.heap.size := Nat.le_trans T_pa1_w24 ht25.size
  have F_r0_w25 : In w25 w4.heap.size w5.heap.size (.slice Ar L.length cr) (fl L) := F_r0_w24.tw ht25 (.inl D_r0_g0)
  have T_r0_w25 : w5.heap.size ≤ w25.heap.size := Nat.le_trans T_r0_w24 ht25.size
  have F_pr_w25 : In w25 w4.heap.size w5.heap.size (.slice (some ⟨g5, 0, none⟩) 3 3) ([.int .i64 P, .int .i64 Q, .slice Ar L.length cr]) := F_pr_w24.tw ht25 (.inl D_pr_g0)
  have T_pr_w25 : w5.heap.size ≤ w25.heap.size := Nat.le_trans T_pr_w24 ht25.size
  have F_g0_w25 : In w25 w9.heap.size w10.heap.size (.slice Ag L.length cg) ((List.range L.length).map (mkF (1))) := NF25
  have T_g0_w25 : w10.heap.size ≤ w25.heap.size := Nat.le_trans T_g0_w24 ht25.size
  have F_pg_w25 : In w25 w10.heap.size w11.heap.size (.slice (some ⟨w10.heap.size, 0, none⟩) 3 3) ([.int .i64 P, .int .i64 Q, .slice Ag L.length cg]) := F_pg_w24.tw ht25 (.inr D_g0_pg)
  have T_pg_w25 : w11.heap.size ≤ w25.heap.size := Nat.le_trans T_pg_w24 ht25.size
  have B_w25 : Below w.heap.size w w25 := B_w24.trans (ht25.below S_g0 B_w24.size)
  clear F_a0_w24 F_a1_w24 F_pa0_w24 T_pa0_w24 F_pa1_w24 T_pa1_w24 F_r0_w24 T_r0_w24 F_pr_w24 T_pr_w24 F_g0_w24 T_g0_w24 F_pg_w24 T_pg_w24 B_w24
  clear ht25 NF25
  obtain ⟨_, Z_pg_w25, c943, _⟩ := F_pg_w25.1.cells' (by decide)
  have Q_pg0_w25 : w25.cell? ⟨w10.heap.size, 0, none⟩ = some (.int .i64 P) := c943 0 _ rfl
  have Q_pg1_w25 : w25.cell? ⟨w10.heap.size, 1, none⟩ = some (.int .i64 Q) := c943 1 _ rfl
  have Q_pg2_w25 : w25.cell? ⟨w10.heap.size, 2, none⟩ = some (.slice Ag L.length cg) := c943 2 _ rfl
  clear c943
  go_wp2_with fail
  clear Z_pg_w25 Q_pg0_w25 Q_pg1_w25 Q_pg2_w25
  refine (heldPic_any _ _ _ L.length _ _ F_g0_w25.rd hL (by omega) (by omega)).mono ?_
  rintro e w26 ⟨rfl, hb26⟩
  have F_a0_w26 : Rd w26 w.heap.size (.slice A0 a0.length c0) (fl a0) := F_a0_w25.below (hb26.mono B_w25.size)
  have F_a1_w26 : Rd w26 w.heap.size (.slice A1 a1.length c1) (fl a1) := F_a1_w25.below (hb26.mono B_w25.size)
  have F_pa0_w26 : In w26 w.heap.size (w.heap.size + 1) (.slice (some ⟨w.heap.size, 0, none⟩) 3 3) ([.int .i64 p0, .int .i64 q0, (.slice A0 a0.length c0)]) := F_pa0_w25.step hb26
  have T_pa0_w26 : (w.heap.size + 1) ≤ w26.heap.size := Nat.le_trans T_pa0_w25 hb26.size
  have F_pa1_w26 : In w26 (w.heap.size + 1) w2.heap.size (.slice (some ⟨w.heap.size + 1, 0, none⟩) 3 3) ([.int .i64 p1, .int .i64 q1, (.slice A1 a1.length c1)]) := F_pa1_w25.step hb26
  have T_pa1_w26 : w2.heap.size ≤ w26.heap.size := Nat.le_trans T_pa1_w25 hb26.size
  have F_r0_w26 : In w26 w4.heap.size w5.heap.size (.slice Ar L.length cr) (fl L) := F_r0_w25.step hb26
  have T_r0_w26 : w5.heap.size ≤ w26.heap.size := Nat.le_trans T_r0_w25 hb26.size
  have F_pr_w26 : In w26 w4.heap.size w5.heap.size (.slice (some ⟨g5, 0, none⟩) 3 3) ([.int .i64 P, .int .i64 Q, .slice Ar L.length cr]) := F_pr_w25.step hb26
  have T_pr_w26 : w5.heap.size ≤ w26.heap.size := Nat.le_trans T_pr_w25 hb26.size
  have F_g0_w26 : In w26 w9.heap.size w10.heap.size (.slice Ag L.length cg) ((List.range L.length).map (mkF (1))) := F_g0_w25.step hb26
  have T_g0_w26 : w10.heap.size ≤ w26.heap.size := Nat.le_trans T_g0_w25 hb26.size
  have F_pg_w26 : In w26 w10.heap.size w11.heap.size (.slice (some ⟨w10.heap.size, 0, none⟩) 3 3) ([.int .i64 P, .int .i64 Q, .slice Ag L.length cg]) := F_pg_w25.step hb26
  have T_pg_w26 : w11.heap.size ≤ w26.heap.size := Nat.le_trans T_pg_w25 hb26.size
  have B_w26 : Below w.heap.size w w26 := B_w25.trans (hb26.mono B_w25.size)
  clear F_a0_w25 F_a1_w25 F_pa0_w25 T_pa0_w25 F_pa1_w25 T_pa1_w25 F_r0_w25 T_r0_w25 F_pr_w25 T_pr_w25 F_g0_w25 T_g0_w25 F_pg_w25 T_pg_w25 B_w25
  clear hb26
  obtain ⟨_, Z_pa0_w26, c969, _⟩ := F_pa0_w26.1.cells' (by decide)
  have Q_pa00_w26 : w26.cell? ⟨w.heap.size, 0, none⟩ = some (.int .i64 p0) := c969 0 _ rfl
  have Q_pa01_w26 : w26.cell? ⟨w.heap.size, 1, none⟩ = some (.int .i64 q0) := c969 1 _ rfl
  have Q_pa02_w26 : w26.cell? ⟨w.heap.size, 2, none⟩ = some ((.slice A0 a0.length c0)) := c969 2 _ rfl
  clear c969
  obtain ⟨_, Z_pa1_w26, c974, _⟩ := F_pa1_w26.1.cells' (by decide)
  have Q_pa10_w26 : w26.cell? ⟨w.heap.size + 1, 0, none⟩ = some (.int .i64 p1) := c974 0 _ rfl
  have Q_pa11_w26 : w26.cell? ⟨w.heap.size + 1, 1, none⟩ = some (.int .i64 q1) := c974 1 _ rfl
  have Q_pa12_w26 : w26.cell? ⟨w.heap.size + 1, 2, none⟩ = some ((.slice A1 a1.length c1)) := c974 2 _ rfl
  clear c974
  have E_a0 : Rd w26 w26.heap.size (.slice A0 a0.length c0) (fl a0) := (F_a0_w26.more B_w26.size)
  have E_a1 : Rd w26 w26.heap.size (.slice A1 a1.length c1) (fl a1) := (F_a1_w26.more B_w26.size)
  have HSH := Lib.hid (fun (w' : World) (hb : Below w26.heap.size w26 w') => (show w'.cell? ⟨w.heap.size, 0, none⟩ = some (.int .i64 p0) ∧ w'.cell? ⟨w.heap.size, 1, none⟩ = some (.int .i64 q0) ∧ w'.cell? ⟨w.heap.size, 2, none⟩ = some ((.slice A0 a0.length c0)) ∧ w'.cell? ⟨w.heap.size + 1, 0, none⟩ = some (.int .i64 p1) ∧ w'.cell? ⟨w.heap.size + 1, 1, none⟩ = some (.int .i64 q1) ∧ w'.cell? ⟨w.heap.size + 1, 2, none⟩ = some ((.slice A1 a1.length c1)) from ⟨(hb.cell (p := ⟨w.heap.size, 0, none⟩) Z_pa0_w26).trans Q_pa00_w26, (hb.cell (p := ⟨w.heap.size, 1, none⟩) Z_pa0_w26).trans Q_pa01_w26, (hb.cell (p := ⟨w.heap.size, 2, none⟩) Z_pa0_w26).trans Q_pa02_w26, (hb.cell (p := ⟨w.heap.size + 1, 0, none⟩) Z_pa1_w26).trans Q_pa10_w26, (hb.cell (p := ⟨w.heap.size + 1, 1, none⟩) Z_pa1_w26).trans Q_pa11_w26, (hb.cell (p := ⟨w.heap.size + 1, 2, none⟩) Z_pa1_w26).trans Q_pa12_w26⟩))
  go_upto_region 31 with fail
  go_cut [19, 20] from 102 to 111 (fun s8 s9 wx => ∃ (g8 : Nat) (A8 : Option Addr) (c8 : Nat), s8 = .pointer (some ⟨g8, 0, none⟩) ∧ s9 = .bool b ∧ Below w26.heap.size w26 wx ∧ Own wx w26.heap.size (.slice A8 L.length c8) (fl L) ∧ Own wx w26.heap.size (.slice (some ⟨g8, 0, none⟩) 3 3) [.int .i64 P, .int .i64 Q, .slice A8 L.length c8])
  case first =>
    have hB00 := Lib.hid (show Below w26.heap.size w26 w26.drew from below_drawn (Below.refl _ _) 1)
    refine wp_region_held_drew (S := (fun w' => w'.cell? ⟨w.heap.size, 0, none⟩ = some (.int .i64 p0) ∧ w'.cell? ⟨w.heap.size, 1, none⟩ = some (.int .i64 q0) ∧ w'.cell? ⟨w.heap.size, 2, none⟩ = some ((.slice A0 a0.length c0)) ∧ w'.cell? ⟨w.heap.size + 1, 0, none⟩ = some (.int .i64 p1) ∧ w'.cell? ⟨w.heap.size + 1, 1, none⟩ = some (.int .i64 q1) ∧ w'.cell? ⟨w.heap.size + 1, 2, none⟩ = some ((.slice A1 a1.length c1)))) (by kernel_rfl) ?_ (fun hHeld => ?_)
    · exact HSH.out _ (below_drawn (Below.refl _ _) 1)
    refine wpAnyH_take (i := 0) (v := ?v17) rfl (by kernel_rfl) (by kernel_rfl) (by kernel_rfl) (fun _ _ _ h => h) (Or.inl ⟨by rfl, ?y17⟩) (by assumption) ?r17
    case y17 => (intro w hSw; (try dsimp only at hSw); go_simp; try (with_reducible rfl))
    (try simp only [Act.put]); (try simp only [List.setIfInBounds_toArray]); (try simp only [List.set_cons_succ]); (try simp only [List.set_cons_zero])
    refine wpAnyH_take (i := 2) (v := ?v18) rfl (by kernel_rfl) (by kernel_rfl) (by kernel_rfl) (fun _ _ _ h => h) (Or.inl ⟨by rfl, ?y18⟩) (by assumption) ?r18
    case y18 => (intro w hSw; (try dsimp only at hSw); go_simp; try (with_reducible rfl))
    (try simp only [Act.put]); (try simp only [List.setIfInBounds_toArray]); (try simp only [List.set_cons_succ]); (try simp only [List.set_cons_zero])
    refine wpAnyH_take (i := 4) (v := ?v19) rfl (by kernel_rfl) (by kernel_rfl) (by kernel_rfl) (fun _ _ _ h => h) (Or.inl ⟨by rfl, ?y19⟩) (by assumption) ?r19
    case y19 => (intro w hSw; (try dsimp only at hSw); go_simp; try (with_reducible rfl))
    (try simp only [Act.put]); (try simp only [List.setIfInBounds_toArray]); (try simp only [List.set_cons_succ]); (try simp only [List.set_cons_zero])
    refine wpAnyH_take (i := 5) (v := ?v20) rfl (by kernel_rfl) (by kernel_rfl) (by kernel_rfl) (fun _ _ _ h => h) (Or.inl ⟨by rfl, ?y20⟩) (by assumption) ?r20
    case y20 => (intro w hSw; (try dsimp only at hSw); go_simp; try (with_reducible rfl))
    (try simp only [Act.put]); (try simp only [List.setIfInBounds_toArray]); (try simp only [List.set_cons_succ]); (try simp only [List.set_cons_zero])
    refine wpAnyH_ready (rs := [1, 10]) (by kernel_rfl) (by simp) ?_
    refine AllReadyH.cons rfl (fun K hK => ?_) (AllReadyH.cons rfl (fun K hK => ?_) AllReadyH.nil)
    · skip
      go_simp
      go_at_call 36
      refine (toPic_any (.slice A0 a0.length c0) p0 q0 a0 w26.drew (E_a0.step hB00.out) hm0).mono ?_
      rintro e v1 ⟨gv1, rfl, Ov1, hbv1⟩
      have hBv1 := Lib.hid (hB00.out.trans (hbv1.mono hB00.out.size))
      refine hK.out _ _ ?_ (fun hHeld => ?_)
      · exact HSH.out _ hBv1.out
      clear hK K
      (try simp only [Act.put]); (try simp only [List.setIfInBounds_toArray]); (try simp only [List.set_cons_succ]); (try simp only [List.set_cons_zero])
      refine wpAnyH_ready (rs := [3, 10]) (by kernel_rfl) (by simp) ?_
      refine AllReadyH.cons rfl (fun K hK => ?_) (AllReadyH.cons rfl (fun K hK => ?_) AllReadyH.nil)
      · skip
        go_simp
        go_at_call 36
        refine (toPic_any (.slice A1 a1.length c1) p1 q1 a1 v1 (E_a1.step hBv1.out) hm1).mono ?_
        rintro e v2 ⟨gv2, rfl, Ov2, hbv2⟩
        have hBv2 := Lib.hid (hBv1.out.trans (hbv2.mono hBv1.out.size))
        refine hK.out _ _ ?_ (fun hHeld => ?_)
        · exact HSH.out _ hBv2.out
        clear hK K
        (try simp only [Act.put]); (try simp only [List.setIfInBounds_toArray]); (try simp only [List.set_cons_succ]); (try simp only [List.set_cons_zero])
        refine wpAnyH_ready (rs := [6, 10]) (by kernel_rfl) (by simp) ?_
        refine AllReadyH.cons rfl (fun K hK => ?_) (AllReadyH.cons rfl (fun K hK => ?_) AllReadyH.nil)
        · skip
          go_simp
          go_at_call 37
          refine (HI.out v2 _ _ (Ov1.rd.step hbv2) Ov2.rd).mono ?_
          rintro e v3 ⟨A8, c8, rfl, Ov3, hbv3⟩
          have O8 := Lib.hid Ov3
          have HLO := Lib.hid hBv2.out.size
          have hBv3 := Lib.hid (hBv2.out.trans (hbv3.mono hBv2.out.size))
          refine hK.out _ _ ?_ (fun hHeld => ?_)
          · exact HSH.out _ hBv3.out
          clear hK K
          (try simp only [Act.put]); (try simp only [List.setIfInBounds_toArray]); (try simp only [List.set_cons_succ]); (try simp only [List.set_cons_zero])
          refine wpAnyH_take (i := 7) (v := ?v21) rfl (by kernel_rfl) (by kernel_rfl) (by kernel_rfl) (fun _ _ _ h => h) (Or.inl ⟨by rfl, ?y21⟩) (by assumption) ?r21
          case y21 => (intro w hSw; (try dsimp only at hSw); go_simp; try (with_reducible rfl))
          (try simp only [Act.put]); (try simp only [List.setIfInBounds_toArray]); (try simp only [List.set_cons_succ]); (try simp only [List.set_cons_zero])
          refine wpAnyH_take (i := 8) (v := ?v22) rfl (by kernel_rfl) (by kernel_rfl) (by kernel_rfl) (fun _ _ _ h => h) (Or.inl ⟨by rfl, ?y22⟩) (by assumption) ?r22
          case y22 => (intro w hSw; (try dsimp only at hSw); go_simp; try (with_reducible rfl))
          (try simp only [Act.put]); (try simp only [List.setIfInBounds_toArray]); (try simp only [List.set_cons_succ]); (try simp only [List.set_cons_zero])
          refine wpAnyH_take (i := 9) (v := ?v23) rfl (by kernel_rfl) (by kernel_rfl) (by kernel_rfl) (fun _ _ _ h => h) (Or.inl ⟨by rfl, ?y23⟩) (by assumption) ?r23
          case y23 => (intro w hSw; (try dsimp only at hSw); go_simp; try (with_reducible rfl))
          (try simp only [Act.put]); (try simp only [List.setIfInBounds_toArray]); (try simp only [List.set_cons_succ]); (try simp only [List.set_cons_zero])
          refine wpAnyH_ready (rs := [10]) (by kernel_rfl) (by simp) ?_
          refine AllReadyH.cons rfl (fun K hK => ?_) AllReadyH.nil
          go_simp
          refine hK.out _ _ ?_ (fun hHeld => ?_)
          · exact HSH.out _ (hBv3.out.alloc hBv3.out.size _)
          clear hK K
          (try simp only [Act.put]); (try simp only [List.setIfInBounds_toArray]); (try simp only [List.set_cons_succ]); (try simp only [List.set_cons_zero])
          refine wpAnyH_ready (rs := [11]) (by kernel_rfl) (by simp) ?_
          refine AllReadyH.cons rfl (fun K hK => ?_) AllReadyH.nil
          go_simp
          refine hK.out _ _ ?_ (fun hHeld => ?_)
          · exact HSH.out _ (hBv3.out.alloc hBv3.out.size _)
          clear hK K
          (try simp only [Act.put]); (try simp only [List.setIfInBounds_toArray]); (try simp only [List.set_cons_succ]); (try simp only [List.set_cons_zero])
          refine wpAnyH_ready (rs := [12]) (by kernel_rfl) (by simp) ?_
          refine AllReadyH.cons rfl (fun K hK => ?_) AllReadyH.nil
          go_simp
          refine hK.out _ _ ?_ (fun hHeld => ?_)
          · exact HSH.out _ (hBv3.out.alloc hBv3.out.size _)
          clear hK K
          (try simp only [Act.put]); (try simp only [List.setIfInBounds_toArray]); (try simp only [List.set_cons_succ]); (try simp only [List.set_cons_zero])
          refine wpAnyH_done (by kernel_rfl) ?_ _
          (try go_wp2_with fail)
          go_meet
          exact ⟨_, A8, c8, rfl, rfl, hBv3.out.alloc hBv3.out.size _, (O8.out.below ((Below.refl _ _).alloc (Nat.le_refl _) _)).less HLO.out, (own_box3 v3 (.int .i64 P) (.int .i64 Q) (.slice A8 L.length c8) 50).less hBv3.out.size⟩
        · skip
          have hBy4 := Lib.hid (show Below w26.heap.size w26 (v2.alloc (.cells #[.int .i64 0, .int .i64 0, .slice none 0 0] 50)) from hBv2.out.alloc hBv2.out.size _)
          have HXy4 := Lib.hid (show Bx (v2.alloc (.cells #[.int .i64 0, .int .i64 0, .slice none 0 0] 50)) v2.heap.size [.int .i64 0, .int .i64 0, .slice none 0 0] from bx_new v2 [.int .i64 0, .int .i64 0, .slice none 0 0] 50)
          have HG8 := Lib.hid (show w26.heap.size ≤ v2.heap.size from hBv2.out.size)
          go_simp
          refine hK.out _ _ ?_ (fun hHeld => ?_)
          · exact HSH.out _ hBy4.out
          clear hK K
          (try simp only [Act.put]); (try simp only [List.setIfInBounds_toArray]); (try simp only [List.set_cons_succ]); (try simp only [List.set_cons_zero])
          refine wpAnyH_ready (rs := [6]) (by kernel_rfl) (by simp) ?_
          refine AllReadyH.cons rfl (fun K hK => ?_) AllReadyH.nil
          go_simp
          go_at_call 37
          refine (HI.out (v2.alloc (.cells #[.int .i64 0, .int .i64 0, .slice none 0 0] 50)) _ _ ((Ov1.rd.step hbv2).step ((Below.refl _ _).alloc (Nat.le_refl _) _)) (Ov2.rd.step ((Below.refl _ _).alloc (Nat.le_refl _) _))).mono ?_
          rintro e v5 ⟨A8, c8, rfl, Ov5, hbv5⟩
          have O8 := Lib.hid Ov5
          have HLO := Lib.hid hBy4.out.size
          have hBv5 := Lib.hid (hBy4.out.trans (hbv5.mono hBy4.out.size))
          have HG9 := Lib.hid (HXy4).out.1
          have HXv5 := Lib.hid ((HXy4).out.step hbv5)
          refine hK.out _ _ ?_ (fun hHeld => ?_)
          · exact HSH.out _ hBv5.out
          clear hK K
          (try simp only [Act.put]); (try simp only [List.setIfInBounds_toArray]); (try simp only [List.set_cons_succ]); (try simp only [List.set_cons_zero])
          refine wpAnyH_take (i := 7) (v := ?v24) rfl (by kernel_rfl) (by kernel_rfl) (by kernel_rfl) (fun _ _ _ h => h) (Or.inl ⟨by rfl, ?y24⟩) (by assumption) ?r24
          case y24 => (intro w hSw; (try dsimp only at hSw); go_simp; try (with_reducible rfl))
          (try simp only [Act.put]); (try simp only [List.setIfInBounds_toArray]); (try simp only [List.set_cons_succ]); (try simp only [List.set_cons_zero])
          refine wpAnyH_take (i := 8) (v := ?v25) rfl (by kernel_rfl) (by kernel_rfl) (by kernel_rfl) (fun _ _ _ h => h) (Or.inl ⟨by rfl, ?y25⟩) (by assumption) ?r25
          case y25 => (intro w hSw; (try dsimp only at hSw); go_simp; try (with_reducible rfl))
          (try simp only [Act.put]); (try simp only [List.setIfInBounds_toArray]); (try simp only [List.set_cons_succ]); (try simp only [List.set_cons_zero])
          refine wpAnyH_take (i := 9) (v := ?v26) rfl (by kernel_rfl) (by kernel_rfl) (by kernel_rfl) (fun _ _ _ h => h) (Or.inl ⟨by rfl, ?y26⟩) (by assumption) ?r26
          case y26 => (intro w hSw; (try dsimp only at hSw); go_simp; try (with_reducible rfl))
          (try simp only [Act.put]); (try simp only [List.setIfInBounds_toArray]); (try simp only [List.set_cons_succ]); (try simp only [List.set_cons_zero])
          have HXX := HXv5
          obtain ⟨d0, d1, d2, f0, f1, f2⟩ := bx_threeL HXX.out
          refine wpAnyH_ready (rs := [11]) (by kernel_rfl) (by simp) ?_
          refine AllReadyH.cons rfl (fun K hK => ?_) AllReadyH.nil
          go_simp
          refine hK.out _ _ ?_ (fun hHeld => ?_)
          · exact HSH.out _ (((hBv5.out.setCell (p := ⟨v2.heap.size, 0, none⟩) HG8.out _).setCell (p := ⟨v2.heap.size, 1, none⟩) HG8.out _).setCell (p := ⟨v2.heap.size, 2, none⟩) HG8.out _)
          clear hK K
          (try simp only [Act.put]); (try simp only [List.setIfInBounds_toArray]); (try simp only [List.set_cons_succ]); (try simp only [List.set_cons_zero])
          refine wpAnyH_ready (rs := [12]) (by kernel_rfl) (by simp) ?_
          refine AllReadyH.cons rfl (fun K hK => ?_) AllReadyH.nil
          go_simp
          refine hK.out _ _ ?_ (fun hHeld => ?_)
          · exact HSH.out _ (((hBv5.out.setCell (p := ⟨v2.heap.size, 0, none⟩) HG8.out _).setCell (p := ⟨v2.heap.size, 1, none⟩) HG8.out _).setCell (p := ⟨v2.heap.size, 2, none⟩) HG8.out _)
          clear hK K
          (try simp only [Act.put]); (try simp only [List.setIfInBounds_toArray]); (try simp only [List.set_cons_succ]); (try simp only [List.set_cons_zero])
          refine wpAnyH_done (by kernel_rfl) ?_ _
          (try go_wp2_with fail)
          go_meet
          exact ⟨v2.heap.size, A8, c8, rfl, rfl, (((hBv5.out.setCell (p := ⟨v2.heap.size, 0, none⟩) HG8.out _).setCell (p := ⟨v2.heap.size, 1, none⟩) HG8.out _).setCell (p := ⟨v2.heap.size, 2, none⟩) HG8.out _), (((O8.out.setLess (a := ⟨v2.heap.size, 0, none⟩) HG9.out _).setLess (a := ⟨v2.heap.size, 1, none⟩) HG9.out _).setLess (a := ⟨v2.heap.size, 2, none⟩) HG9.out _).less HLO.out, bx_own3L (((HXX.out.set 0 (by simp) (.int .i64 P)).set 1 (by simp) (.int .i64 Q)).set 2 (by simp) (.slice A8 L.length c8)) HG8.out⟩
      · skip
        have hBy6 := Lib.hid (show Below w26.heap.size w26 (v1.alloc (.cells #[.int .i64 0, .int .i64 0, .slice none 0 0] 50)) from hBv1.out.alloc hBv1.out.size _)
        have HXy6 := Lib.hid (show Bx (v1.alloc (.cells #[.int .i64 0, .int .i64 0, .slice none 0 0] 50)) v1.heap.size [.int .i64 0, .int .i64 0, .slice none 0 0] from bx_new v1 [.int .i64 0, .int .i64 0, .slice none 0 0] 50)
        have HG8 := Lib.hid (show w26.heap.size ≤ v1.heap.size from hBv1.out.size)
        go_simp
        refine hK.out _ _ ?_ (fun hHeld => ?_)
        · exact HSH.out _ hBy6.out
        clear hK K
        (try simp only [Act.put]); (try simp only [List.setIfInBounds_toArray]); (try simp only [List.set_cons_succ]); (try simp only [List.set_cons_zero])
        refine wpAnyH_ready (rs := [3]) (by kernel_rfl) (by simp) ?_
        refine AllReadyH.cons rfl (fun K hK => ?_) AllReadyH.nil
        go_simp
        go_at_call 36
        refine (toPic_any (.slice A1 a1.length c1) p1 q1 a1 (v1.alloc (.cells #[.int .i64 0, .int .i64 0, .slice none 0 0] 50)) (E_a1.step hBy6.out) hm1).mono ?_
        rintro e v7 ⟨gv7, rfl, Ov7, hbv7⟩
        have hBv7 := Lib.hid (hBy6.out.trans (hbv7.mono hBy6.out.size))
        have HXv7 := Lib.hid ((HXy6).out.step hbv7)
        refine hK.out _ _ ?_ (fun hHeld => ?_)
        · exact HSH.out _ hBv7.out
        clear hK K
        (try simp only [Act.put]); (try simp only [List.setIfInBounds_toArray]); (try simp only [List.set_cons_succ]); (try simp only [List.set_cons_zero])
        refine wpAnyH_ready (rs := [6]) (by kernel_rfl) (by simp) ?_
        refine AllReadyH.cons rfl (fun K hK => ?_) AllReadyH.nil
        go_simp
        go_at_call 37
        refine (HI.out v7 _ _ ((Ov1.rd.step ((Below.refl _ _).alloc (Nat.le_refl _) _)).step hbv7) Ov7.rd).mono ?_
        rintro e v8 ⟨A8, c8, rfl, Ov8, hbv8⟩
        have O8 := Lib.hid Ov8
        have HLO := Lib.hid hBv7.out.size
        have hBv8 := Lib.hid (hBv7.out.trans (hbv8.mono hBv7.out.size))
        have HG9 := Lib.hid (HXv7).out.1
        have HXv8 := Lib.hid ((HXv7).out.step hbv8)
        refine hK.out _ _ ?_ (fun hHeld => ?_)
        · exact HSH.out _ hBv8.out
        clear hK K
        (try simp only [Act.put]); (try simp only [List.setIfInBounds_toArray]); (try simp only [List.set_cons_succ]); (try simp only [List.set_cons_zero])
        refine wpAnyH_take (i := 7) (v := ?v27) rfl (by kernel_rfl) (by kernel_rfl) (by kernel_rfl) (fun _ _ _ h => h) (Or.inl ⟨by rfl, ?y27⟩) (by assumption) ?r27
        case y27 => (intro w hSw; (try dsimp only at hSw); go_simp; try (with_reducible rfl))
        (try simp only [Act.put]); (try simp only [List.setIfInBounds_toArray]); (try simp only [List.set_cons_succ]); (try simp only [List.set_cons_zero])
        refine wpAnyH_take (i := 8) (v := ?v28) rfl (by kernel_rfl) (by kernel_rfl) (by kernel_rfl) (fun _ _ _ h => h) (Or.inl ⟨by rfl, ?y28⟩) (by assumption) ?r28
        case y28 => (intro w hSw; (try dsimp only at hSw); go_simp; try (with_reducible rfl))
        (try simp only [Act.put]); (try simp only [List.setIfInBounds_toArray]); (try simp only [List.set_cons_succ]); (try simp only [List.set_cons_zero])
        refine wpAnyH_take (i := 9) (v := ?v29) rfl (by kernel_rfl) (by kernel_rfl) (by kernel_rfl) (fun _ _ _ h => h) (Or.inl ⟨by rfl, ?y29⟩) (by assumption) ?r29
        case y29 => (intro w hSw; (try dsimp only at hSw); go_simp; try (with_reducible rfl))
        (try simp only [Act.put]); (try simp only [List.setIfInBounds_toArray]); (try simp only [List.set_cons_succ]); (try simp only [List.set_cons_zero])
        have HXX := HXv8
        obtain ⟨d0, d1, d2, f0, f1, f2⟩ := bx_threeL HXX.out
        refine wpAnyH_ready (rs := [11]) (by kernel_rfl) (by simp) ?_
        refine AllReadyH.cons rfl (fun K hK => ?_) AllReadyH.nil
        go_simp
        refine hK.out _ _ ?_ (fun hHeld => ?_)
        · exact HSH.out _ (((hBv8.out.setCell (p := ⟨v1.heap.size, 0, none⟩) HG8.out _).setCell (p := ⟨v1.heap.size, 1, none⟩) HG8.out _).setCell (p := ⟨v1.heap.size, 2, none⟩) HG8.out _)
        clear hK K
        (try simp only [Act.put]); (try simp only [List.setIfInBounds_toArray]); (try simp only [List.set_cons_succ]); (try simp only [List.set_cons_zero])
        refine wpAnyH_ready (rs := [12]) (by kernel_rfl) (by simp) ?_
        refine AllReadyH.cons rfl (fun K hK => ?_) AllReadyH.nil
        go_simp
        refine hK.out _ _ ?_ (fun hHeld => ?_)
        · exact HSH.out _ (((hBv8.out.setCell (p := ⟨v1.heap.size, 0, none⟩) HG8.out _).setCell (p := ⟨v1.heap.size, 1, none⟩) HG8.out _).setCell (p := ⟨v1.heap.size, 2, none⟩) HG8.out _)
        clear hK K
        (try simp only [Act.put]); (try simp only [List.setIfInBounds_toArray]); (try simp only [List.set_cons_succ]); (try simp only [List.set_cons_zero])
        refine wpAnyH_done (by kernel_rfl) ?_ _
        (try go_wp2_with fail)
        go_meet
        exact ⟨v1.heap.size, A8, c8, rfl, rfl, (((hBv8.out.setCell (p := ⟨v1.heap.size, 0, none⟩) HG8.out _).setCell (p := ⟨v1.heap.size, 1, none⟩) HG8.out _).setCell (p := ⟨v1.heap.size, 2, none⟩) HG8.out _), (((O8.out.setLess (a := ⟨v1.heap.size, 0, none⟩) HG9.out _).setLess (a := ⟨v1.heap.size, 1, none⟩) HG9.out _).setLess (a := ⟨v1.heap.size, 2, none⟩) HG9.out _).less HLO.out, bx_own3L (((HXX.out.set 0 (by simp) (.int .i64 P)).set 1 (by simp) (.int .i64 Q)).set 2 (by simp) (.slice A8 L.length c8)) HG8.out⟩
    · skip
      have hBy9 := Lib.hid (show Below w26.heap.size w26 (w26.drew.alloc (.cells #[.int .i64 0, .int .i64 0, .slice none 0 0] 50)) from hB00.out.alloc hB00.out.size _)
      have HXy9 := Lib.hid (show Bx (w26.drew.alloc (.cells #[.int .i64 0, .int .i64 0, .slice none 0 0] 50)) w26.heap.size [.int .i64 0, .int .i64 0, .slice none 0 0] from bx_new w26.drew [.int .i64 0, .int .i64 0, .slice none 0 0] 50)
      have HG8 := Lib.hid (show w26.heap.size ≤ w26.heap.size from hB00.out.size)
      go_simp
      refine hK.out _ _ ?_ (fun hHeld => ?_)
      · exact HSH.out _ hBy9.out
      clear hK K
      (try simp only [Act.put]); (try simp only [List.setIfInBounds_toArray]); (try simp only [List.set_cons_succ]); (try simp only [List.set_cons_zero])
      refine wpAnyH_ready (rs := [1]) (by kernel_rfl) (by simp) ?_
      refine AllReadyH.cons rfl (fun K hK => ?_) AllReadyH.nil
      go_simp
      go_at_call 36
      refine (toPic_any (.slice A0 a0.length c0) p0 q0 a0 (w26.drew.alloc (.cells #[.int .i64 0, .int .i64 0, .slice none 0 0] 50)) (E_a0.step hBy9.out) hm0).mono ?_
      rintro e v10 ⟨gv10, rfl, Ov10, hbv10⟩
      have hBv10 := Lib.hid (hBy9.out.trans (hbv10.mono hBy9.out.size))
      have HXv10 := Lib.hid ((HXy9).out.step hbv10)
      refine hK.out _ _ ?_ (fun hHeld => ?_)
      · exact HSH.out _ hBv10.out
      clear hK K
      (try simp only [Act.put]); (try simp only [List.setIfInBounds_toArray]); (try simp only [List.set_cons_succ]); (try simp only [List.set_cons_zero])
      refine wpAnyH_ready (rs := [3]) (by kernel_rfl) (by simp) ?_
      refine AllReadyH.cons rfl (fun K hK => ?_) AllReadyH.nil
      go_simp
      go_at_call 36
      refine (toPic_any (.slice A1 a1.length c1) p1 q1 a1 v10 (E_a1.step hBv10.out) hm1).mono ?_
      rintro e v11 ⟨gv11, rfl, Ov11, hbv11⟩
      have hBv11 := Lib.hid (hBv10.out.trans (hbv11.mono hBv10.out.size))
      have HXv11 := Lib.hid ((HXv10).out.step hbv11)
      refine hK.out _ _ ?_ (fun hHeld => ?_)
      · exact HSH.out _ hBv11.out
      clear hK K
      (try simp only [Act.put]); (try simp only [List.setIfInBounds_toArray]); (try simp only [List.set_cons_succ]); (try simp only [List.set_cons_zero])
      refine wpAnyH_ready (rs := [6]) (by kernel_rfl) (by simp) ?_
      refine AllReadyH.cons rfl (fun K hK => ?_) AllReadyH.nil
      go_simp
      go_at_call 37
      refine (HI.out v11 _ _ (Ov10.rd.step hbv11) Ov11.rd).mono ?_
      rintro e v12 ⟨A8, c8, rfl, Ov12, hbv12⟩
      have O8 := Lib.hid Ov12
      have HLO := Lib.hid hBv11.out.size
      have hBv12 := Lib.hid (hBv11.out.trans (hbv12.mono hBv11.out.size))
      have HG9 := Lib.hid (HXv11).out.1
      have HXv12 := Lib.hid ((HXv11).out.step hbv12)
      refine hK.out _ _ ?_ (fun hHeld => ?_)
      · exact HSH.out _ hBv12.out
      clear hK K
      (try simp only [Act.put]); (try simp only [List.setIfInBounds_toArray]); (try simp only [List.set_cons_succ]); (try simp only [List.set_cons_zero])
      refine wpAnyH_take (i := 7) (v := ?v30) rfl (by kernel_rfl) (by kernel_rfl) (by kernel_rfl) (fun _ _ _ h => h) (Or.inl ⟨by rfl, ?y30⟩) (by assumption) ?r30
      case y30 => (intro w hSw; (try dsimp only at hSw); go_simp; try (with_reducible rfl))
      (try simp only [Act.put]); (try simp only [List.setIfInBounds_toArray]); (try simp only [List.set_cons_succ]); (try simp only [List.set_cons_zero])
      refine wpAnyH_take (i := 8) (v := ?v31) rfl (by kernel_rfl) (by kernel_rfl) (by kernel_rfl) (fun _ _ _ h => h) (Or.inl ⟨by rfl, ?y31⟩) (by assumption) ?r31
      case y31 => (intro w hSw; (try dsimp only at hSw); go_simp; try (with_reducible rfl))
      (try simp only [Act.put]); (try simp only [List.setIfInBounds_toArray]); (try simp only [List.set_cons_succ]); (try simp only [List.set_cons_zero])
      refine wpAnyH_take (i := 9) (v := ?v32) rfl (by kernel_rfl) (by kernel_rfl) (by kernel_rfl) (fun _ _ _ h => h) (Or.inl ⟨by rfl, ?y32⟩) (by assumption) ?r32
      case y32 => (intro w hSw; (try dsimp only at hSw); go_simp; try (with_reducible rfl))
      (try simp only [Act.put]); (try simp only [List.setIfInBounds_toArray]); (try simp only [List.set_cons_succ]); (try simp only [List.set_cons_zero])
      have HXX := HXv12
      obtain ⟨d0, d1, d2, f0, f1, f2⟩ := bx_threeL HXX.out
      refine wpAnyH_ready (rs := [11]) (by kernel_rfl) (by simp) ?_
      refine AllReadyH.cons rfl (fun K hK => ?_) AllReadyH.nil
      go_simp
      refine hK.out _ _ ?_ (fun hHeld => ?_)
      · exact HSH.out _ (((hBv12.out.setCell (p := ⟨w26.heap.size, 0, none⟩) HG8.out _).setCell (p := ⟨w26.heap.size, 1, none⟩) HG8.out _).setCell (p := ⟨w26.heap.size, 2, none⟩) HG8.out _)
      clear hK K
      (try simp only [Act.put]); (try simp only [List.setIfInBounds_toArray]); (try simp only [List.set_cons_succ]); (try simp only [List.set_cons_zero])
      refine wpAnyH_ready (rs := [12]) (by kernel_rfl) (by simp) ?_
      refine AllReadyH.cons rfl (fun K hK => ?_) AllReadyH.nil
      go_simp
      refine hK.out _ _ ?_ (fun hHeld => ?_)
      · exact HSH.out _ (((hBv12.out.setCell (p := ⟨w26.heap.size, 0, none⟩) HG8.out _).setCell (p := ⟨w26.heap.size, 1, none⟩) HG8.out _).setCell (p := ⟨w26.heap.size, 2, none⟩) HG8.out _)
      clear hK K
      (try simp only [Act.put]); (try simp only [List.setIfInBounds_toArray]); (try simp only [List.set_cons_succ]); (try simp only [List.set_cons_zero])
      refine wpAnyH_done (by kernel_rfl) ?_ _
      (try go_wp2_with fail)
      go_meet
      exact ⟨w26.heap.size, A8, c8, rfl, rfl, (((hBv12.out.setCell (p := ⟨w26.heap.size, 0, none⟩) HG8.out _).setCell (p := ⟨w26.heap.size, 1, none⟩) HG8.out _).setCell (p := ⟨w26.heap.size, 2, none⟩) HG8.out _), (((O8.out.setLess (a := ⟨w26.heap.size, 0, none⟩) HG9.out _).setLess (a := ⟨w26.heap.size, 1, none⟩) HG9.out _).setLess (a := ⟨w26.heap.size, 2, none⟩) HG9.out _).less HLO.out, bx_own3L (((HXX.out.set 0 (by simp) (.int .i64 P)).set 1 (by simp) (.int .i64 Q)).set 2 (by simp) (.slice A8 L.length c8)) HG8.out⟩
  obtain ⟨g27, Ah, ch, rfl, rfl, hb27, O27x, OB27⟩ := hcut
  obtain ⟨w27, hwn27⟩ : ∃ z, z = wc := ⟨_, rfl⟩
  subst hwn27
  clear HSH Z_pa0_w26 Q_pa00_w26 Q_pa01_w26 Q_pa02_w26 Z_pa1_w26 Q_pa10_w26 Q_pa11_w26 Q_pa12_w26 E_a0 E_a1
  have F_a0_w27 : Rd w27 w.heap.size (.slice A0 a0.length c0) (fl a0) := F_a0_w26.below (hb27.mono B_w26.size)
  have F_a1_w27 : Rd w27 w.heap.size (.slice A1 a1.length c1) (fl a1) := F_a1_w26.below (hb27.mono B_w26.size)
  have F_pa0_w27 : In w27 w.heap.size (w.heap.size + 1) (.slice (some ⟨w.heap.size, 0, none⟩) 3 3) ([.int .i64 p0, .int .i64 q0, (.slice A0 a0.length c0)]) := F_pa0_w26.step hb27
  have T_pa0_w27 : (w.heap.size + 1) ≤ w27.heap.size := Nat.le_trans T_pa0_w26 hb27.size
  have F_pa1_w27 : In w27 (w.heap.size + 1) w2.heap.size (.slice (some ⟨w.heap.size + 1, 0, none⟩) 3 3) ([.int .i64 p1, .int .i64 q1, (.slice A1 a1.length c1)]) := F_pa1_w26.step hb27
  have T_pa1_w27 : w2.heap.size ≤ w27.heap.size := Nat.le_trans T_pa1_w26 hb27.size
  have F_r0_w27 : In w27 w4.heap.size w5.heap.size (.slice Ar L.length cr) (fl L) := F_r0_w26.step hb27
  have T_r0_w27 : w5.heap.size ≤ w27.heap.size := Nat.le_trans T_r0_w26 hb27.size
  have F_pr_w27 : In w27 w4.heap.size w5.heap.size (.slice (some ⟨g5, 0, none⟩) 3 3) ([.int .i64 P, .int .i64 Q, .slice Ar L.length cr]) := F_pr_w26.step hb27
  have T_pr_w27 : w5.heap.size ≤ w27.heap.size := Nat.le_trans T_pr_w26 hb27.size
  have F_g0_w27 : In w27 w9.heap.size w10.heap.size (.slice Ag L.length cg) ((List.range L.length).map (mkF (1))) := F_g0_w26.step hb27
  have T_g0_w27 : w10.heap.size ≤ w27.heap.size := Nat.le_trans T_g0_w26 hb27.size
  have F_pg_w27 : In w27 w10.heap.size w11.heap.size (.slice (some ⟨w10.heap.size, 0, none⟩) 3 3) ([.int .i64 P, .int .i64 Q, .slice Ag L.length cg]) := F_pg_w26.step hb27
  have T_pg_w27 : w11.heap.size ≤ w27.heap.size := Nat.le_trans T_pg_w26 hb27.size
  have B_w27 : Below w.heap.size w w27 := B_w26.trans (hb27.mono B_w26.size)
  have S_h0 : w.heap.size ≤ w26.heap.size := B_w26.size
  have D_pa0_h0 : (w.heap.size + 1) ≤ w26.heap.size := T_pa0_w26
  have D_pa1_h0 : w2.heap.size ≤ w26.heap.size := T_pa1_w26
  have D_r0_h0 : w5.heap.size ≤ w26.heap.size := T_r0_w26
  have D_pr_h0 : w5.heap.size ≤ w26.heap.size := T_pr_w26
  have D_g0_h0 : w10.heap.size ≤ w26.heap.size := T_g0_w26
  have D_pg_h0 : w11.heap.size ≤ w26.heap.size := T_pg_w26
  have S_ph : w.heap.size ≤ w26.heap.size := B_w26.size
  have D_pa0_ph : (w.heap.size + 1) ≤ w26.heap.size := T_pa0_w26
  have D_pa1_ph : w2.heap.size ≤ w26.heap.size := T_pa1_w26
  have D_r0_ph : w5.heap.size ≤ w26.heap.size := T_r0_w26
  have D_pr_ph : w5.heap.size ≤ w26.heap.size := T_pr_w26
  have D_g0_ph : w10.heap.size ≤ w26.heap.size := T_g0_w26
  have D_pg_ph : w11.heap.size ≤ w26.heap.size := T_pg_w26
  clear F_a0_w26 F_a1_w26 F_pa0_w26 T_pa0_w26 F_pa1_w26 T_pa1_w26 F_r0_w26 T_r0_w26 F_pr_w26 T_pr_w26 F_g0_w26 T_g0_w26 F_pg_w26 T_pg_w26 B_w26
  have F_h0_w27 : In w27 w26.heap.size w27.heap.size (.slice Ah L.length ch) (fl L) := In.made O27x
  have T_h0_w27 : w27.heap.size ≤ w27.heap.size := Nat.le_refl _
  clear O27x
  have F_ph_w27 : In w27 w26.heap.size w27.heap.size (.slice (some ⟨g27, 0, none⟩) 3 3) ([.int .i64 P, .int .i64 Q, .slice Ah L.length ch]) := In.made OB27
  have T_ph_w27 : w27.heap.size ≤ w27.heap.size := Nat.le_refl _
  clear OB27
  clear hb27
  obtain ⟨_, Z_ph_w27, c1308, _⟩ := F_ph_w27.1.cells' (by decide)
  have Q_ph0_w27 : w27.cell? ⟨g27, 0, none⟩ = some (.int .i64 P) := c1308 0 _ rfl
  have Q_ph1_w27 : w27.cell? ⟨g27, 1, none⟩ = some (.int .i64 Q) := c1308 1 _ rfl
  have Q_ph2_w27 : w27.cell? ⟨g27, 2, none⟩ = some (.slice Ah L.length ch) := c1308 2 _ rfl
  clear c1308
  obtain ⟨_, Z_pr_w27, c1313, _⟩ := F_pr_w27.1.cells' (by decide)
  have Q_pr0_w27 : w27.cell? ⟨g5, 0, none⟩ = some (.int .i64 P) := c1313 0 _ rfl
  have Q_pr1_w27 : w27.cell? ⟨g5, 1, none⟩ = some (.int .i64 Q) := c1313 1 _ rfl
  have Q_pr2_w27 : w27.cell? ⟨g5, 2, none⟩ = some (.slice Ar L.length cr) := c1313 2 _ rfl
  clear c1313
  go_wp2_with fail
  clear Z_ph_w27 Q_ph0_w27 Q_ph1_w27 Q_ph2_w27 Z_pr_w27 Q_pr0_w27 Q_pr1_w27 Q_pr2_w27
  refine (eqPic_any _ _ _ _ L L _ F_h0_w27.rd F_r0_w27.rd (Worth.refl _) hL).mono ?_
  rintro e w28 ⟨rfl, hb28⟩
  have F_a0_w28 : Rd w28 w.heap.size (.slice A0 a0.length c0) (fl a0) := F_a0_w27.below (hb28.mono B_w27.size)
  have F_a1_w28 : Rd w28 w.heap.size (.slice A1 a1.length c1) (fl a1) := F_a1_w27.below (hb28.mono B_w27.size)
  have F_pa0_w28 : In w28 w.heap.size (w.heap.size + 1) (.slice (some ⟨w.heap.size, 0, none⟩) 3 3) ([.int .i64 p0, .int .i64 q0, (.slice A0 a0.length c0)]) := F_pa0_w27.step hb28
  have T_pa0_w28 : (w.heap.size + 1) ≤ w28.heap.size := Nat.le_trans T_pa0_w27 hb28.size
  have F_pa1_w28 : In w28 (w.heap.size + 1) w2.heap.size (.slice (some ⟨w.heap.size + 1, 0, none⟩) 3 3) ([.int .i64 p1, .int .i64 q1, (.slice A1 a1.length c1)]) := F_pa1_w27.step hb28
  have T_pa1_w28 : w2.heap.size ≤ w28.heap.size := Nat.le_trans T_pa1_w27 hb28.size
  have F_r0_w28 : In w28 w4.heap.size w5.heap.size (.slice Ar L.length cr) (fl L) := F_r0_w27.step hb28
  have T_r0_w28 : w5.heap.size ≤ w28.heap.size := Nat.le_trans T_r0_w27 hb28.size
  have F_pr_w28 : In w28 w4.heap.size w5.heap.size (.slice (some ⟨g5, 0, none⟩) 3 3) ([.int .i64 P, .int .i64 Q, .slice Ar L.length cr]) := F_pr_w27.step hb28
  have T_pr_w28 : w5.heap.size ≤ w28.heap.size := Nat.le_trans T_pr_w27 hb28.size
  have F_g0_w28 : In w28 w9.heap.size w10.heap.size (.slice Ag L.length cg) ((List.range L.length).map (mkF (1))) := F_g0_w27.step hb28
  have T_g0_w28 : w10.heap.size ≤ w28.heap.size := Nat.le_trans T_g0_w27 hb28.size
  have F_pg_w28 : In w28 w10.heap.size w11.heap.size (.slice (some ⟨w10.heap.size, 0, none⟩) 3 3) ([.int .i64 P, .int .i64 Q, .slice Ag L.length cg]) := F_pg_w27.step hb28
  have T_pg_w28 : w11.heap.size ≤ w28.heap.size := Nat.le_trans T_pg_w27 hb28.size
  have F_h0_w28 : In w28 w26.heap.size w27.heap.size (.slice Ah L.length ch) (fl L) := F_h0_w27.step hb28
  have T_h0_w28 : w27.heap.size ≤ w28.heap.size := Nat.le_trans T_h0_w27 hb28.size
  have F_ph_w28 : In w28 w26.heap.size w27.heap.size (.slice (some ⟨g27, 0, none⟩) 3 3) ([.int .i64 P, .int .i64 Q, .slice Ah L.length ch]) := F_ph_w27.step hb28
  have T_ph_w28 : w27.heap.size ≤ w28.heap.size := Nat.le_trans T_ph_w27 hb28.size
  have B_w28 : Below w.heap.size w w28 := B_w27.trans (hb28.mono B_w27.size)
  clear F_a0_w27 F_a1_w27 F_pa0_w27 T_pa0_w27 F_pa1_w27 T_pa1_w27 F_r0_w27 T_r0_w27 F_pr_w27 T_pr_w27 F_g0_w27 T_g0_w27 F_pg_w27 T_pg_w27 F_h0_w27 T_h0_w27 F_ph_w27 T_ph_w27 B_w27
  clear hb28
  obtain ⟨_, Z_pg_w28, c1343, _⟩ := F_pg_w28.1.cells' (by decide)
  have Q_pg0_w28 : w28.cell? ⟨w10.heap.size, 0, none⟩ = some (.int .i64 P) := c1343 0 _ rfl
  have Q_pg1_w28 : w28.cell? ⟨w10.heap.size, 1, none⟩ = some (.int .i64 Q) := c1343 1 _ rfl
  have Q_pg2_w28 : w28.cell? ⟨w10.heap.size, 2, none⟩ = some (.slice Ag L.length cg) := c1343 2 _ rfl
  clear c1343
  go_wp2_with fail
  clear Z_pg_w28 Q_pg0_w28 Q_pg1_w28 Q_pg2_w28
  refine (heldPic_any _ _ _ L.length _ _ F_g0_w28.rd hL (by omega) (by omega)).mono ?_
  rintro e w29 ⟨rfl, hb29⟩
  have F_a0_w29 : Rd w29 w.heap.size (.slice A0 a0.length c0) (fl a0) := F_a0_w28.below (hb29.mono B_w28.size)
  have F_a1_w29 : Rd w29 w.heap.size (.slice A1 a1.length c1) (fl a1) := F_a1_w28.below (hb29.mono B_w28.size)
  have F_pa0_w29 : In w29 w.heap.size (w.heap.size + 1) (.slice (some ⟨w.heap.size, 0, none⟩) 3 3) ([.int .i64 p0, .int .i64 q0, (.slice A0 a0.length c0)]) := F_pa0_w28.step hb29
  have T_pa0_w29 : (w.heap.size + 1) ≤ w29.heap.size := Nat.le_trans T_pa0_w28 hb29.size
  have F_pa1_w29 : In w29 (w.heap.size + 1) w2.heap.size (.slice (some ⟨w.heap.size + 1, 0, none⟩) 3 3) ([.int .i64 p1, .int .i64 q1, (.slice A1 a1.length c1)]) := F_pa1_w28.step hb29
  have T_pa1_w29 : w2.heap.size ≤ w29.heap.size := Nat.le_trans T_pa1_w28 hb29.size
  have F_r0_w29 : In w29 w4.heap.size w5.heap.size (.slice Ar L.length cr) (fl L) := F_r0_w28.step hb29
  have T_r0_w29 : w5.heap.size ≤ w29.heap.size := Nat.le_trans T_r0_w28 hb29.size
  have F_pr_w29 : In w29 w4.heap.size w5.heap.size (.slice (some ⟨g5, 0, none⟩) 3 3) ([.int .i64 P, .int .i64 Q, .slice Ar L.length cr]) := F_pr_w28.step hb29
  have T_pr_w29 : w5.heap.size ≤ w29.heap.size := Nat.le_trans T_pr_w28 hb29.size
  have F_g0_w29 : In w29 w9.heap.size w10.heap.size (.slice Ag L.length cg) ((List.range L.length).map (mkF (1))) := F_g0_w28.step hb29
  have T_g0_w29 : w10.heap.size ≤ w29.heap.size := Nat.le_trans T_g0_w28 hb29.size
  have F_pg_w29 : In w29 w10.heap.size w11.heap.size (.slice (some ⟨w10.heap.size, 0, none⟩) 3 3) ([.int .i64 P, .int .i64 Q, .slice Ag L.length cg]) := F_pg_w28.step hb29
  have T_pg_w29 : w11.heap.size ≤ w29.heap.size := Nat.le_trans T_pg_w28 hb29.size
  have F_h0_w29 : In w29 w26.heap.size w27.heap.size (.slice Ah L.length ch) (fl L) := F_h0_w28.step hb29
  have T_h0_w29 : w27.heap.size ≤ w29.heap.size := Nat.le_trans T_h0_w28 hb29.size
  have F_ph_w29 : In w29 w26.heap.size w27.heap.size (.slice (some ⟨g27, 0, none⟩) 3 3) ([.int .i64 P, .int .i64 Q, .slice Ah L.length ch]) := F_ph_w28.step hb29
  have T_ph_w29 : w27.heap.size ≤ w29.heap.size := Nat.le_trans T_ph_w28 hb29.size
  have B_w29 : Below w.heap.size w w29 := B_w28.trans (hb29.mono B_w28.size)
  clear F_a0_w28 F_a1_w28 F_pa0_w28 T_pa0_w28 F_pa1_w28 T_pa1_w28 F_r0_w28 T_r0_w28 F_pr_w28 T_pr_w28 F_g0_w28 T_g0_w28 F_pg_w28 T_pg_w28 F_h0_w28 T_h0_w28 F_ph_w28 T_ph_w28 B_w28
  clear hb29
  go_wp2_with fail
  go_ret
  exact ⟨rfl, B_w29⟩
end Go.Proofs.Ytfbdmhkmkmbipaa
