/-
  At any bands, SameBands answers as its model does, and leaves them as they were.
-/
import Derived.Test.YtfhngajodfjkeaaRows
import Derived.ProofKit
import Derived.OpenShut
import Derived.WalkLawsBesides
import Derived.KernelRfl
import Derived.Test.YtfhngajodfjkeaaBq
namespace Go.Proofs.Ytfhngajodfjkeaa
open Go.RowKit Fl
set_option linter.unusedVariables false
theorem fnExactSameBands.walk (w : World) (v0 u0 : Value) (a0 : List Nat) (s0 : List (List Nat)) (h0 : Rd w w.heap.size v0 (a0.map (.float .f32))) (w0 : ∀ x ∈ a0, x < 2 ^ 32) (k0 : RdL w w.heap.size u0 (fll s0)) (z0 : ∀ xs ∈ s0, ∀ x ∈ xs, x < 2 ^ 32) (v1 u1 : Value) (a1 : List Nat) (s1 : List (List Nat)) (h1 : Rd w w.heap.size v1 (a1.map (.float .f32))) (w1 : ∀ x ∈ a1, x < 2 ^ 32) (k1 : RdL w w.heap.size u1 (fll s1)) (z1 : ∀ xs ∈ s1, ∀ x ∈ xs, x < 2 ^ 32) :
    Calls Try.prog 11 #[.agg #[v0, u0], .agg #[v1, u1]] w fun e w' => e = .returned (.bool true) ∧ Below w.heap.size w w' := by
  have hle0 : a0.length ≤ 9223372036854775807 := by
    have := h0.le
    rw [show (a0.map (.float .f32)) = fl a0 from rfl, fl_len] at this
    unfold maxLen at this
    omega
  replace h0 : Rd w w.heap.size v0 (fl a0) := h0
  obtain ⟨A0, c0, hv0, hc01, hc02, hcell0⟩ := id h0
  rw [fl_len] at hv0
  clear hcell0 hc01 hc02
  subst hv0
  have HX0 := Lib.hid w0
  have HZ0 := Lib.hid z0
  clear w0 z0
  have hle1 : a1.length ≤ 9223372036854775807 := by
    have := h1.le
    rw [show (a1.map (.float .f32)) = fl a1 from rfl, fl_len] at this
    unfold maxLen at this
    omega
  replace h1 : Rd w w.heap.size v1 (fl a1) := h1
  obtain ⟨A1, c1, hv1, hc11, hc12, hcell1⟩ := id h1
  rw [fl_len] at hv1
  clear hcell1 hc11 hc12
  subst hv1
  have HX1 := Lib.hid w1
  have HZ1 := Lib.hid z1
  clear w1 z1
  obtain ⟨b, hbe⟩ : ∃ b, b = sbB a0 s0 a1 s1 := ⟨_, rfl⟩
  have HS0 := Lib.hid (fun (hm0 : a0.length ≤ 1048576) (hm1 : a1.length ≤ 1048576) (hk0 : s0.length ≤ 1048576) (hk1 : s1.length ≤ 1048576) (hn0 : ∀ xs ∈ s0, xs.length ≤ 1048576) (hn1 : ∀ xs ∈ s1, xs.length ≤ 1048576) (w' : World) (p q p' q' : Value) (r0 : Rd w' w'.heap.size p (fl a0)) (t0 : RdL w' w'.heap.size q (fll s0)) (r1 : Rd w' w'.heap.size p' (fl a1)) (t1 : RdL w' w'.heap.size q' (fll s1)) => (show Calls Try.prog 43 #[.agg #[p, q], .agg #[p', q']] w' (RetBB b w') by rw [hbe]; exact sbS_any p q p' q' a0 a1 s0 s1 w' r0 t0 r1 t1 hm0 hm1 hk0 hk1 hn0 hn1 HX0.out HX1.out HZ0.out HZ1.out))
  have HI0 := Lib.hid (fun (hm0 : a0.length ≤ 1048576) (hm1 : a1.length ≤ 1048576) (hk0 : s0.length ≤ 1048576) (hk1 : s1.length ≤ 1048576) (hn0 : ∀ xs ∈ s0, xs.length ≤ 1048576) (hn1 : ∀ xs ∈ s1, xs.length ≤ 1048576) (w' : World) (p q p' q' : Value) (r0 : Rd w' w'.heap.size p (fl a0)) (t0 : RdL w' w'.heap.size q (fll s0)) (r1 : Rd w' w'.heap.size p' (fl a1)) (t1 : RdL w' w'.heap.size q' (fll s1)) => (show Calls Try.prog 44 #[.agg #[p, q], .agg #[p', q']] w' (RetBB b w') by rw [hbe]; exact sbI_any p q p' q' a0 a1 s0 s1 w' r0 t0 r1 t1 hm0 hm1 hk0 hk1 hn0 hn1 HX0.out HX1.out HZ0.out HZ1.out))
  clear hbe
  go_enter Try.func11, Try.ntmps11
  have F_a0_w : Rd w w.heap.size (.slice A0 a0.length c0) (fl a0) := h0
  have F_s0_w : RdL w w.heap.size u0 (fll s0) := k0
  have F_a1_w : Rd w w.heap.size (.slice A1 a1.length c1) (fl a1) := h1
  have F_s1_w : RdL w w.heap.size u1 (fll s1) := k1
  have B_w : Below w.heap.size w w := Below.refl _ _
  clear h0 h1 k0 k1
  go_wp2_with fail
  have hb1 : Below w.heap.size w (w.alloc (.cells #[(.slice A0 a0.length c0), u0] 47)) := (Below.refl _ _).alloc (Nat.le_refl _) _
  have O1 := own_box2 w ((.slice A0 a0.length c0)) (u0) 47
  have hs1 : (w.alloc (.cells #[(.slice A0 a0.length c0), u0] 47)).heap.size = w.heap.size + 1 := by simp
  generalize w.alloc (.cells #[(.slice A0 a0.length c0), u0] 47) = w1 at *
  have F_a0_w1 : Rd w1 w.heap.size (.slice A0 a0.length c0) (fl a0) := F_a0_w.below (hb1.mono B_w.size)
  have F_s0_w1 : RdL w1 w.heap.size u0 (fll s0) := F_s0_w.below (hb1.mono B_w.size)
  have F_a1_w1 : Rd w1 w.heap.size (.slice A1 a1.length c1) (fl a1) := F_a1_w.below (hb1.mono B_w.size)
  have F_s1_w1 : RdL w1 w.heap.size u1 (fll s1) := F_s1_w.below (hb1.mono B_w.size)
  have B_w1 : Below w.heap.size w w1 := B_w.trans (hb1.mono B_w.size)
  have S_pa0 : w.heap.size ≤ w.heap.size := B_w.size
  clear F_a0_w F_s0_w F_a1_w F_s1_w B_w
  have F_pa0_w1 : In w1 w.heap.size w1.heap.size (.slice (some ⟨w.heap.size, 0, none⟩) 2 2) ([(.slice A0 a0.length c0), u0]) := In.made O1
  have T_pa0_w1 : w1.heap.size ≤ w1.heap.size := Nat.le_refl _
  clear O1
  clear hb1
  have hb2 : Below w1.heap.size w1 (w1.alloc (.cells #[(.slice A1 a1.length c1), u1] 47)) := (Below.refl _ _).alloc (Nat.le_refl _) _
  have O2 := own_box2 w1 ((.slice A1 a1.length c1)) (u1) 47
  have hs2 : (w1.alloc (.cells #[(.slice A1 a1.length c1), u1] 47)).heap.size = w1.heap.size + 1 := by simp
  generalize w1.alloc (.cells #[(.slice A1 a1.length c1), u1] 47) = w2 at *
  have F_a0_w2 : Rd w2 w.heap.size (.slice A0 a0.length c0) (fl a0) := F_a0_w1.below (hb2.mono B_w1.size)
  have F_s0_w2 : RdL w2 w.heap.size u0 (fll s0) := F_s0_w1.below (hb2.mono B_w1.size)
  have F_a1_w2 : Rd w2 w.heap.size (.slice A1 a1.length c1) (fl a1) := F_a1_w1.below (hb2.mono B_w1.size)
  have F_s1_w2 : RdL w2 w.heap.size u1 (fll s1) := F_s1_w1.below (hb2.mono B_w1.size)
  have F_pa0_w2 : In w2 w.heap.size w1.heap.size (.slice (some ⟨w.heap.size, 0, none⟩) 2 2) ([(.slice A0 a0.length c0), u0]) := F_pa0_w1.step hb2
  have T_pa0_w2 : w1.heap.size ≤ w2.heap.size := Nat.le_trans T_pa0_w1 hb2.size
  have B_w2 : Below w.heap.size w w2 := B_w1.trans (hb2.mono B_w1.size)
  have S_pa1 : w.heap.size ≤ w1.heap.size := B_w1.size
  have D_pa0_pa1 : w1.heap.size ≤ w1.heap.size := T_pa0_w1
  clear F_a0_w1 F_s0_w1 F_a1_w1 F_s1_w1 F_pa0_w1 T_pa0_w1 B_w1
  have F_pa1_w2 : In w2 w1.heap.size w2.heap.size (.slice (some ⟨w1.heap.size, 0, none⟩) 2 2) ([(.slice A1 a1.length c1), u1]) := In.made O2
  have T_pa1_w2 : w2.heap.size ≤ w2.heap.size := Nat.le_refl _
  clear O2
  clear hb2
  rw [hs1] at F_pa0_w2 T_pa0_w2 F_pa1_w2 D_pa0_pa1 S_pa1
  clear hs1 hs2
  refine (szBands_any _ _ a0 s0 (1048576) _ (F_a0_w2.more B_w2.size) (F_s0_w2.more B_w2.size) (by omega) (by omega) hle0).mono ?_
  rintro e w3 ⟨rfl, hb3⟩
  have F_a0_w3 : Rd w3 w.heap.size (.slice A0 a0.length c0) (fl a0) := F_a0_w2.below (hb3.mono B_w2.size)
  have F_s0_w3 : RdL w3 w.heap.size u0 (fll s0) := F_s0_w2.below (hb3.mono B_w2.size)
  have F_a1_w3 : Rd w3 w.heap.size (.slice A1 a1.length c1) (fl a1) := F_a1_w2.below (hb3.mono B_w2.size)
  have F_s1_w3 : RdL w3 w.heap.size u1 (fll s1) := F_s1_w2.below (hb3.mono B_w2.size)
  have F_pa0_w3 : In w3 w.heap.size (w.heap.size + 1) (.slice (some ⟨w.heap.size, 0, none⟩) 2 2) ([(.slice A0 a0.length c0), u0]) := F_pa0_w2.step hb3
  have T_pa0_w3 : (w.heap.size + 1) ≤ w3.heap.size := Nat.le_trans T_pa0_w2 hb3.size
  have F_pa1_w3 : In w3 (w.heap.size + 1) w2.heap.size (.slice (some ⟨w.heap.size + 1, 0, none⟩) 2 2) ([(.slice A1 a1.length c1), u1]) := F_pa1_w2.step hb3
  have T_pa1_w3 : w2.heap.size ≤ w3.heap.size := Nat.le_trans T_pa1_w2 hb3.size
  have B_w3 : Below w.heap.size w w3 := B_w2.trans (hb3.mono B_w2.size)
  clear F_a0_w2 F_s0_w2 F_a1_w2 F_s1_w2 F_pa0_w2 T_pa0_w2 F_pa1_w2 T_pa1_w2 B_w2
  clear hb3
  obtain ⟨l0, hl0⟩ : ∃ l0 : Int, l0 = szB (1048576) a0 s0 := ⟨_, rfl⟩
  rw [← hl0]
  by_cases hneg0 : l0 < 0
  · go_wp2_with fail
    go_ret
    exact ⟨rfl, B_w3⟩
  have hok0 := szB_ok (show 0 ≤ szB (1048576) a0 s0 by rw [← hl0]; omega)
  rw [← hl0] at hok0
  have hp0 : 0 ≤ l0 := by omega
  have hq0 : l0 ≤ 1048576 := by omega
  have hm0 : a0.length ≤ 1048576 := by omega
  have hk0 : s0.length ≤ 1048576 := by omega
  have ht0 : ofsF s0 s0.length ≤ 1048576 := by omega
  have HN0 := Lib.hid (fun xs hxs => Nat.le_trans (ofsF_mem hxs) ht0 : ∀ xs ∈ s0, xs.length ≤ 1048576)
  clear hok0 hl0 hneg0
  obtain ⟨_, Z_pa1_w3, c71, _⟩ := F_pa1_w3.1.cells' (by decide)
  have Q_pa10_w3 : w3.cell? ⟨w.heap.size + 1, 0, none⟩ = some (.slice A1 a1.length c1) := c71 0 _ rfl
  have Q_pa11_w3 : w3.cell? ⟨w.heap.size + 1, 1, none⟩ = some u1 := c71 1 _ rfl
  clear c71
  go_wp2_with fail
  refine (szBands_any _ _ a1 s1 (l0) _ (F_a1_w3.more B_w3.size) (F_s1_w3.more B_w3.size) (by omega) (by omega) hle1).mono ?_
  rintro e w4 ⟨rfl, hb4⟩
  clear Z_pa1_w3 Q_pa10_w3 Q_pa11_w3
  have F_a0_w4 : Rd w4 w.heap.size (.slice A0 a0.length c0) (fl a0) := F_a0_w3.below (hb4.mono B_w3.size)
  have F_s0_w4 : RdL w4 w.heap.size u0 (fll s0) := F_s0_w3.below (hb4.mono B_w3.size)
  have F_a1_w4 : Rd w4 w.heap.size (.slice A1 a1.length c1) (fl a1) := F_a1_w3.below (hb4.mono B_w3.size)
  have F_s1_w4 : RdL w4 w.heap.size u1 (fll s1) := F_s1_w3.below (hb4.mono B_w3.size)
  have F_pa0_w4 : In w4 w.heap.size (w.heap.size + 1) (.slice (some ⟨w.heap.size, 0, none⟩) 2 2) ([(.slice A0 a0.length c0), u0]) := F_pa0_w3.step hb4
  have T_pa0_w4 : (w.heap.size + 1) ≤ w4.heap.size := Nat.le_trans T_pa0_w3 hb4.size
  have F_pa1_w4 : In w4 (w.heap.size + 1) w2.heap.size (.slice (some ⟨w.heap.size + 1, 0, none⟩) 2 2) ([(.slice A1 a1.length c1), u1]) := F_pa1_w3.step hb4
  have T_pa1_w4 : w2.heap.size ≤ w4.heap.size := Nat.le_trans T_pa1_w3 hb4.size
  have B_w4 : Below w.heap.size w w4 := B_w3.trans (hb4.mono B_w3.size)
  clear F_a0_w3 F_s0_w3 F_a1_w3 F_s1_w3 F_pa0_w3 T_pa0_w3 F_pa1_w3 T_pa1_w3 B_w3
  clear hb4
  obtain ⟨l1, hl1⟩ : ∃ l1 : Int, l1 = szB (l0) a1 s1 := ⟨_, rfl⟩
  rw [← hl1]
  by_cases hneg1 : l1 < 0
  · go_wp2_with fail
    go_ret
    exact ⟨rfl, B_w4⟩
  have hok1 := szB_ok (show 0 ≤ szB (l0) a1 s1 by rw [← hl1]; omega)
  rw [← hl1] at hok1
  have hp1 : 0 ≤ l1 := by omega
  have hq1 : l1 ≤ 1048576 := by omega
  have hm1 : a1.length ≤ 1048576 := by omega
  have hk1 : s1.length ≤ 1048576 := by omega
  have ht1 : ofsF s1 s1.length ≤ 1048576 := by omega
  have HN1 := Lib.hid (fun xs hxs => Nat.le_trans (ofsF_mem hxs) ht1 : ∀ xs ∈ s1, xs.length ≤ 1048576)
  clear hok1 hl1 hneg1
  have HS := Lib.hid (HS0.out hm0 hm1 hk0 hk1 HN0.out HN1.out)
  have HI := Lib.hid (HI0.out hm0 hm1 hk0 hk1 HN0.out HN1.out)
  clear HS0 HI0
  obtain ⟨_, Z_pa0_w4, c108, _⟩ := F_pa0_w4.1.cells' (by decide)
  have Q_pa00_w4 : w4.cell? ⟨w.heap.size, 0, none⟩ = some (.slice A0 a0.length c0) := c108 0 _ rfl
  have Q_pa01_w4 : w4.cell? ⟨w.heap.size, 1, none⟩ = some u0 := c108 1 _ rfl
  clear c108
  obtain ⟨_, Z_pa1_w4, c112, _⟩ := F_pa1_w4.1.cells' (by decide)
  have Q_pa10_w4 : w4.cell? ⟨w.heap.size + 1, 0, none⟩ = some (.slice A1 a1.length c1) := c112 0 _ rfl
  have Q_pa11_w4 : w4.cell? ⟨w.heap.size + 1, 1, none⟩ = some u1 := c112 1 _ rfl
  clear c112
  have E_a0_w4 : Rd w4 w4.heap.size (.slice A0 a0.length c0) (fl a0) := (F_a0_w4.more B_w4.size)
  have E_s0_w4 : RdL w4 w4.heap.size u0 (fll s0) := (F_s0_w4.more B_w4.size)
  have E_a1_w4 : Rd w4 w4.heap.size (.slice A1 a1.length c1) (fl a1) := (F_a1_w4.more B_w4.size)
  have E_s1_w4 : RdL w4 w4.heap.size u1 (fll s1) := (F_s1_w4.more B_w4.size)
  go_wp2_with fail
  go_region_held3 (fun w' => w'.cell? ⟨w.heap.size, 0, none⟩ = some (.slice A0 a0.length c0) ∧ w'.cell? ⟨w.heap.size, 1, none⟩ = some u0 ∧ w'.cell? ⟨w.heap.size + 1, 0, none⟩ = some (.slice A1 a1.length c1) ∧ w'.cell? ⟨w.heap.size + 1, 1, none⟩ = some u1) (first | exact ⟨Q_pa00_w4, Q_pa01_w4, Q_pa10_w4, Q_pa11_w4⟩ | exact ⟨Q_pa00_w5, Q_pa01_w5, Q_pa10_w5, Q_pa11_w5⟩ | exact ⟨Q_pa00_w6, Q_pa01_w6, Q_pa10_w6, Q_pa11_w6⟩ | exact ⟨Q_pa00_w7, Q_pa01_w7, Q_pa10_w7, Q_pa11_w7⟩) ((first | (go_at_call_of 40 A0; refine (toBands_any (.slice A0 a0.length c0) u0 a0 s0 _ ?_ ?_ hm0 hk0 ht0).mono ?_; exact E_a0_w4; exact E_s0_w4; rintro e w5 ⟨g5, f5, md5, rfl, P5, R5, ml5, mh5, hb5⟩; replace hb5 : Below w4.heap.size w4 w5 := below_draw1 hb5; replace P5 : In w5 w4.heap.size md5 (.slice (some ⟨g5, 0, none⟩) a0.length a0.length) (fl a0) := P5; replace R5 : InL w5 md5 w5.heap.size (.slice (some ⟨f5, 0, none⟩) s0.length s0.length) (fll s0) := R5; have E_a0_w5 := E_a0_w4.step hb5; have E_s0_w5 := E_s0_w4.step hb5; have E_a1_w5 := E_a1_w4.step hb5; have E_s1_w5 := E_s1_w4.step hb5; have Q_pa00_w5 : w5.cell? ⟨w.heap.size, 0, none⟩ = some (.slice A0 a0.length c0) := (hb5.cell (p := ⟨w.heap.size, 0, none⟩) Z_pa0_w4).trans Q_pa00_w4; have Q_pa01_w5 : w5.cell? ⟨w.heap.size, 1, none⟩ = some u0 := (hb5.cell (p := ⟨w.heap.size, 1, none⟩) Z_pa0_w4).trans Q_pa01_w4; have Z_pa0_w5 := Nat.lt_of_lt_of_le Z_pa0_w4 hb5.size; have Q_pa10_w5 : w5.cell? ⟨w.heap.size + 1, 0, none⟩ = some (.slice A1 a1.length c1) := (hb5.cell (p := ⟨w.heap.size + 1, 0, none⟩) Z_pa1_w4).trans Q_pa10_w4; have Q_pa11_w5 : w5.cell? ⟨w.heap.size + 1, 1, none⟩ = some u1 := (hb5.cell (p := ⟨w.heap.size + 1, 1, none⟩) Z_pa1_w4).trans Q_pa11_w4; have Z_pa1_w5 := Nat.lt_of_lt_of_le Z_pa1_w4 hb5.size; have E_ca0_w5 := P5.rd; have E_cs0_w5 := R5.rd) | (go_at_call_of 40 A1; refine (toBands_any (.slice A1 a1.length c1) u1 a1 s1 _ ?_ ?_ hm1 hk1 ht1).mono ?_; exact E_a1_w5; exact E_s1_w5; rintro e w6 ⟨g6, f6, md6, rfl, P6, R6, ml6, mh6, hb6⟩; have E_a0_w6 := E_a0_w5.step hb6; have E_s0_w6 := E_s0_w5.step hb6; have E_a1_w6 := E_a1_w5.step hb6; have E_s1_w6 := E_s1_w5.step hb6; have E_ca0_w6 := E_ca0_w5.step hb6; have E_cs0_w6 := E_cs0_w5.step hb6; have Q_pa00_w6 : w6.cell? ⟨w.heap.size, 0, none⟩ = some (.slice A0 a0.length c0) := (hb6.cell (p := ⟨w.heap.size, 0, none⟩) Z_pa0_w5).trans Q_pa00_w5; have Q_pa01_w6 : w6.cell? ⟨w.heap.size, 1, none⟩ = some u0 := (hb6.cell (p := ⟨w.heap.size, 1, none⟩) Z_pa0_w5).trans Q_pa01_w5; have Z_pa0_w6 := Nat.lt_of_lt_of_le Z_pa0_w5 hb6.size; have Q_pa10_w6 : w6.cell? ⟨w.heap.size + 1, 0, none⟩ = some (.slice A1 a1.length c1) := (hb6.cell (p := ⟨w.heap.size + 1, 0, none⟩) Z_pa1_w5).trans Q_pa10_w5; have Q_pa11_w6 : w6.cell? ⟨w.heap.size + 1, 1, none⟩ = some u1 := (hb6.cell (p := ⟨w.heap.size + 1, 1, none⟩) Z_pa1_w5).trans Q_pa11_w5; have Z_pa1_w6 := Nat.lt_of_lt_of_le Z_pa1_w5 hb6.size; have E_ca1_w6 := P6.rd; have E_cs1_w6 := R6.rd) | (go_at_call 43; refine (HS.out _ _ _ _ _ ?_ ?_ ?_ ?_).mono ?_; exact E_ca0_w6; exact E_cs0_w6; exact E_ca1_w6; exact E_cs1_w6; rintro e w7 ⟨rfl, hb7⟩; have E_a0_w7 := E_a0_w6.step hb7; have E_s0_w7 := E_s0_w6.step hb7; have E_a1_w7 := E_a1_w6.step hb7; have E_s1_w7 := E_s1_w6.step hb7; have E_ca0_w7 := E_ca0_w6.step hb7; have E_cs0_w7 := E_cs0_w6.step hb7; have E_ca1_w7 := E_ca1_w6.step hb7; have E_cs1_w7 := E_cs1_w6.step hb7; have Q_pa00_w7 : w7.cell? ⟨w.heap.size, 0, none⟩ = some (.slice A0 a0.length c0) := (hb7.cell (p := ⟨w.heap.size, 0, none⟩) Z_pa0_w6).trans Q_pa00_w6; have Q_pa01_w7 : w7.cell? ⟨w.heap.size, 1, none⟩ = some u0 := (hb7.cell (p := ⟨w.heap.size, 1, none⟩) Z_pa0_w6).trans Q_pa01_w6; have Z_pa0_w7 := Nat.lt_of_lt_of_le Z_pa0_w6 hb7.size; have Q_pa10_w7 : w7.cell? ⟨w.heap.size + 1, 0, none⟩ = some (.slice A1 a1.length c1) := (hb7.cell (p := ⟨w.heap.size + 1, 0, none⟩) Z_pa1_w6).trans Q_pa10_w6; have Q_pa11_w7 : w7.cell? ⟨w.heap.size + 1, 1, none⟩ = some u1 := (hb7.cell (p := ⟨w.heap.size + 1, 1, none⟩) Z_pa1_w6).trans Q_pa11_w6; have Z_pa1_w7 := Nat.lt_of_lt_of_le Z_pa1_w6 hb7.size)))
  have hc8 : Below w4.heap.size w4 w7 := ((hb5.trans (hb6.mono (by have := hb5.size; omega))).trans (hb7.mono (by have := hb5.size; have := hb6.size; omega)))
  clear E_a0_w5 E_s0_w5 E_a1_w5 E_s1_w5 Q_pa00_w5 Q_pa01_w5 Z_pa0_w5 Q_pa10_w5 Q_pa11_w5 Z_pa1_w5 E_ca0_w5 E_cs0_w5 E_a0_w6 E_s0_w6 E_a1_w6 E_s1_w6 E_ca0_w6 E_cs0_w6 Q_pa00_w6 Q_pa01_w6 Z_pa0_w6 Q_pa10_w6 Q_pa11_w6 Z_pa1_w6 E_ca1_w6 E_cs1_w6 E_a0_w7 E_s0_w7 E_a1_w7 E_s1_w7 E_ca0_w7 E_cs0_w7 E_ca1_w7 E_cs1_w7 Q_pa00_w7 Q_pa01_w7 Z_pa0_w7 Q_pa10_w7 Q_pa11_w7 Z_pa1_w7 Z_pa0_w4 Q_pa00_w4 Q_pa01_w4 Z_pa1_w4 Q_pa10_w4 Q_pa11_w4 E_a0_w4 E_s0_w4 E_a1_w4 E_s1_w4
  have F_a0_w7 : Rd w7 w.heap.size (.slice A0 a0.length c0) (fl a0) := F_a0_w4.below (hc8.mono B_w4.size)
  have F_s0_w7 : RdL w7 w.heap.size u0 (fll s0) := F_s0_w4.below (hc8.mono B_w4.size)
  have F_a1_w7 : Rd w7 w.heap.size (.slice A1 a1.length c1) (fl a1) := F_a1_w4.below (hc8.mono B_w4.size)
  have F_s1_w7 : RdL w7 w.heap.size u1 (fll s1) := F_s1_w4.below (hc8.mono B_w4.size)
  have F_pa0_w7 : In w7 w.heap.size (w.heap.size + 1) (.slice (some ⟨w.heap.size, 0, none⟩) 2 2) ([(.slice A0 a0.length c0), u0]) := F_pa0_w4.step hc8
  have T_pa0_w7 : (w.heap.size + 1) ≤ w7.heap.size := Nat.le_trans T_pa0_w4 hc8.size
  have F_pa1_w7 : In w7 (w.heap.size + 1) w2.heap.size (.slice (some ⟨w.heap.size + 1, 0, none⟩) 2 2) ([(.slice A1 a1.length c1), u1]) := F_pa1_w4.step hc8
  have T_pa1_w7 : w2.heap.size ≤ w7.heap.size := Nat.le_trans T_pa1_w4 hc8.size
  have B_w7 : Below w.heap.size w w7 := B_w4.trans (hc8.mono B_w4.size)
  clear F_a0_w4 F_s0_w4 F_a1_w4 F_s1_w4 F_pa0_w4 T_pa0_w4 F_pa1_w4 T_pa1_w4 B_w4
  clear hc8
  obtain ⟨_, Z_pa0_w7, c135, _⟩ := F_pa0_w7.1.cells' (by decide)
  have Q_pa00_w7 : w7.cell? ⟨w.heap.size, 0, none⟩ = some (.slice A0 a0.length c0) := c135 0 _ rfl
  have Q_pa01_w7 : w7.cell? ⟨w.heap.size, 1, none⟩ = some u0 := c135 1 _ rfl
  clear c135
  go_wp2_with fail
  refine (toBands_any _ _ a0 s0 _ (F_a0_w7.more B_w7.size) (F_s0_w7.more B_w7.size) hm0 hk0 ht0).mono ?_
  rintro e w9 ⟨g9, f9, md9, rfl, P9, R9, ml9, mh9, hb9⟩
  clear Z_pa0_w7 Q_pa00_w7 Q_pa01_w7
  have D_pa0_xa0 : (w.heap.size + 1) ≤ w7.heap.size := T_pa0_w7
  have D_pa0_xs0 : (w.heap.size + 1) ≤ md9 := Nat.le_trans T_pa0_w7 ml9
  have D_pa1_xa0 : w2.heap.size ≤ w7.heap.size := T_pa1_w7
  have D_pa1_xs0 : w2.heap.size ≤ md9 := Nat.le_trans T_pa1_w7 ml9
  have S_xa0 : w.heap.size ≤ w7.heap.size := B_w7.size
  have S_xs0 : w.heap.size ≤ md9 := Nat.le_trans B_w7.size ml9
  have D_xa0_xs0 : md9 ≤ md9 := Nat.le_refl _
  have F_a0_w9 : Rd w9 w.heap.size (.slice A0 a0.length c0) (fl a0) := F_a0_w7.below (hb9.mono B_w7.size)
  have F_s0_w9 : RdL w9 w.heap.size u0 (fll s0) := F_s0_w7.below (hb9.mono B_w7.size)
  have F_a1_w9 : Rd w9 w.heap.size (.slice A1 a1.length c1) (fl a1) := F_a1_w7.below (hb9.mono B_w7.size)
  have F_s1_w9 : RdL w9 w.heap.size u1 (fll s1) := F_s1_w7.below (hb9.mono B_w7.size)
  have F_pa0_w9 : In w9 w.heap.size (w.heap.size + 1) (.slice (some ⟨w.heap.size, 0, none⟩) 2 2) ([(.slice A0 a0.length c0), u0]) := F_pa0_w7.step hb9
  have T_pa0_w9 : (w.heap.size + 1) ≤ w9.heap.size := Nat.le_trans T_pa0_w7 hb9.size
  have F_pa1_w9 : In w9 (w.heap.size + 1) w2.heap.size (.slice (some ⟨w.heap.size + 1, 0, none⟩) 2 2) ([(.slice A1 a1.length c1), u1]) := F_pa1_w7.step hb9
  have T_pa1_w9 : w2.heap.size ≤ w9.heap.size := Nat.le_trans T_pa1_w7 hb9.size
  have B_w9 : Below w.heap.size w w9 := B_w7.trans (hb9.mono B_w7.size)
  clear F_a0_w7 F_s0_w7 F_a1_w7 F_s1_w7 F_pa0_w7 T_pa0_w7 F_pa1_w7 T_pa1_w7 B_w7
  have F_xa0_w9 := P9
  have F_xs0_w9 := R9
  have T_xa0_w9 : md9 ≤ w9.heap.size := mh9
  have T_xs0_w9 : w9.heap.size ≤ w9.heap.size := Nat.le_refl _
  clear P9 R9 hb9
  obtain ⟨_, Z_pa1_w9, c165, _⟩ := F_pa1_w9.1.cells' (by decide)
  have Q_pa10_w9 : w9.cell? ⟨w.heap.size + 1, 0, none⟩ = some (.slice A1 a1.length c1) := c165 0 _ rfl
  have Q_pa11_w9 : w9.cell? ⟨w.heap.size + 1, 1, none⟩ = some u1 := c165 1 _ rfl
  clear c165
  go_wp2_with fail
  clear Z_pa1_w9 Q_pa10_w9 Q_pa11_w9
  have hb10 : Below w9.heap.size w9 (w9.alloc (.cells #[(.slice (some ⟨g9, 0, none⟩) a0.length a0.length), (.slice (some ⟨f9, 0, none⟩) s0.length s0.length)] 50)) := (Below.refl _ _).alloc (Nat.le_refl _) _
  have O10 := own_box2 w9 ((.slice (some ⟨g9, 0, none⟩) a0.length a0.length)) ((.slice (some ⟨f9, 0, none⟩) s0.length s0.length)) 50
  generalize w9.alloc (.cells #[(.slice (some ⟨g9, 0, none⟩) a0.length a0.length), (.slice (some ⟨f9, 0, none⟩) s0.length s0.length)] 50) = w10 at *
  have F_a0_w10 : Rd w10 w.heap.size (.slice A0 a0.length c0) (fl a0) := F_a0_w9.below (hb10.mono B_w9.size)
  have F_s0_w10 : RdL w10 w.heap.size u0 (fll s0) := F_s0_w9.below (hb10.mono B_w9.size)
  have F_a1_w10 : Rd w10 w.heap.size (.slice A1 a1.length c1) (fl a1) := F_a1_w9.below (hb10.mono B_w9.size)
  have F_s1_w10 : RdL w10 w.heap.size u1 (fll s1) := F_s1_w9.below (hb10.mono B_w9.size)
  have F_pa0_w10 : In w10 w.heap.size (w.heap.size + 1) (.slice (some ⟨w.heap.size, 0, none⟩) 2 2) ([(.slice A0 a0.length c0), u0]) := F_pa0_w9.step hb10
  have T_pa0_w10 : (w.heap.size + 1) ≤ w10.heap.size := Nat.le_trans T_pa0_w9 hb10.size
  have F_pa1_w10 : In w10 (w.heap.size + 1) w2.heap.size (.slice (some ⟨w.heap.size + 1, 0, none⟩) 2 2) ([(.slice A1 a1.length c1), u1]) := F_pa1_w9.step hb10
  have T_pa1_w10 : w2.heap.size ≤ w10.heap.size := Nat.le_trans T_pa1_w9 hb10.size
  have F_xa0_w10 : In w10 w7.heap.size md9 (.slice (some ⟨g9, 0, none⟩) a0.length a0.length) (fl a0) := F_xa0_w9.step hb10
  have T_xa0_w10 : md9 ≤ w10.heap.size := Nat.le_trans T_xa0_w9 hb10.size
  have F_xs0_w10 : InL w10 md9 w9.heap.size (.slice (some ⟨f9, 0, none⟩) s0.length s0.length) (fll s0) := F_xs0_w9.step hb10
  have T_xs0_w10 : w9.heap.size ≤ w10.heap.size := Nat.le_trans T_xs0_w9 hb10.size
  have B_w10 : Below w.heap.size w w10 := B_w9.trans (hb10.mono B_w9.size)
  have S_px0 : w.heap.size ≤ w9.heap.size := B_w9.size
  have D_pa0_px0 : (w.heap.size + 1) ≤ w9.heap.size := T_pa0_w9
  have D_pa1_px0 : w2.heap.size ≤ w9.heap.size := T_pa1_w9
  have D_xa0_px0 : md9 ≤ w9.heap.size := T_xa0_w9
  have D_xs0_px0 : w9.heap.size ≤ w9.heap.size := T_xs0_w9
  clear F_a0_w9 F_s0_w9 F_a1_w9 F_s1_w9 F_pa0_w9 T_pa0_w9 F_pa1_w9 T_pa1_w9 F_xa0_w9 T_xa0_w9 F_xs0_w9 T_xs0_w9 B_w9
  have F_px0_w10 : In w10 w9.heap.size w10.heap.size (.slice (some ⟨w9.heap.size, 0, none⟩) 2 2) ([(.slice (some ⟨g9, 0, none⟩) a0.length a0.length), (.slice (some ⟨f9, 0, none⟩) s0.length s0.length)]) := In.made O10
  have T_px0_w10 : w10.heap.size ≤ w10.heap.size := Nat.le_refl _
  clear O10
  clear hb10
  refine (toBands_any _ _ a1 s1 _ (F_a1_w10.more B_w10.size) (F_s1_w10.more B_w10.size) hm1 hk1 ht1).mono ?_
  rintro e w11 ⟨g11, f11, md11, rfl, P11, R11, ml11, mh11, hb11⟩
  have D_pa0_xa1 : (w.heap.size + 1) ≤ w10.heap.size := T_pa0_w10
  have D_pa0_xs1 : (w.heap.size + 1) ≤ md11 := Nat.le_trans T_pa0_w10 ml11
  have D_pa1_xa1 : w2.heap.size ≤ w10.heap.size := T_pa1_w10
  have D_pa1_xs1 : w2.heap.size ≤ md11 := Nat.le_trans T_pa1_w10 ml11
  have D_xa0_xa1 : md9 ≤ w10.heap.size := T_xa0_w10
  have D_xa0_xs1 : md9 ≤ md11 := Nat.le_trans T_xa0_w10 ml11
  have D_xs0_xa1 : w9.heap.size ≤ w10.heap.size := T_xs0_w10
  have D_xs0_xs1 : w9.heap.size ≤ md11 := Nat.le_trans T_xs0_w10 ml11
  have D_px0_xa1 : w10.heap.size ≤ w10.heap.size := T_px0_w10
  have D_px0_xs1 : w10.heap.size ≤ md11 := Nat.le_trans T_px0_w10 ml11
  have S_xa1 : w.heap.size ≤ w10.heap.size := B_w10.size
  have S_xs1 : w.heap.size ≤ md11 := Nat.le_trans B_w10.size ml11
  have D_xa1_xs1 : md11 ≤ md11 := Nat.le_refl _
  have F_a0_w11 : Rd w11 w.heap.size (.slice A0 a0.length c0) (fl a0) := F_a0_w10.below (hb11.mono B_w10.size)
  have F_s0_w11 : RdL w11 w.heap.size u0 (fll s0) := F_s0_w10.below (hb11.mono B_w10.size)
  have F_a1_w11 : Rd w11 w.heap.size (.slice A1 a1.length c1) (fl a1) := F_a1_w10.below (hb11.mono B_w10.size)
  have F_s1_w11 : RdL w11 w.heap.size u1 (fll s1) := F_s1_w10.below (hb11.mono B_w10.size)
  have F_pa0_w11 : In w11 w.heap.size (w.heap.size + 1) (.slice (some ⟨w.heap.size, 0, none⟩) 2 2) ([(.slice A0 a0.length c0), u0]) := F_pa0_w10.step hb11
  have T_pa0_w11 : (w.heap.size + 1) ≤ w11.heap.size := Nat.le_trans T_pa0_w10 hb11.size
  have F_pa1_w11 : In w11 (w.heap.size + 1) w2.heap.size (.slice (some ⟨w.heap.size + 1, 0, none⟩) 2 2) ([(.slice A1 a1.length c1), u1]) := F_pa1_w10.step hb11
  have T_pa1_w11 : w2.heap.size ≤ w11.heap.size := Nat.le_trans T_pa1_w10 hb11.size
  have F_xa0_w11 : In w11 w7.heap.size md9 (.slice (some ⟨g9, 0, none⟩) a0.length a0.length) (fl a0) := F_xa0_w10.step hb11
  have T_xa0_w11 : md9 ≤ w11.heap.size := Nat.le_trans T_xa0_w10 hb11.size
  have F_xs0_w11 : InL w11 md9 w9.heap.size (.slice (some ⟨f9, 0, none⟩) s0.length s0.length) (fll s0) := F_xs0_w10.step hb11
  have T_xs0_w11 : w9.heap.size ≤ w11.heap.size := Nat.le_trans T_xs0_w10 hb11.size
  have F_px0_w11 : In w11 w9.heap.size w10.heap.size (.slice (some ⟨w9.heap.size, 0, none⟩) 2 2) ([(.slice (some ⟨g9, 0, none⟩) a0.length a0.length), (.slice (some ⟨f9, 0, none⟩) s0.length s0.length)]) := F_px0_w10.step hb11
  have T_px0_w11 : w10.heap.size ≤ w11.heap.size := Nat.le_trans T_px0_w10 hb11.size
  have B_w11 : Below w.heap.size w w11 := B_w10.trans (hb11.mono B_w10.size)
  clear F_a0_w10 F_s0_w10 F_a1_w10 F_s1_w10 F_pa0_w10 T_pa0_w10 F_pa1_w10 T_pa1_w10 F_xa0_w10 T_xa0_w10 F_xs0_w10 T_xs0_w10 F_px0_w10 T_px0_w10 B_w10
  have F_xa1_w11 := P11
  have F_xs1_w11 := R11
  have T_xa1_w11 : md11 ≤ w11.heap.size := mh11
  have T_xs1_w11 : w11.heap.size ≤ w11.heap.size := Nat.le_refl _
  clear P11 R11 hb11
  obtain ⟨_, Z_px0_w11, c233, _⟩ := F_px0_w11.1.cells' (by decide)
  have Q_px00_w11 : w11.cell? ⟨w9.heap.size, 0, none⟩ = some (.slice (some ⟨g9, 0, none⟩) a0.length a0.length) := c233 0 _ rfl
  have Q_px01_w11 : w11.cell? ⟨w9.heap.size, 1, none⟩ = some (.slice (some ⟨f9, 0, none⟩) s0.length s0.length) := c233 1 _ rfl
  clear c233
  go_wp2_with fail
  clear Z_px0_w11 Q_px00_w11 Q_px01_w11
  have hb12 : Below w11.heap.size w11 (w11.alloc (.cells #[(.slice (some ⟨g11, 0, none⟩) a1.length a1.length), (.slice (some ⟨f11, 0, none⟩) s1.length s1.length)] 50)) := (Below.refl _ _).alloc (Nat.le_refl _) _
  have O12 := own_box2 w11 ((.slice (some ⟨g11, 0, none⟩) a1.length a1.length)) ((.slice (some ⟨f11, 0, none⟩) s1.length s1.length)) 50
  generalize w11.alloc (.cells #[(.slice (some ⟨g11, 0, none⟩) a1.length a1.length), (.slice (some ⟨f11, 0, none⟩) s1.length s1.length)] 50) = w12 at *
  have F_a0_w12 : Rd w12 w.heap.size (.slice A0 a0.length c0) (fl a0) := F_a0_w11.below (hb12.mono B_w11.size)
  have F_s0_w12 : RdL w12 w.heap.size u0 (fll s0) := F_s0_w11.below (hb12.mono B_w11.size)
  have F_a1_w12 : Rd w12 w.heap.size (.slice A1 a1.length c1) (fl a1) := F_a1_w11.below (hb12.mono B_w11.size)
  have F_s1_w12 : RdL w12 w.heap.size u1 (fll s1) := F_s1_w11.below (hb12.mono B_w11.size)
  have F_pa0_w12 : In w12 w.heap.size (w.heap.size + 1) (.slice (some ⟨w.heap.size, 0, none⟩) 2 2) ([(.slice A0 a0.length c0), u0]) := F_pa0_w11.step hb12
  have T_pa0_w12 : (w.heap.size + 1) ≤ w12.heap.size := Nat.le_trans T_pa0_w11 hb12.size
  have F_pa1_w12 : In w12 (w.heap.size + 1) w2.heap.size (.slice (some ⟨w.heap.size + 1, 0, none⟩) 2 2) ([(.slice A1 a1.length c1), u1]) := F_pa1_w11.step hb12
  have T_pa1_w12 : w2.heap.size ≤ w12.heap.size := Nat.le_trans T_pa1_w11 hb12.size
  have F_xa0_w12 : In w12 w7.heap.size md9 (.slice (some ⟨g9, 0, none⟩) a0.length a0.length) (fl a0) := F_xa0_w11.step hb12
  have T_xa0_w12 : md9 ≤ w12.heap.size := Nat.le_trans T_xa0_w11 hb12.size
  have F_xs0_w12 : InL w12 md9 w9.heap.size (.slice (some ⟨f9, 0, none⟩) s0.length s0.length) (fll s0) := F_xs0_w11.step hb12
  have T_xs0_w12 : w9.heap.size ≤ w12.heap.size := Nat.le_trans T_xs0_w11 hb12.size
  have F_px0_w12 : In w12 w9.heap.size w10.heap.size (.slice (some ⟨w9.heap.size, 0, none⟩) 2 2) ([(.slice (some ⟨g9, 0, none⟩) a0.length a0.length), (.slice (some ⟨f9, 0, none⟩) s0.length s0.length)]) := F_px0_w11.step hb12
  have T_px0_w12 : w10.heap.size ≤ w12.heap.size := Nat.le_trans T_px0_w11 hb12.size
  have F_xa1_w12 : In w12 w10.heap.size md11 (.slice (some ⟨g11, 0, none⟩) a1.length a1.length) (fl a1) := F_xa1_w11.step hb12
  have T_xa1_w12 : md11 ≤ w12.heap.size := Nat.le_trans T_xa1_w11 hb12.size
  have F_xs1_w12 : InL w12 md11 w11.heap.size (.slice (some ⟨f11, 0, none⟩) s1.length s1.length) (fll s1) := F_xs1_w11.step hb12
  have T_xs1_w12 : w11.heap.size ≤ w12.heap.size := Nat.le_trans T_xs1_w11 hb12.size
  have B_w12 : Below w.heap.size w w12 := B_w11.trans (hb12.mono B_w11.size)
  have S_px1 : w.heap.size ≤ w11.heap.size := B_w11.size
  have D_pa0_px1 : (w.heap.size + 1) ≤ w11.heap.size := T_pa0_w11
  have D_pa1_px1 : w2.heap.size ≤ w11.heap.size := T_pa1_w11
  have D_xa0_px1 : md9 ≤ w11.heap.size := T_xa0_w11
  have D_xs0_px1 : w9.heap.size ≤ w11.heap.size := T_xs0_w11
  have D_px0_px1 : w10.heap.size ≤ w11.heap.size := T_px0_w11
  have D_xa1_px1 : md11 ≤ w11.heap.size := T_xa1_w11
  have D_xs1_px1 : w11.heap.size ≤ w11.heap.size := T_xs1_w11
  clear F_a0_w11 F_s0_w11 F_a1_w11 F_s1_w11 F_pa0_w11 T_pa0_w11 F_pa1_w11 T_pa1_w11 F_xa0_w11 T_xa0_w11 F_xs0_w11 T_xs0_w11 F_px0_w11 T_px0_w11 F_xa1_w11 T_xa1_w11 F_xs1_w11 T_xs1_w11 B_w11
  have F_px1_w12 : In w12 w11.heap.size w12.heap.size (.slice (some ⟨w11.heap.size, 0, none⟩) 2 2) ([(.slice (some ⟨g11, 0, none⟩) a1.length a1.length), (.slice (some ⟨f11, 0, none⟩) s1.length s1.length)]) := In.made O12
  have T_px1_w12 : w12.heap.size ≤ w12.heap.size := Nat.le_refl _
  clear O12
  clear hb12
  refine (HI.out _ _ _ _ _ F_xa0_w12.rd F_xs0_w12.rd F_xa1_w12.rd F_xs1_w12.rd).mono ?_
  rintro e w13 ⟨rfl, hb13⟩
  have F_a0_w13 : Rd w13 w.heap.size (.slice A0 a0.length c0) (fl a0) := F_a0_w12.below (hb13.mono B_w12.size)
  have F_s0_w13 : RdL w13 w.heap.size u0 (fll s0) := F_s0_w12.below (hb13.mono B_w12.size)
  have F_a1_w13 : Rd w13 w.heap.size (.slice A1 a1.length c1) (fl a1) := F_a1_w12.below (hb13.mono B_w12.size)
  have F_s1_w13 : RdL w13 w.heap.size u1 (fll s1) := F_s1_w12.below (hb13.mono B_w12.size)
  have F_pa0_w13 : In w13 w.heap.size (w.heap.size + 1) (.slice (some ⟨w.heap.size, 0, none⟩) 2 2) ([(.slice A0 a0.length c0), u0]) := F_pa0_w12.step hb13
  have T_pa0_w13 : (w.heap.size + 1) ≤ w13.heap.size := Nat.le_trans T_pa0_w12 hb13.size
  have F_pa1_w13 : In w13 (w.heap.size + 1) w2.heap.size (.slice (some ⟨w.heap.size + 1, 0, none⟩) 2 2) ([(.slice A1 a1.length c1), u1]) := F_pa1_w12.step hb13
  have T_pa1_w13 : w2.heap.size ≤ w13.heap.size := Nat.le_trans T_pa1_w12 hb13.size
  have F_xa0_w13 : In w13 w7.heap.size md9 (.slice (some ⟨g9, 0, none⟩) a0.length a0.length) (fl a0) := F_xa0_w12.step hb13
  have T_xa0_w13 : md9 ≤ w13.heap.size := Nat.le_trans T_xa0_w12 hb13.size
  have F_xs0_w13 : InL w13 md9 w9.heap.size (.slice (some ⟨f9, 0, none⟩) s0.length s0.length) (fll s0) := F_xs0_w12.step hb13
  have T_xs0_w13 : w9.heap.size ≤ w13.heap.size := Nat.le_trans T_xs0_w12 hb13.size
  have F_px0_w13 : In w13 w9.heap.size w10.heap.size (.slice (some ⟨w9.heap.size, 0, none⟩) 2 2) ([(.slice (some ⟨g9, 0, none⟩) a0.length a0.length), (.slice (some ⟨f9, 0, none⟩) s0.length s0.length)]) := F_px0_w12.step hb13
  have T_px0_w13 : w10.heap.size ≤ w13.heap.size := Nat.le_trans T_px0_w12 hb13.size
  have F_xa1_w13 : In w13 w10.heap.size md11 (.slice (some ⟨g11, 0, none⟩) a1.length a1.length) (fl a1) := F_xa1_w12.step hb13
  have T_xa1_w13 : md11 ≤ w13.heap.size := Nat.le_trans T_xa1_w12 hb13.size
  have F_xs1_w13 : InL w13 md11 w11.heap.size (.slice (some ⟨f11, 0, none⟩) s1.length s1.length) (fll s1) := F_xs1_w12.step hb13
  have T_xs1_w13 : w11.heap.size ≤ w13.heap.size := Nat.le_trans T_xs1_w12 hb13.size
  have F_px1_w13 : In w13 w11.heap.size w12.heap.size (.slice (some ⟨w11.heap.size, 0, none⟩) 2 2) ([(.slice (some ⟨g11, 0, none⟩) a1.length a1.length), (.slice (some ⟨f11, 0, none⟩) s1.length s1.length)]) := F_px1_w12.step hb13
  have T_px1_w13 : w12.heap.size ≤ w13.heap.size := Nat.le_trans T_px1_w12 hb13.size
  have B_w13 : Below w.heap.size w w13 := B_w12.trans (hb13.mono B_w12.size)
  clear F_a0_w12 F_s0_w12 F_a1_w12 F_s1_w12 F_pa0_w12 T_pa0_w12 F_pa1_w12 T_pa1_w12 F_xa0_w12 T_xa0_w12 F_xs0_w12 T_xs0_w12 F_px0_w12 T_px0_w12 F_xa1_w12 T_xa1_w12 F_xs1_w12 T_xs1_w12 F_px1_w12 T_px1_w12 B_w12
  clear hb13
  obtain ⟨_, Z_pa0_w13, c299, _⟩ := F_pa0_w13.1.cells' (by decide)
  have Q_pa00_w13 : w13.cell? ⟨w.heap.size, 0, none⟩ = some (.slice A0 a0.length c0) := c299 0 _ rfl
  have Q_pa01_w13 : w13.cell? ⟨w.heap.size, 1, none⟩ = some u0 := c299 1 _ rfl
  clear c299
  obtain ⟨_, Z_px0_w13, c303, _⟩ := F_px0_w13.1.cells' (by decide)
  have Q_px00_w13 : w13.cell? ⟨w9.heap.size, 0, none⟩ = some (.slice (some ⟨g9, 0, none⟩) a0.length a0.length) := c303 0 _ rfl
  have Q_px01_w13 : w13.cell? ⟨w9.heap.size, 1, none⟩ = some (.slice (some ⟨f9, 0, none⟩) s0.length s0.length) := c303 1 _ rfl
  clear c303
  have E_a0_w13 : Rd w13 w13.heap.size (.slice A0 a0.length c0) (fl a0) := (F_a0_w13.more B_w13.size)
  have E_s0_w13 : RdL w13 w13.heap.size u0 (fll s0) := (F_s0_w13.more B_w13.size)
  have E_xa0_w13 : Rd w13 w13.heap.size (.slice (some ⟨g9, 0, none⟩) a0.length a0.length) (fl a0) := F_xa0_w13.rd
  have E_xs0_w13 : RdL w13 w13.heap.size (.slice (some ⟨f9, 0, none⟩) s0.length s0.length) (fll s0) := F_xs0_w13.rd
  go_wp2_with fail
  go_region_held3 (fun w' => w'.cell? ⟨w.heap.size, 0, none⟩ = some (.slice A0 a0.length c0) ∧ w'.cell? ⟨w.heap.size, 1, none⟩ = some u0 ∧ w'.cell? ⟨w9.heap.size, 0, none⟩ = some (.slice (some ⟨g9, 0, none⟩) a0.length a0.length) ∧ w'.cell? ⟨w9.heap.size, 1, none⟩ = some (.slice (some ⟨f9, 0, none⟩) s0.length s0.length)) (first | exact ⟨Q_pa00_w13, Q_pa01_w13, Q_px00_w13, Q_px01_w13⟩ | exact ⟨Q_pa00_w14, Q_pa01_w14, Q_px00_w14, Q_px01_w14⟩ | exact ⟨Q_pa00_w15, Q_pa01_w15, Q_px00_w15, Q_px01_w15⟩) ((first | (go_at_call_of 40 A0; refine (toBands_any (.slice A0 a0.length c0) u0 a0 s0 _ ?_ ?_ hm0 hk0 ht0).mono ?_; exact E_a0_w13; exact E_s0_w13; rintro e w14 ⟨g14, f14, md14, rfl, P14, R14, ml14, mh14, hb14⟩; replace hb14 : Below w13.heap.size w13 w14 := below_draw1 hb14; replace P14 : In w14 w13.heap.size md14 (.slice (some ⟨g14, 0, none⟩) a0.length a0.length) (fl a0) := P14; replace R14 : InL w14 md14 w14.heap.size (.slice (some ⟨f14, 0, none⟩) s0.length s0.length) (fll s0) := R14; have E_a0_w14 := E_a0_w13.step hb14; have E_s0_w14 := E_s0_w13.step hb14; have E_xa0_w14 := E_xa0_w13.step hb14; have E_xs0_w14 := E_xs0_w13.step hb14; have Q_pa00_w14 : w14.cell? ⟨w.heap.size, 0, none⟩ = some (.slice A0 a0.length c0) := (hb14.cell (p := ⟨w.heap.size, 0, none⟩) Z_pa0_w13).trans Q_pa00_w13; have Q_pa01_w14 : w14.cell? ⟨w.heap.size, 1, none⟩ = some u0 := (hb14.cell (p := ⟨w.heap.size, 1, none⟩) Z_pa0_w13).trans Q_pa01_w13; have Z_pa0_w14 := Nat.lt_of_lt_of_le Z_pa0_w13 hb14.size; have Q_px00_w14 : w14.cell? ⟨w9.heap.size, 0, none⟩ = some (.slice (some ⟨g9, 0, none⟩) a0.length a0.length) := (hb14.cell (p := ⟨w9.heap.size, 0, none⟩) Z_px0_w13).trans Q_px00_w13; have Q_px01_w14 : w14.cell? ⟨w9.heap.size, 1, none⟩ = some (.slice (some ⟨f9, 0, none⟩) s0.length s0.length) := (hb14.cell (p := ⟨w9.heap.size, 1, none⟩) Z_px0_w13).trans Q_px01_w13; have Z_px0_w14 := Nat.lt_of_lt_of_le Z_px0_w13 hb14.size; have E_da0_w14 := P14.rd; have E_ds0_w14 := R14.rd) | (go_at_call 42; refine (eqBands_any _ _ _ _ a0 s0 _ ?_ ?_ ?_ ?_ hm0 hk0 HN0.out).mono ?_; exact E_xa0_w14; exact E_xs0_w14; exact E_da0_w14; exact E_ds0_w14; rintro e w15 ⟨rfl, hb15⟩; have E_a0_w15 := E_a0_w14.step hb15; have E_s0_w15 := E_s0_w14.step hb15; have E_xa0_w15 := E_xa0_w14.step hb15; have E_xs0_w15 := E_xs0_w14.step hb15; have E_da0_w15 := E_da0_w14.step hb15; have E_ds0_w15 := E_ds0_w14.step hb15; have Q_pa00_w15 : w15.cell? ⟨w.heap.size, 0, none⟩ = some (.slice A0 a0.length c0) := (hb15.cell (p := ⟨w.heap.size, 0, none⟩) Z_pa0_w14).trans Q_pa00_w14; have Q_pa01_w15 : w15.cell? ⟨w.heap.size, 1, none⟩ = some u0 := (hb15.cell (p := ⟨w.heap.size, 1, none⟩) Z_pa0_w14).trans Q_pa01_w14; have Z_pa0_w15 := Nat.lt_of_lt_of_le Z_pa0_w14 hb15.size; have Q_px00_w15 : w15.cell? ⟨w9.heap.size, 0, none⟩ = some (.slice (some ⟨g9, 0, none⟩) a0.length a0.length) := (hb15.cell (p := ⟨w9.heap.size, 0, none⟩) Z_px0_w14).trans Q_px00_w14; have Q_px01_w15 : w15.cell? ⟨w9.heap.size, 1, none⟩ = some (.slice (some ⟨f9, 0, none⟩) s0.length s0.length) := (hb15.cell (p := ⟨w9.heap.size, 1, none⟩) Z_px0_w14).trans Q_px01_w14; have Z_px0_w15 := Nat.lt_of_lt_of_le Z_px0_w14 hb15.size)))
  have hc16 : Below w13.heap.size w13 w15 := (hb14.trans (hb15.mono (by have := hb14.size; omega)))
  clear E_a0_w14 E_s0_w14 E_xa0_w14 E_xs0_w14 Q_pa00_w14 Q_pa01_w14 Z_pa0_w14 Q_px00_w14 Q_px01_w14 Z_px0_w14 E_da0_w14 E_ds0_w14 E_a0_w15 E_s0_w15 E_xa0_w15 E_xs0_w15 E_da0_w15 E_ds0_w15 Q_pa00_w15 Q_pa01_w15 Z_pa0_w15 Q_px00_w15 Q_px01_w15 Z_px0_w15 Z_pa0_w13 Q_pa00_w13 Q_pa01_w13 Z_px0_w13 Q_px00_w13 Q_px01_w13 E_a0_w13 E_s0_w13 E_xa0_w13 E_xs0_w13
  have F_a0_w15 : Rd w15 w.heap.size (.slice A0 a0.length c0) (fl a0) := F_a0_w13.below (hc16.mono B_w13.size)
  have F_s0_w15 : RdL w15 w.heap.size u0 (fll s0) := F_s0_w13.below (hc16.mono B_w13.size)
  have F_a1_w15 : Rd w15 w.heap.size (.slice A1 a1.length c1) (fl a1) := F_a1_w13.below (hc16.mono B_w13.size)
  have F_s1_w15 : RdL w15 w.heap.size u1 (fll s1) := F_s1_w13.below (hc16.mono B_w13.size)
  have F_pa0_w15 : In w15 w.heap.size (w.heap.size + 1) (.slice (some ⟨w.heap.size, 0, none⟩) 2 2) ([(.slice A0 a0.length c0), u0]) := F_pa0_w13.step hc16
  have T_pa0_w15 : (w.heap.size + 1) ≤ w15.heap.size := Nat.le_trans T_pa0_w13 hc16.size
  have F_pa1_w15 : In w15 (w.heap.size + 1) w2.heap.size (.slice (some ⟨w.heap.size + 1, 0, none⟩) 2 2) ([(.slice A1 a1.length c1), u1]) := F_pa1_w13.step hc16
  have T_pa1_w15 : w2.heap.size ≤ w15.heap.size := Nat.le_trans T_pa1_w13 hc16.size
  have F_xa0_w15 : In w15 w7.heap.size md9 (.slice (some ⟨g9, 0, none⟩) a0.length a0.length) (fl a0) := F_xa0_w13.step hc16
  have T_xa0_w15 : md9 ≤ w15.heap.size := Nat.le_trans T_xa0_w13 hc16.size
  have F_xs0_w15 : InL w15 md9 w9.heap.size (.slice (some ⟨f9, 0, none⟩) s0.length s0.length) (fll s0) := F_xs0_w13.step hc16
  have T_xs0_w15 : w9.heap.size ≤ w15.heap.size := Nat.le_trans T_xs0_w13 hc16.size
  have F_px0_w15 : In w15 w9.heap.size w10.heap.size (.slice (some ⟨w9.heap.size, 0, none⟩) 2 2) ([(.slice (some ⟨g9, 0, none⟩) a0.length a0.length), (.slice (some ⟨f9, 0, none⟩) s0.length s0.length)]) := F_px0_w13.step hc16
  have T_px0_w15 : w10.heap.size ≤ w15.heap.size := Nat.le_trans T_px0_w13 hc16.size
  have F_xa1_w15 : In w15 w10.heap.size md11 (.slice (some ⟨g11, 0, none⟩) a1.length a1.length) (fl a1) := F_xa1_w13.step hc16
  have T_xa1_w15 : md11 ≤ w15.heap.size := Nat.le_trans T_xa1_w13 hc16.size
  have F_xs1_w15 : InL w15 md11 w11.heap.size (.slice (some ⟨f11, 0, none⟩) s1.length s1.length) (fll s1) := F_xs1_w13.step hc16
  have T_xs1_w15 : w11.heap.size ≤ w15.heap.size := Nat.le_trans T_xs1_w13 hc16.size
  have F_px1_w15 : In w15 w11.heap.size w12.heap.size (.slice (some ⟨w11.heap.size, 0, none⟩) 2 2) ([(.slice (some ⟨g11, 0, none⟩) a1.length a1.length), (.slice (some ⟨f11, 0, none⟩) s1.length s1.length)]) := F_px1_w13.step hc16
  have T_px1_w15 : w12.heap.size ≤ w15.heap.size := Nat.le_trans T_px1_w13 hc16.size
  have B_w15 : Below w.heap.size w w15 := B_w13.trans (hc16.mono B_w13.size)
  clear F_a0_w13 F_s0_w13 F_a1_w13 F_s1_w13 F_pa0_w13 T_pa0_w13 F_pa1_w13 T_pa1_w13 F_xa0_w13 T_xa0_w13 F_xs0_w13 T_xs0_w13 F_px0_w13 T_px0_w13 F_xa1_w13 T_xa1_w13 F_xs1_w13 T_xs1_w13 F_px1_w13 T_px1_w13 B_w13
  clear hc16
  obtain ⟨_, Z_pa1_w15, c338, _⟩ := F_pa1_w15.1.cells' (by decide)
  have Q_pa10_w15 : w15.cell? ⟨w.heap.size + 1, 0, none⟩ = some (.slice A1 a1.length c1) := c338 0 _ rfl
  have Q_pa11_w15 : w15.cell? ⟨w.heap.size + 1, 1, none⟩ = some u1 := c338 1 _ rfl
  clear c338
  obtain ⟨_, Z_px1_w15, c342, _⟩ := F_px1_w15.1.cells' (by decide)
  have Q_px10_w15 : w15.cell? ⟨w11.heap.size, 0, none⟩ = some (.slice (some ⟨g11, 0, none⟩) a1.length a1.length) := c342 0 _ rfl
  have Q_px11_w15 : w15.cell? ⟨w11.heap.size, 1, none⟩ = some (.slice (some ⟨f11, 0, none⟩) s1.length s1.length) := c342 1 _ rfl
  clear c342
  have E_a1_w15 : Rd w15 w15.heap.size (.slice A1 a1.length c1) (fl a1) := (F_a1_w15.more B_w15.size)
  have E_s1_w15 : RdL w15 w15.heap.size u1 (fll s1) := (F_s1_w15.more B_w15.size)
  have E_xa1_w15 : Rd w15 w15.heap.size (.slice (some ⟨g11, 0, none⟩) a1.length a1.length) (fl a1) := F_xa1_w15.rd
  have E_xs1_w15 : RdL w15 w15.heap.size (.slice (some ⟨f11, 0, none⟩) s1.length s1.length) (fll s1) := F_xs1_w15.rd
  go_wp2_with fail
  go_region_held3 (fun w' => w'.cell? ⟨w.heap.size + 1, 0, none⟩ = some (.slice A1 a1.length c1) ∧ w'.cell? ⟨w.heap.size + 1, 1, none⟩ = some u1 ∧ w'.cell? ⟨w11.heap.size, 0, none⟩ = some (.slice (some ⟨g11, 0, none⟩) a1.length a1.length) ∧ w'.cell? ⟨w11.heap.size, 1, none⟩ = some (.slice (some ⟨f11, 0, none⟩) s1.length s1.length)) (first | exact ⟨Q_pa10_w15, Q_pa11_w15, Q_px10_w15, Q_px11_w15⟩ | exact ⟨Q_pa10_w17, Q_pa11_w17, Q_px10_w17, Q_px11_w17⟩ | exact ⟨Q_pa10_w18, Q_pa11_w18, Q_px10_w18, Q_px11_w18⟩) ((first | (go_at_call_of 40 A1; refine (toBands_any (.slice A1 a1.length c1) u1 a1 s1 _ ?_ ?_ hm1 hk1 ht1).mono ?_; exact E_a1_w15; exact E_s1_w15; rintro e w17 ⟨g17, f17, md17, rfl, P17, R17, ml17, mh17, hb17⟩; replace hb17 : Below w15.heap.size w15 w17 := below_draw1 hb17; replace P17 : In w17 w15.heap.size md17 (.slice (some ⟨g17, 0, none⟩) a1.length a1.length) (fl a1) := P17; replace R17 : InL w17 md17 w17.heap.size (.slice (some ⟨f17, 0, none⟩) s1.length s1.length) (fll s1) := R17; have E_a1_w17 := E_a1_w15.step hb17; have E_s1_w17 := E_s1_w15.step hb17; have E_xa1_w17 := E_xa1_w15.step hb17; have E_xs1_w17 := E_xs1_w15.step hb17; have Q_pa10_w17 : w17.cell? ⟨w.heap.size + 1, 0, none⟩ = some (.slice A1 a1.length c1) := (hb17.cell (p := ⟨w.heap.size + 1, 0, none⟩) Z_pa1_w15).trans Q_pa10_w15; have Q_pa11_w17 : w17.cell? ⟨w.heap.size + 1, 1, none⟩ = some u1 := (hb17.cell (p := ⟨w.heap.size + 1, 1, none⟩) Z_pa1_w15).trans Q_pa11_w15; have Z_pa1_w17 := Nat.lt_of_lt_of_le Z_pa1_w15 hb17.size; have Q_px10_w17 : w17.cell? ⟨w11.heap.size, 0, none⟩ = some (.slice (some ⟨g11, 0, none⟩) a1.length a1.length) := (hb17.cell (p := ⟨w11.heap.size, 0, none⟩) Z_px1_w15).trans Q_px10_w15; have Q_px11_w17 : w17.cell? ⟨w11.heap.size, 1, none⟩ = some (.slice (some ⟨f11, 0, none⟩) s1.length s1.length) := (hb17.cell (p := ⟨w11.heap.size, 1, none⟩) Z_px1_w15).trans Q_px11_w15; have Z_px1_w17 := Nat.lt_of_lt_of_le Z_px1_w15 hb17.size; have E_da1_w17 := P17.rd; have E_ds1_w17 := R17.rd) | (go_at_call 42; refine (eqBands_any _ _ _ _ a1 s1 _ ?_ ?_ ?_ ?_ hm1 hk1 HN1.out).mono ?_; exact E_xa1_w17; exact E_xs1_w17; exact E_da1_w17; exact E_ds1_w17; rintro e w18 ⟨rfl, hb18⟩; have E_a1_w18 := E_a1_w17.step hb18; have E_s1_w18 := E_s1_w17.step hb18; have E_xa1_w18 := E_xa1_w17.step hb18; have E_xs1_w18 := E_xs1_w17.step hb18; have E_da1_w18 := E_da1_w17.step hb18; have E_ds1_w18 := E_ds1_w17.step hb18; have Q_pa10_w18 : w18.cell? ⟨w.heap.size + 1, 0, none⟩ = some (.slice A1 a1.length c1) := (hb18.cell (p := ⟨w.heap.size + 1, 0, none⟩) Z_pa1_w17).trans Q_pa10_w17; have Q_pa11_w18 : w18.cell? ⟨w.heap.size + 1, 1, none⟩ = some u1 := (hb18.cell (p := ⟨w.heap.size + 1, 1, none⟩) Z_pa1_w17).trans Q_pa11_w17; have Z_pa1_w18 := Nat.lt_of_lt_of_le Z_pa1_w17 hb18.size; have Q_px10_w18 : w18.cell? ⟨w11.heap.size, 0, none⟩ = some (.slice (some ⟨g11, 0, none⟩) a1.length a1.length) := (hb18.cell (p := ⟨w11.heap.size, 0, none⟩) Z_px1_w17).trans Q_px10_w17; have Q_px11_w18 : w18.cell? ⟨w11.heap.size, 1, none⟩ = some (.slice (some ⟨f11, 0, none⟩) s1.length s1.length) := (hb18.cell (p := ⟨w11.heap.size, 1, none⟩) Z_px1_w17).trans Q_px11_w17; have Z_px1_w18 := Nat.lt_of_lt_of_le Z_px1_w17 hb18.size)))
  have hc19 : Below w15.heap.size w15 w18 := (hb17.trans (hb18.mono (by have := hb17.size; omega)))
  clear E_a1_w17 E_s1_w17 E_xa1_w17 E_xs1_w17 Q_pa10_w17 Q_pa11_w17 Z_pa1_w17 Q_px10_w17 Q_px11_w17 Z_px1_w17 E_da1_w17 E_ds1_w17 E_a1_w18 E_s1_w18 E_xa1_w18 E_xs1_w18 E_da1_w18 E_ds1_w18 Q_pa10_w18 Q_pa11_w18 Z_pa1_w18 Q_px10_w18 Q_px11_w18 Z_px1_w18 Z_pa1_w15 Q_pa10_w15 Q_pa11_w15 Z_px1_w15 Q_px10_w15 Q_px11_w15 E_a1_w15 E_s1_w15 E_xa1_w15 E_xs1_w15
  have F_a0_w18 : Rd w18 w.heap.size (.slice A0 a0.length c0) (fl a0) := F_a0_w15.below (hc19.mono B_w15.size)
  have F_s0_w18 : RdL w18 w.heap.size u0 (fll s0) := F_s0_w15.below (hc19.mono B_w15.size)
  have F_a1_w18 : Rd w18 w.heap.size (.slice A1 a1.length c1) (fl a1) := F_a1_w15.below (hc19.mono B_w15.size)
  have F_s1_w18 : RdL w18 w.heap.size u1 (fll s1) := F_s1_w15.below (hc19.mono B_w15.size)
  have F_pa0_w18 : In w18 w.heap.size (w.heap.size + 1) (.slice (some ⟨w.heap.size, 0, none⟩) 2 2) ([(.slice A0 a0.length c0), u0]) := F_pa0_w15.step hc19
  have T_pa0_w18 : (w.heap.size + 1) ≤ w18.heap.size := Nat.le_trans T_pa0_w15 hc19.size
  have F_pa1_w18 : In w18 (w.heap.size + 1) w2.heap.size (.slice (some ⟨w.heap.size + 1, 0, none⟩) 2 2) ([(.slice A1 a1.length c1), u1]) := F_pa1_w15.step hc19
  have T_pa1_w18 : w2.heap.size ≤ w18.heap.size := Nat.le_trans T_pa1_w15 hc19.size
  have F_xa0_w18 : In w18 w7.heap.size md9 (.slice (some ⟨g9, 0, none⟩) a0.length a0.length) (fl a0) := F_xa0_w15.step hc19
  have T_xa0_w18 : md9 ≤ w18.heap.size := Nat.le_trans T_xa0_w15 hc19.size
  have F_xs0_w18 : InL w18 md9 w9.heap.size (.slice (some ⟨f9, 0, none⟩) s0.length s0.length) (fll s0) := F_xs0_w15.step hc19
  have T_xs0_w18 : w9.heap.size ≤ w18.heap.size := Nat.le_trans T_xs0_w15 hc19.size
  have F_px0_w18 : In w18 w9.heap.size w10.heap.size (.slice (some ⟨w9.heap.size, 0, none⟩) 2 2) ([(.slice (some ⟨g9, 0, none⟩) a0.length a0.length), (.slice (some ⟨f9, 0, none⟩) s0.length s0.length)]) := F_px0_w15.step hc19
  have T_px0_w18 : w10.heap.size ≤ w18.heap.size := Nat.le_trans T_px0_w15 hc19.size
  have F_xa1_w18 : In w18 w10.heap.size md11 (.slice (some ⟨g11, 0, none⟩) a1.length a1.length) (fl a1) := F_xa1_w15.step hc19
  have T_xa1_w18 : md11 ≤ w18.heap.size := Nat.le_trans T_xa1_w15 hc19.size
  have F_xs1_w18 : InL w18 md11 w11.heap.size (.slice (some ⟨f11, 0, none⟩) s1.length s1.length) (fll s1) := F_xs1_w15.step hc19
  have T_xs1_w18 : w11.heap.size ≤ w18.heap.size := Nat.le_trans T_xs1_w15 hc19.size
  have F_px1_w18 : In w18 w11.heap.size w12.heap.size (.slice (some ⟨w11.heap.size, 0, none⟩) 2 2) ([(.slice (some ⟨g11, 0, none⟩) a1.length a1.length), (.slice (some ⟨f11, 0, none⟩) s1.length s1.length)]) := F_px1_w15.step hc19
  have T_px1_w18 : w12.heap.size ≤ w18.heap.size := Nat.le_trans T_px1_w15 hc19.size
  have B_w18 : Below w.heap.size w w18 := B_w15.trans (hc19.mono B_w15.size)
  clear F_a0_w15 F_s0_w15 F_a1_w15 F_s1_w15 F_pa0_w15 T_pa0_w15 F_pa1_w15 T_pa1_w15 F_xa0_w15 T_xa0_w15 F_xs0_w15 T_xs0_w15 F_px0_w15 T_px0_w15 F_xa1_w15 T_xa1_w15 F_xs1_w15 T_xs1_w15 F_px1_w15 T_px1_w15 B_w15
  clear hc19
  go_wp2_with fail
  go_ret
  exact ⟨rfl, B_w18⟩

namespace fnExactSameBands
open Go.ChangeShapes Go.WideShapes Go.ChangeAt Go.RowKit
open Go.ChangeMaps (open_string)
set_option linter.unusedVariables false
theorem own : ownKnob Try.prog.godebug = none := by kernel_rfl
theorem laidOut : laidOutB Try.prog = true := by kernel_rfl
set_option maxRecDepth 100000 in
theorem lifted (os : Os) (started : os.Started) (H : Type) (enc : TypeId × Value → H) :
    ReturnsInHanded {} Try.checked os 11 .any (Rows.fnExactSameBandsSpec.pre6 enc Try.prog Try.f11 Rows.fnExactSameBandsRow.domain false) (Rows.fnExactSameBandsSpec.post enc Try.prog Try.f11 false true false false) := by
  refine returnsInHanded_of_change (C := Try.checked) own started (by kernel_rfl) Try.func11
    (ChangeSpec.witness6 (enc := enc) (C := Try.checked) false ⟨#[], #[.agg #[.slice none 0 0, .slice none 0 0], .agg #[.slice none 0 0, .slice none 0 0]], []⟩ 8 (by kernel_rfl) (by kernel_rfl) (by kernel_rfl) (by kernel_rfl)) ?_
  intro W base args ds gs before hval0 hW hcnd _
  have hval : ∀ (j : Nat) t v, Try.f11.params[j]? = some t → args[j]? = some v → Value.okWide Try.prog W .any base t v := hval0
  have hW' := hW
  have hlt0 := hW.lt
  obtain ⟨p, q, hA0, hV, rfl, hfz, hnd⟩ := hW
  have hA : DataW.TrodAll enc Try.prog W 0 (fun _ => true) true Try.f11.params.toList args.toList ds p := hA0
  have hAk := hA
  have hltp : ∀ x ∈ p, x.block < W.heap.size := fun x hx => hlt0 x (List.mem_append_left _ hx)
  have hread : ∀ t ∈ Try.f11.params.toList, Try.prog.readableRec t = true ∧ t < Try.prog.types.size := by
    rw [Try.params11]
    intro t ht
    simp only [List.mem_cons, List.not_mem_nil, or_false] at ht
    rcases ht with rfl | rfl <;> exact ⟨by kernel_rfl, of_decide_eq_true (by kernel_rfl)⟩
  rw [Try.params11] at hA hval
  obtain ⟨v0, vs0, d0, ds0, p0, q0, hargs, rfl, rfl, h0, r0⟩ := trodAll_cons hA
  obtain ⟨v1, vs1, d1, ds1, p1, q1, rfl, rfl, rfl, h1, r1⟩ := trodAll_cons r0
  obtain ⟨rfl, rfl, rfl⟩ := trodAll_nil r1
  obtain rfl : args = #[v0, v1] := by cases args; simp_all
  obtain ⟨rfl, rfl⟩ := trodVars_none hV
  obtain ⟨b0, e0, a0, s0, rfl, g0, w0, k0, z0⟩ := open_bands Try.underlying47 (by kernel_rfl) (by kernel_rfl) Try.underlying22 Try.underlying62 (by kernel_rfl) Try.underlying45 (by kernel_rfl) Try.underlying22 (hval 0 47 v0 rfl rfl) h0 (fun x hx => hltp x (by simp [hx]))
  obtain ⟨b1, e1, a1, s1, rfl, g1, w1, k1, z1⟩ := open_bands Try.underlying47 (by kernel_rfl) (by kernel_rfl) Try.underlying22 Try.underlying62 (by kernel_rfl) Try.underlying45 (by kernel_rfl) Try.underlying22 (hval 1 47 v1 rfl rfl) h1 (fun x hx => hltp x (by simp [hx]))
  clear hA0 hval0
  refine (walk W b0 e0 a0 s0 g0 w0 k0 z0 b1 e1 a1 s1 g1 w1 k1 z1).mono fun e W' ⟨he, hg⟩ => ?_
  subst he
  exact ⟨_, rfl, post_grown (pv := []) hW' hg (fun _ _ _ => (trodAll_cons_mk (shut_bool Try.underlying4 _) trodAll_mk0)) (trodAll_low laidOut hg _ _ _ _ hread hltp hAk) rfl rfl⟩

theorem over : Rows.fnExactSameBandsRow.holds Try.pinned (OpenSpec.ofChange Rows.fnExactSameBandsSpec) :=
  OpenClaim.holds_of_wide 11 Try.f11 rfl rfl rfl rfl rfl rfl rfl ⟨rfl, rfl, rfl, rfl, rfl⟩ rfl rfl rfl rfl rfl (by kernel_rfl) Try.func11 (by kernel_rfl)
    (of_decide_eq_true (by kernel_rfl)) (by unfold Func.isWrapper; first | (rw [if_pos (by decide +kernel)]; kernel_rfl) | (rw [if_neg (by decide +kernel)]; exact ⟨rfl, rfl⟩))
    (fun os started H enc _ => lifted os started H enc)

theorem proved : Rows.FnExactSameBandsSaid := over
end fnExactSameBands
end Go.Proofs.Ytfhngajodfjkeaa
