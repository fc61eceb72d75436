/-
  Contracts: pictures that are the same, of both sides.
-/
import Derived.Test.YthkklilfignmpaaPv
import Derived.Test.YthkklilfignmpaaPiL
import Derived.Test.YthkklilfignmpaaSam
import Derived.Deep.RegionWith
namespace Go.Proofs.Ythkklilfignmpaa
open Go.RowKit Fl
set_option linter.unusedVariables false

def spcB (p q : Int) (xs : List Nat) (p' q' : Int) (ys : List Nat) : Bool := decide (p = p' ∧ q = q') && wsB xs ys
theorem wsIB_any (va vb : Value) (xs ys : List Nat) (w : World) (ha : Rd w w.heap.size va (fl xs)) (hb : Rd w w.heap.size vb (fl ys)) (hm : xs.length ≤ 1048576) (hm' : ys.length ≤ 1048576) (hx : ∀ x ∈ xs, x < 2 ^ 32) (hy : ∀ x ∈ ys, x < 2 ^ 32) :
    Calls Try.prog 85 #[va, vb, .func (.func 86) #[] #[]] w (RetBB (wsB xs ys) w) :=
  (wsI_any va vb xs ys w _ _ ha hb hm hm' hx hy).mono fun e w' ⟨he, n, hw⟩ => ⟨he, by rw [hw]; exact below_drawn (Below.refl _ _) _⟩

set_option maxRecDepth 100000 in
set_option maxHeartbeats 4000000 in
theorem spcI_any (v0 : Value) (p0 q0 : Int) (a0 : List Nat) (v1 : Value) (p1 q1 : Int) (a1 : List Nat) (w : World) (h0 : Rd w w.heap.size v0 (fl a0)) (hm0 : a0.length ≤ 1048576) (HX0 : ∀ x ∈ a0, x < 2 ^ 32) (h1 : Rd w w.heap.size v1 (fl a1)) (hm1 : a1.length ≤ 1048576) (HX1 : ∀ x ∈ a1, x < 2 ^ 32) :
    Calls Try.prog 88 #[.agg #[.int .i64 p0, .int .i64 q0, v0], .agg #[.int .i64 p1, .int .i64 q1, v1]] w (RetBB (spcB p0 q0 a0 p1 q1 a1) w) := by
  by_cases hpq : p0 = p1 ∧ q0 = q1
  · rw [show spcB p0 q0 a0 p1 q1 a1 = wsB a0 a1 by unfold spcB; rw [decide_eq_true hpq]; rfl]
    obtain ⟨rfl, rfl⟩ := hpq
    obtain ⟨A0, c0, hv0, hc01, hc02, hcell0⟩ := id h0
    rw [fl_len] at hv0
    clear hcell0 hc01 hc02
    subst hv0
    obtain ⟨A1, c1, hv1, hc11, hc12, hcell1⟩ := id h1
    rw [fl_len] at hv1
    clear hcell1 hc11 hc12
    subst hv1
    go_enter Try.func88, Try.ntmps88
    have F_a0_w : Rd w w.heap.size (.slice A0 a0.length c0) (fl a0) := h0
    have F_a1_w : Rd w w.heap.size (.slice A1 a1.length c1) (fl a1) := h1
    have B_w : Below w.heap.size w w := Below.refl _ _
    clear h0 h1
    go_wp2_with fail
    have hb1 : Below w.heap.size w (w.alloc (.cells #[.int .i64 p0, .int .i64 q0, (.slice A0 a0.length c0)] 36)) := (Below.refl _ _).alloc (Nat.le_refl _) _
    have O1 := own_box3 w (.int .i64 p0) (.int .i64 q0) ((.slice A0 a0.length c0)) 36
    have hs1 : (w.alloc (.cells #[.int .i64 p0, .int .i64 q0, (.slice A0 a0.length c0)] 36)).heap.size = w.heap.size + 1 := by simp
    generalize w.alloc (.cells #[.int .i64 p0, .int .i64 q0, (.slice A0 a0.length c0)] 36) = w1 at *
    have F_a0_w1 : Rd w1 w.heap.size (.slice A0 a0.length c0) (fl a0) := F_a0_w.below (hb1.mono B_w.size)
    have F_a1_w1 : Rd w1 w.heap.size (.slice A1 a1.length c1) (fl a1) := F_a1_w.below (hb1.mono B_w.size)
    have B_w1 : Below w.heap.size w w1 := B_w.trans (hb1.mono B_w.size)
    have S_pa0 : w.heap.size ≤ w.heap.size := B_w.size
    clear F_a0_w F_a1_w B_w
    have F_pa0_w1 : In w1 w.heap.size w1.heap.size (.slice (some ⟨w.heap.size, 0, none⟩) 3 3) ([.int .i64 p0, .int .i64 q0, (.slice A0 a0.length c0)]) := In.made O1
    have T_pa0_w1 : w1.heap.size ≤ w1.heap.size := Nat.le_refl _
    clear O1
    clear hb1
    have hb2 : Below w1.heap.size w1 (w1.alloc (.cells #[.int .i64 p0, .int .i64 q0, (.slice A1 a1.length c1)] 36)) := (Below.refl _ _).alloc (Nat.le_refl _) _
    have O2 := own_box3 w1 (.int .i64 p0) (.int .i64 q0) ((.slice A1 a1.length c1)) 36
    have hs2 : (w1.alloc (.cells #[.int .i64 p0, .int .i64 q0, (.slice A1 a1.length c1)] 36)).heap.size = w1.heap.size + 1 := by simp
    generalize w1.alloc (.cells #[.int .i64 p0, .int .i64 q0, (.slice A1 a1.length c1)] 36) = w2 at *
    have F_a0_w2 : Rd w2 w.heap.size (.slice A0 a0.length c0) (fl a0) := F_a0_w1.below (hb2.mono B_w1.size)
    have F_a1_w2 : Rd w2 w.heap.size (.slice A1 a1.length c1) (fl a1) := F_a1_w1.below (hb2.mono B_w1.size)
    have F_pa0_w2 : In w2 w.heap.size w1.heap.size (.slice (some ⟨w.heap.size, 0, none⟩) 3 3) ([.int .i64 p0, .int .i64 q0, (.slice A0 a0.length c0)]) := F_pa0_w1.step hb2
    have T_pa0_w2 : w1.heap.size ≤ w2.heap.size := Nat.le_trans T_pa0_w1 hb2.size
    have B_w2 : Below w.heap.size w w2 := B_w1.trans (hb2.mono B_w1.size)
    have S_pa1 : w.heap.size ≤ w1.heap.size := B_w1.size
    have D_pa0_pa1 : w1.heap.size ≤ w1.heap.size := T_pa0_w1
    clear F_a0_w1 F_a1_w1 F_pa0_w1 T_pa0_w1 B_w1
    have F_pa1_w2 : In w2 w1.heap.size w2.heap.size (.slice (some ⟨w1.heap.size, 0, none⟩) 3 3) ([.int .i64 p0, .int .i64 q0, (.slice A1 a1.length c1)]) := In.made O2
    have T_pa1_w2 : w2.heap.size ≤ w2.heap.size := Nat.le_refl _
    clear O2
    clear hb2
    rw [hs1] at F_pa0_w2 T_pa0_w2 F_pa1_w2 D_pa0_pa1 S_pa1
    clear hs1 hs2
    obtain ⟨_, Z_pa0_w2, c45, _⟩ := F_pa0_w2.1.cells' (by decide)
    have Q_pa00_w2 : w2.cell? ⟨w.heap.size, 0, none⟩ = some (.int .i64 p0) := c45 0 _ rfl
    have Q_pa01_w2 : w2.cell? ⟨w.heap.size, 1, none⟩ = some (.int .i64 q0) := c45 1 _ rfl
    have Q_pa02_w2 : w2.cell? ⟨w.heap.size, 2, none⟩ = some ((.slice A0 a0.length c0)) := c45 2 _ rfl
    clear c45
    obtain ⟨_, Z_pa1_w2, c50, _⟩ := F_pa1_w2.1.cells' (by decide)
    have Q_pa10_w2 : w2.cell? ⟨w.heap.size + 1, 0, none⟩ = some (.int .i64 p0) := c50 0 _ rfl
    have Q_pa11_w2 : w2.cell? ⟨w.heap.size + 1, 1, none⟩ = some (.int .i64 q0) := c50 1 _ rfl
    have Q_pa12_w2 : w2.cell? ⟨w.heap.size + 1, 2, none⟩ = some ((.slice A1 a1.length c1)) := c50 2 _ rfl
    clear c50
    have E_a0_w2 : Rd w2 w2.heap.size (.slice A0 a0.length c0) (fl a0) := (F_a0_w2.more B_w2.size)
    have E_a1_w2 : Rd w2 w2.heap.size (.slice A1 a1.length c1) (fl a1) := (F_a1_w2.more B_w2.size)
    go_region_held3 (fun w' => w'.cell? ⟨w.heap.size, 0, none⟩ = some (.int .i64 p0) ∧ w'.cell? ⟨w.heap.size, 1, none⟩ = some (.int .i64 q0) ∧ w'.cell? ⟨w.heap.size, 2, none⟩ = some ((.slice A0 a0.length c0)) ∧ w'.cell? ⟨w.heap.size + 1, 0, none⟩ = some (.int .i64 p0) ∧ w'.cell? ⟨w.heap.size + 1, 1, none⟩ = some (.int .i64 q0) ∧ w'.cell? ⟨w.heap.size + 1, 2, none⟩ = some ((.slice A1 a1.length c1))) (first | exact ⟨Q_pa00_w2, Q_pa01_w2, Q_pa02_w2, Q_pa10_w2, Q_pa11_w2, Q_pa12_w2⟩ | exact ⟨Q_pa00_w3, Q_pa01_w3, Q_pa02_w3, Q_pa10_w3, Q_pa11_w3, Q_pa12_w3⟩ | exact ⟨Q_pa00_w4, Q_pa01_w4, Q_pa02_w4, Q_pa10_w4, Q_pa11_w4, Q_pa12_w4⟩ | exact ⟨Q_pa00_w5, Q_pa01_w5, Q_pa02_w5, Q_pa10_w5, Q_pa11_w5, Q_pa12_w5⟩) ((first | (go_at_call_of 112 A0; refine (sid_any p0 q0 A0 a0.length c0 _).mono ?_; rintro e w3 ⟨rfl, hb3⟩; replace hb3 : Below w2.heap.size w2 w3 := below_draw1 hb3; have E_a0_w3 := E_a0_w2.step hb3; have E_a1_w3 := E_a1_w2.step hb3; have Q_pa00_w3 : w3.cell? ⟨w.heap.size, 0, none⟩ = some (.int .i64 p0) := (hb3.cell (p := ⟨w.heap.size, 0, none⟩) Z_pa0_w2).trans Q_pa00_w2; have Q_pa01_w3 : w3.cell? ⟨w.heap.size, 1, none⟩ = some (.int .i64 q0) := (hb3.cell (p := ⟨w.heap.size, 1, none⟩) Z_pa0_w2).trans Q_pa01_w2; have Q_pa02_w3 : w3.cell? ⟨w.heap.size, 2, none⟩ = some ((.slice A0 a0.length c0)) := (hb3.cell (p := ⟨w.heap.size, 2, none⟩) Z_pa0_w2).trans Q_pa02_w2; have Z_pa0_w3 := Nat.lt_of_lt_of_le Z_pa0_w2 hb3.size; have Q_pa10_w3 : w3.cell? ⟨w.heap.size + 1, 0, none⟩ = some (.int .i64 p0) := (hb3.cell (p := ⟨w.heap.size + 1, 0, none⟩) Z_pa1_w2).trans Q_pa10_w2; have Q_pa11_w3 : w3.cell? ⟨w.heap.size + 1, 1, none⟩ = some (.int .i64 q0) := (hb3.cell (p := ⟨w.heap.size + 1, 1, none⟩) Z_pa1_w2).trans Q_pa11_w2; have Q_pa12_w3 : w3.cell? ⟨w.heap.size + 1, 2, none⟩ = some ((.slice A1 a1.length c1)) := (hb3.cell (p := ⟨w.heap.size + 1, 2, none⟩) Z_pa1_w2).trans Q_pa12_w2; have Z_pa1_w3 := Nat.lt_of_lt_of_le Z_pa1_w2 hb3.size) | (go_at_call_of 112 A1; refine (sid_any p0 q0 A1 a1.length c1 _).mono ?_; rintro e w4 ⟨rfl, hb4⟩; have E_a0_w4 := E_a0_w3.step hb4; have E_a1_w4 := E_a1_w3.step hb4; have Q_pa00_w4 : w4.cell? ⟨w.heap.size, 0, none⟩ = some (.int .i64 p0) := (hb4.cell (p := ⟨w.heap.size, 0, none⟩) Z_pa0_w3).trans Q_pa00_w3; have Q_pa01_w4 : w4.cell? ⟨w.heap.size, 1, none⟩ = some (.int .i64 q0) := (hb4.cell (p := ⟨w.heap.size, 1, none⟩) Z_pa0_w3).trans Q_pa01_w3; have Q_pa02_w4 : w4.cell? ⟨w.heap.size, 2, none⟩ = some ((.slice A0 a0.length c0)) := (hb4.cell (p := ⟨w.heap.size, 2, none⟩) Z_pa0_w3).trans Q_pa02_w3; have Z_pa0_w4 := Nat.lt_of_lt_of_le Z_pa0_w3 hb4.size; have Q_pa10_w4 : w4.cell? ⟨w.heap.size + 1, 0, none⟩ = some (.int .i64 p0) := (hb4.cell (p := ⟨w.heap.size + 1, 0, none⟩) Z_pa1_w3).trans Q_pa10_w3; have Q_pa11_w4 : w4.cell? ⟨w.heap.size + 1, 1, none⟩ = some (.int .i64 q0) := (hb4.cell (p := ⟨w.heap.size + 1, 1, none⟩) Z_pa1_w3).trans Q_pa11_w3; have Q_pa12_w4 : w4.cell? ⟨w.heap.size + 1, 2, none⟩ = some ((.slice A1 a1.length c1)) := (hb4.cell (p := ⟨w.heap.size + 1, 2, none⟩) Z_pa1_w3).trans Q_pa12_w3; have Z_pa1_w4 := Nat.lt_of_lt_of_le Z_pa1_w3 hb4.size) | (go_at_call 85; refine (wsIB_any _ _ a0 a1 _ ?_ ?_ hm0 hm1 HX0 HX1).mono ?_; exact E_a0_w4; exact E_a1_w4; rintro e w5 ⟨rfl, hb5⟩; have E_a0_w5 := E_a0_w4.step hb5; have E_a1_w5 := E_a1_w4.step hb5; have Q_pa00_w5 : w5.cell? ⟨w.heap.size, 0, none⟩ = some (.int .i64 p0) := (hb5.cell (p := ⟨w.heap.size, 0, none⟩) Z_pa0_w4).trans Q_pa00_w4; have Q_pa01_w5 : w5.cell? ⟨w.heap.size, 1, none⟩ = some (.int .i64 q0) := (hb5.cell (p := ⟨w.heap.size, 1, none⟩) Z_pa0_w4).trans Q_pa01_w4; have Q_pa02_w5 : w5.cell? ⟨w.heap.size, 2, none⟩ = some ((.slice A0 a0.length c0)) := (hb5.cell (p := ⟨w.heap.size, 2, none⟩) Z_pa0_w4).trans Q_pa02_w4; have Z_pa0_w5 := Nat.lt_of_lt_of_le Z_pa0_w4 hb5.size; have Q_pa10_w5 : w5.cell? ⟨w.heap.size + 1, 0, none⟩ = some (.int .i64 p0) := (hb5.cell (p := ⟨w.heap.size + 1, 0, none⟩) Z_pa1_w4).trans Q_pa10_w4; have Q_pa11_w5 : w5.cell? ⟨w.heap.size + 1, 1, none⟩ = some (.int .i64 q0) := (hb5.cell (p := ⟨w.heap.size + 1, 1, none⟩) Z_pa1_w4).trans Q_pa11_w4; have Q_pa12_w5 : w5.cell? ⟨w.heap.size + 1, 2, none⟩ = some ((.slice A1 a1.length c1)) := (hb5.cell (p := ⟨w.heap.size + 1, 2, none⟩) Z_pa1_w4).trans Q_pa12_w4; have Z_pa1_w5 := Nat.lt_of_lt_of_le Z_pa1_w4 hb5.size)))
    have hc6 : Below w2.heap.size w2 w5 := ((hb3.trans (hb4.mono (by have := hb3.size; omega))).trans (hb5.mono (by have := hb3.size; have := hb4.size; omega)))
    clear E_a0_w3 E_a1_w3 Q_pa00_w3 Q_pa01_w3 Q_pa02_w3 Z_pa0_w3 Q_pa10_w3 Q_pa11_w3 Q_pa12_w3 Z_pa1_w3 E_a0_w4 E_a1_w4 Q_pa00_w4 Q_pa01_w4 Q_pa02_w4 Z_pa0_w4 Q_pa10_w4 Q_pa11_w4 Q_pa12_w4 Z_pa1_w4 E_a0_w5 E_a1_w5 Q_pa00_w5 Q_pa01_w5 Q_pa02_w5 Z_pa0_w5 Q_pa10_w5 Q_pa11_w5 Q_pa12_w5 Z_pa1_w5 Z_pa0_w2 Q_pa00_w2 Q_pa01_w2 Q_pa02_w2 Z_pa1_w2 Q_pa10_w2 Q_pa11_w2 Q_pa12_w2 E_a0_w2 E_a1_w2
    have F_a0_w5 : Rd w5 w.heap.size (.slice A0 a0.length c0) (fl a0) := F_a0_w2.below (hc6.mono B_w2.size)
    have F_a1_w5 : Rd w5 w.heap.size (.slice A1 a1.length c1) (fl a1) := F_a1_w2.below (hc6.mono B_w2.size)
    have F_pa0_w5 : In w5 w.heap.size (w.heap.size + 1) (.slice (some ⟨w.heap.size, 0, none⟩) 3 3) ([.int .i64 p0, .int .i64 q0, (.slice A0 a0.length c0)]) := F_pa0_w2.step hc6
    have T_pa0_w5 : (w.heap.size + 1) ≤ w5.heap.size := Nat.le_trans T_pa0_w2 hc6.size
    have F_pa1_w5 : In w5 (w.heap.size + 1) w2.heap.size (.slice (some ⟨w.heap.size + 1, 0, none⟩) 3 3) ([.int .i64 p0, .int .i64 q0, (.slice A1 a1.length c1)]) := F_pa1_w2.step hc6
    have T_pa1_w5 : w2.heap.size ≤ w5.heap.size := Nat.le_trans T_pa1_w2 hc6.size
    have B_w5 : Below w.heap.size w w5 := B_w2.trans (hc6.mono B_w2.size)
    clear F_a0_w2 F_a1_w2 F_pa0_w2 T_pa0_w2 F_pa1_w2 T_pa1_w2 B_w2
    clear hc6 hb3 hb4 hb5
    go_wp2_with fail
    go_ret
    exact ⟨by simp, B_w5⟩
  · rw [show spcB p0 q0 a0 p1 q1 a1 = false by unfold spcB; rw [decide_eq_false hpq]; rfl]
    by_cases hp : p0 = p1
    · have hq : (q0 == q1) = false := beq_eq_false_iff_ne.2 fun e => hpq ⟨hp, e⟩
      subst hp
      clear hpq
      obtain ⟨A0, c0, hv0, hc01, hc02, hcell0⟩ := id h0
      rw [fl_len] at hv0
      clear hcell0 hc01 hc02
      subst hv0
      obtain ⟨A1, c1, hv1, hc11, hc12, hcell1⟩ := id h1
      rw [fl_len] at hv1
      clear hcell1 hc11 hc12
      subst hv1
      go_enter Try.func88, Try.ntmps88
      have F_a0_w : Rd w w.heap.size (.slice A0 a0.length c0) (fl a0) := h0
      have F_a1_w : Rd w w.heap.size (.slice A1 a1.length c1) (fl a1) := h1
      have B_w : Below w.heap.size w w := Below.refl _ _
      clear h0 h1
      go_wp2_with fail
      have hb1 : Below w.heap.size w (w.alloc (.cells #[.int .i64 p0, .int .i64 q0, (.slice A0 a0.length c0)] 36)) := (Below.refl _ _).alloc (Nat.le_refl _) _
      have O1 := own_box3 w (.int .i64 p0) (.int .i64 q0) ((.slice A0 a0.length c0)) 36
      have hs1 : (w.alloc (.cells #[.int .i64 p0, .int .i64 q0, (.slice A0 a0.length c0)] 36)).heap.size = w.heap.size + 1 := by simp
      generalize w.alloc (.cells #[.int .i64 p0, .int .i64 q0, (.slice A0 a0.length c0)] 36) = w1 at *
      have F_a0_w1 : Rd w1 w.heap.size (.slice A0 a0.length c0) (fl a0) := F_a0_w.below (hb1.mono B_w.size)
      have F_a1_w1 : Rd w1 w.heap.size (.slice A1 a1.length c1) (fl a1) := F_a1_w.below (hb1.mono B_w.size)
      have B_w1 : Below w.heap.size w w1 := B_w.trans (hb1.mono B_w.size)
      have S_pa0 : w.heap.size ≤ w.heap.size := B_w.size
      clear F_a0_w F_a1_w B_w
      have F_pa0_w1 : In w1 w.heap.size w1.heap.size (.slice (some ⟨w.heap.size, 0, none⟩) 3 3) ([.int .i64 p0, .int .i64 q0, (.slice A0 a0.length c0)]) := In.made O1
      have T_pa0_w1 : w1.heap.size ≤ w1.heap.size := Nat.le_refl _
      clear O1
      clear hb1
      have hb2 : Below w1.heap.size w1 (w1.alloc (.cells #[.int .i64 p0, .int .i64 q1, (.slice A1 a1.length c1)] 36)) := (Below.refl _ _).alloc (Nat.le_refl _) _
      have O2 := own_box3 w1 (.int .i64 p0) (.int .i64 q1) ((.slice A1 a1.length c1)) 36
      have hs2 : (w1.alloc (.cells #[.int .i64 p0, .int .i64 q1, (.slice A1 a1.length c1)] 36)).heap.size = w1.heap.size + 1 := by simp
      generalize w1.alloc (.cells #[.int .i64 p0, .int .i64 q1, (.slice A1 a1.length c1)] 36) = w2 at *
      have F_a0_w2 : Rd w2 w.heap.size (.slice A0 a0.length c0) (fl a0) := F_a0_w1.below (hb2.mono B_w1.size)
      have F_a1_w2 : Rd w2 w.heap.size (.slice A1 a1.length c1) (fl a1) := F_a1_w1.below (hb2.mono B_w1.size)
      have F_pa0_w2 : In w2 w.heap.size w1.heap.size (.slice (some ⟨w.heap.size, 0, none⟩) 3 3) ([.int .i64 p0, .int .i64 q0, (.slice A0 a0.length c0)]) := F_pa0_w1.step hb2
      have T_pa0_w2 : w1.heap.size ≤ w2.heap.size := Nat.le_trans T_pa0_w1 hb2.size
      have B_w2 : Below w.heap.size w w2 := B_w1.trans (hb2.mono B_w1.size)
      have S_pa1 : w.heap.size ≤ w1.heap.size := B_w1.size
      have D_pa0_pa1 : w1.heap.size ≤ w1.heap.size := T_pa0_w1
      clear F_a0_w1 F_a1_w1 F_pa0_w1 T_pa0_w1 B_w1
      have F_pa1_w2 : In w2 w1.heap.size w2.heap.size (.slice (some ⟨w1.heap.size, 0, none⟩) 3 3) ([.int .i64 p0, .int .i64 q1, (.slice A1 a1.length c1)]) := In.made O2
      have T_pa1_w2 : w2.heap.size ≤ w2.heap.size := Nat.le_refl _
      clear O2
      clear hb2
      rw [hs1] at F_pa0_w2 T_pa0_w2 F_pa1_w2 D_pa0_pa1 S_pa1
      clear hs1 hs2
      obtain ⟨_, Z_pa0_w2, c45, _⟩ := F_pa0_w2.1.cells' (by decide)
      have Q_pa00_w2 : w2.cell? ⟨w.heap.size, 0, none⟩ = some (.int .i64 p0) := c45 0 _ rfl
      have Q_pa01_w2 : w2.cell? ⟨w.heap.size, 1, none⟩ = some (.int .i64 q0) := c45 1 _ rfl
      have Q_pa02_w2 : w2.cell? ⟨w.heap.size, 2, none⟩ = some ((.slice A0 a0.length c0)) := c45 2 _ rfl
      clear c45
      obtain ⟨_, Z_pa1_w2, c50, _⟩ := F_pa1_w2.1.cells' (by decide)
      have Q_pa10_w2 : w2.cell? ⟨w.heap.size + 1, 0, none⟩ = some (.int .i64 p0) := c50 0 _ rfl
      have Q_pa11_w2 : w2.cell? ⟨w.heap.size + 1, 1, none⟩ = some (.int .i64 q1) := c50 1 _ rfl
      have Q_pa12_w2 : w2.cell? ⟨w.heap.size + 1, 2, none⟩ = some ((.slice A1 a1.length c1)) := c50 2 _ rfl
      clear c50
      first
      | go_region_with ((first | (go_at_call_of 112 A0; refine (sid_any p0 q0 A0 a0.length c0 _).mono ?_; rintro e w3 ⟨rfl, hb3⟩; replace hb3 : Below w2.heap.size w2 w3 := below_draw1 hb3; have Q_pa00_w3 : w3.cell? ⟨w.heap.size, 0, none⟩ = some (.int .i64 p0) := (hb3.cell (p := ⟨w.heap.size, 0, none⟩) Z_pa0_w2).trans Q_pa00_w2; have Q_pa01_w3 : w3.cell? ⟨w.heap.size, 1, none⟩ = some (.int .i64 q0) := (hb3.cell (p := ⟨w.heap.size, 1, none⟩) Z_pa0_w2).trans Q_pa01_w2; have Q_pa02_w3 : w3.cell? ⟨w.heap.size, 2, none⟩ = some ((.slice A0 a0.length c0)) := (hb3.cell (p := ⟨w.heap.size, 2, none⟩) Z_pa0_w2).trans Q_pa02_w2; have Z_pa0_w3 := Nat.lt_of_lt_of_le Z_pa0_w2 hb3.size; have Q_pa10_w3 : w3.cell? ⟨w.heap.size + 1, 0, none⟩ = some (.int .i64 p0) := (hb3.cell (p := ⟨w.heap.size + 1, 0, none⟩) Z_pa1_w2).trans Q_pa10_w2; have Q_pa11_w3 : w3.cell? ⟨w.heap.size + 1, 1, none⟩ = some (.int .i64 q1) := (hb3.cell (p := ⟨w.heap.size + 1, 1, none⟩) Z_pa1_w2).trans Q_pa11_w2; have Q_pa12_w3 : w3.cell? ⟨w.heap.size + 1, 2, none⟩ = some ((.slice A1 a1.length c1)) := (hb3.cell (p := ⟨w.heap.size + 1, 2, none⟩) Z_pa1_w2).trans Q_pa12_w2; have Z_pa1_w3 := Nat.lt_of_lt_of_le Z_pa1_w2 hb3.size) | (go_at_call_of 112 A1; refine (sid_any p0 q1 A1 a1.length c1 _).mono ?_; rintro e w4 ⟨rfl, hb4⟩; have Q_pa00_w4 : w4.cell? ⟨w.heap.size, 0, none⟩ = some (.int .i64 p0) := (hb4.cell (p := ⟨w.heap.size, 0, none⟩) Z_pa0_w3).trans Q_pa00_w3; have Q_pa01_w4 : w4.cell? ⟨w.heap.size, 1, none⟩ = some (.int .i64 q0) := (hb4.cell (p := ⟨w.heap.size, 1, none⟩) Z_pa0_w3).trans Q_pa01_w3; have Q_pa02_w4 : w4.cell? ⟨w.heap.size, 2, none⟩ = some ((.slice A0 a0.length c0)) := (hb4.cell (p := ⟨w.heap.size, 2, none⟩) Z_pa0_w3).trans Q_pa02_w3; have Z_pa0_w4 := Nat.lt_of_lt_of_le Z_pa0_w3 hb4.size; have Q_pa10_w4 : w4.cell? ⟨w.heap.size + 1, 0, none⟩ = some (.int .i64 p0) := (hb4.cell (p := ⟨w.heap.size + 1, 0, none⟩) Z_pa1_w3).trans Q_pa10_w3; have Q_pa11_w4 : w4.cell? ⟨w.heap.size + 1, 1, none⟩ = some (.int .i64 q1) := (hb4.cell (p := ⟨w.heap.size + 1, 1, none⟩) Z_pa1_w3).trans Q_pa11_w3; have Q_pa12_w4 : w4.cell? ⟨w.heap.size + 1, 2, none⟩ = some ((.slice A1 a1.length c1)) := (hb4.cell (p := ⟨w.heap.size + 1, 2, none⟩) Z_pa1_w3).trans Q_pa12_w3; have Z_pa1_w4 := Nat.lt_of_lt_of_le Z_pa1_w3 hb4.size)))
      | fail
      all_goals
        have hc5 : Below w2.heap.size w2 w4 := (hb3.trans (hb4.mono (by have := hb3.size; omega)))
        clear Q_pa00_w3 Q_pa01_w3 Q_pa02_w3 Z_pa0_w3 Q_pa10_w3 Q_pa11_w3 Q_pa12_w3 Z_pa1_w3 Q_pa00_w4 Q_pa01_w4 Q_pa02_w4 Z_pa0_w4 Q_pa10_w4 Q_pa11_w4 Q_pa12_w4 Z_pa1_w4 Z_pa0_w2 Q_pa00_w2 Q_pa01_w2 Q_pa02_w2 Z_pa1_w2 Q_pa10_w2 Q_pa11_w2 Q_pa12_w2
        have F_a0_w4 : Rd w4 w.heap.size (.slice A0 a0.length c0) (fl a0) := F_a0_w2.below (hc5.mono B_w2.size)
        have F_a1_w4 : Rd w4 w.heap.size (.slice A1 a1.length c1) (fl a1) := F_a1_w2.below (hc5.mono B_w2.size)
        have F_pa0_w4 : In w4 w.heap.size (w.heap.size + 1) (.slice (some ⟨w.heap.size, 0, none⟩) 3 3) ([.int .i64 p0, .int .i64 q0, (.slice A0 a0.length c0)]) := F_pa0_w2.step hc5
        have T_pa0_w4 : (w.heap.size + 1) ≤ w4.heap.size := Nat.le_trans T_pa0_w2 hc5.size
        have F_pa1_w4 : In w4 (w.heap.size + 1) w2.heap.size (.slice (some ⟨w.heap.size + 1, 0, none⟩) 3 3) ([.int .i64 p0, .int .i64 q1, (.slice A1 a1.length c1)]) := F_pa1_w2.step hc5
        have T_pa1_w4 : w2.heap.size ≤ w4.heap.size := Nat.le_trans T_pa1_w2 hc5.size
        have B_w4 : Below w.heap.size w w4 := B_w2.trans (hc5.mono B_w2.size)
        clear F_a0_w2 F_a1_w2 F_pa0_w2 T_pa0_w2 F_pa1_w2 T_pa1_w2 B_w2
        clear hc5 hb3 hb4
        go_wp2_with fail
        go_ret
        exact ⟨by rfl, B_w4⟩
    · have hp' : (p0 == p1) = false := beq_eq_false_iff_ne.2 hp
      clear hpq hp
      obtain ⟨A0, c0, hv0, hc01, hc02, hcell0⟩ := id h0
      rw [fl_len] at hv0
      clear hcell0 hc01 hc02
      subst hv0
      obtain ⟨A1, c1, hv1, hc11, hc12, hcell1⟩ := id h1
      rw [fl_len] at hv1
      clear hcell1 hc11 hc12
      subst hv1
      go_enter Try.func88, Try.ntmps88
      have F_a0_w : Rd w w.heap.size (.slice A0 a0.length c0) (fl a0) := h0
      have F_a1_w : Rd w w.heap.size (.slice A1 a1.length c1) (fl a1) := h1
      have B_w : Below w.heap.size w w := Below.refl _ _
      clear h0 h1
      go_wp2_with fail
      have hb1 : Below w.heap.size w (w.alloc (.cells #[.int .i64 p0, .int .i64 q0, (.slice A0 a0.length c0)] 36)) := (Below.refl _ _).alloc (Nat.le_refl _) _
      have O1 := own_box3 w (.int .i64 p0) (.int .i64 q0) ((.slice A0 a0.length c0)) 36
      have hs1 : (w.alloc (.cells #[.int .i64 p0, .int .i64 q0, (.slice A0 a0.length c0)] 36)).heap.size = w.heap.size + 1 := by simp
      generalize w.alloc (.cells #[.int .i64 p0, .int .i64 q0, (.slice A0 a0.length c0)] 36) = w1 at *
      have F_a0_w1 : Rd w1 w.heap.size (.slice A0 a0.length c0) (fl a0) := F_a0_w.below (hb1.mono B_w.size)
      have F_a1_w1 : Rd w1 w.heap.size (.slice A1 a1.length c1) (fl a1) := F_a1_w.below (hb1.mono B_w.size)
      have B_w1 : Below w.heap.size w w1 := B_w.trans (hb1.mono B_w.size)
      have S_pa0 : w.heap.size ≤ w.heap.size := B_w.size
      clear F_a0_w F_a1_w B_w
      have F_pa0_w1 : In w1 w.heap.size w1.heap.size (.slice (some ⟨w.heap.size, 0, none⟩) 3 3) ([.int .i64 p0, .int .i64 q0, (.slice A0 a0.length c0)]) := In.made O1
      have T_pa0_w1 : w1.heap.size ≤ w1.heap.size := Nat.le_refl _
      clear O1
      clear hb1
      have hb2 : Below w1.heap.size w1 (w1.alloc (.cells #[.int .i64 p1, .int .i64 q1, (.slice A1 a1.length c1)] 36)) := (Below.refl _ _).alloc (Nat.le_refl _) _
      have O2 := own_box3 w1 (.int .i64 p1) (.int .i64 q1) ((.slice A1 a1.length c1)) 36
      have hs2 : (w1.alloc (.cells #[.int .i64 p1, .int .i64 q1, (.slice A1 a1.length c1)] 36)).heap.size = w1.heap.size + 1 := by simp
      generalize w1.alloc (.cells #[.int .i64 p1, .int .i64 q1, (.slice A1 a1.length c1)] 36) = w2 at *
      have F_a0_w2 : Rd w2 w.heap.size (.slice A0 a0.length c0) (fl a0) := F_a0_w1.below (hb2.mono B_w1.size)
      have F_a1_w2 : Rd w2 w.heap.size (.slice A1 a1.length c1) (fl a1) := F_a1_w1.below (hb2.mono B_w1.size)
      have F_pa0_w2 : In w2 w.heap.size w1.heap.size (.slice (some ⟨w.heap.size, 0, none⟩) 3 3) ([.int .i64 p0, .int .i64 q0, (.slice A0 a0.length c0)]) := F_pa0_w1.step hb2
      have T_pa0_w2 : w1.heap.size ≤ w2.heap.size := Nat.le_trans T_pa0_w1 hb2.size
      have B_w2 : Below w.heap.size w w2 := B_w1.trans (hb2.mono B_w1.size)
      have S_pa1 : w.heap.size ≤ w1.heap.size := B_w1.size
      have D_pa0_pa1 : w1.heap.size ≤ w1.heap.size := T_pa0_w1
      clear F_a0_w1 F_a1_w1 F_pa0_w1 T_pa0_w1 B_w1
      have F_pa1_w2 : In w2 w1.heap.size w2.heap.size (.slice (some ⟨w1.heap.size, 0, none⟩) 3 3) ([.int .i64 p1, .int .i64 q1, (.slice A1 a1.length c1)]) := In.made O2
      have T_pa1_w2 : w2.heap.size ≤ w2.heap.size := Nat.le_refl _
      clear O2
      clear hb2
      rw [hs1] at F_pa0_w2 T_pa0_w2 F_pa1_w2 D_pa0_pa1 S_pa1
      clear hs1 hs2
      obtain ⟨_, Z_pa0_w2, c45, _⟩ := F_pa0_w2.1.cells' (by decide)
      have Q_pa00_w2 : w2.cell? ⟨w.heap.size, 0, none⟩ = some (.int .i64 p0) := c45 0 _ rfl
      have Q_pa01_w2 : w2.cell? ⟨w.heap.size, 1, none⟩ = some (.int .i64 q0) := c45 1 _ rfl
      have Q_pa02_w2 : w2.cell? ⟨w.heap.size, 2, none⟩ = some ((.slice A0 a0.length c0)) := c45 2 _ rfl
      clear c45
      obtain ⟨_, Z_pa1_w2, c50, _⟩ := F_pa1_w2.1.cells' (by decide)
      have Q_pa10_w2 : w2.cell? ⟨w.heap.size + 1, 0, none⟩ = some (.int .i64 p1) := c50 0 _ rfl
      have Q_pa11_w2 : w2.cell? ⟨w.heap.size + 1, 1, none⟩ = some (.int .i64 q1) := c50 1 _ rfl
      have Q_pa12_w2 : w2.cell? ⟨w.heap.size + 1, 2, none⟩ = some ((.slice A1 a1.length c1)) := c50 2 _ rfl
      clear c50
      first
      | go_region_with ((first | (go_at_call_of 112 A0; refine (sid_any p0 q0 A0 a0.length c0 _).mono ?_; rintro e w3 ⟨rfl, hb3⟩; replace hb3 : Below w2.heap.size w2 w3 := below_draw1 hb3; have Q_pa00_w3 : w3.cell? ⟨w.heap.size, 0, none⟩ = some (.int .i64 p0) := (hb3.cell (p := ⟨w.heap.size, 0, none⟩) Z_pa0_w2).trans Q_pa00_w2; have Q_pa01_w3 : w3.cell? ⟨w.heap.size, 1, none⟩ = some (.int .i64 q0) := (hb3.cell (p := ⟨w.heap.size, 1, none⟩) Z_pa0_w2).trans Q_pa01_w2; have Q_pa02_w3 : w3.cell? ⟨w.heap.size, 2, none⟩ = some ((.slice A0 a0.length c0)) := (hb3.cell (p := ⟨w.heap.size, 2, none⟩) Z_pa0_w2).trans Q_pa02_w2; have Z_pa0_w3 := Nat.lt_of_lt_of_le Z_pa0_w2 hb3.size; have Q_pa10_w3 : w3.cell? ⟨w.heap.size + 1, 0, none⟩ = some (.int .i64 p1) := (hb3.cell (p := ⟨w.heap.size + 1, 0, none⟩) Z_pa1_w2).trans Q_pa10_w2; have Q_pa11_w3 : w3.cell? ⟨w.heap.size + 1, 1, none⟩ = some (.int .i64 q1) := (hb3.cell (p := ⟨w.heap.size + 1, 1, none⟩) Z_pa1_w2).trans Q_pa11_w2; have Q_pa12_w3 : w3.cell? ⟨w.heap.size + 1, 2, none⟩ = some ((.slice A1 a1.length c1)) := (hb3.cell (p := ⟨w.heap.size + 1, 2, none⟩) Z_pa1_w2).trans Q_pa12_w2; have Z_pa1_w3 := Nat.lt_of_lt_of_le Z_pa1_w2 hb3.size) | (go_at_call_of 112 A1; refine (sid_any p1 q1 A1 a1.length c1 _).mono ?_; rintro e w4 ⟨rfl, hb4⟩; have Q_pa00_w4 : w4.cell? ⟨w.heap.size, 0, none⟩ = some (.int .i64 p0) := (hb4.cell (p := ⟨w.heap.size, 0, none⟩) Z_pa0_w3).trans Q_pa00_w3; have Q_pa01_w4 : w4.cell? ⟨w.heap.size, 1, none⟩ = some (.int .i64 q0) := (hb4.cell (p := ⟨w.heap.size, 1, none⟩) Z_pa0_w3).trans Q_pa01_w3; have Q_pa02_w4 : w4.cell? ⟨w.heap.size, 2, none⟩ = some ((.slice A0 a0.length c0)) := (hb4.cell (p := ⟨w.heap.size, 2, none⟩) Z_pa0_w3).trans Q_pa02_w3; have Z_pa0_w4 := Nat.lt_of_lt_of_le Z_pa0_w3 hb4.size; have Q_pa10_w4 : w4.cell? ⟨w.heap.size + 1, 0, none⟩ = some (.int .i64 p1) := (hb4.cell (p := ⟨w.heap.size + 1, 0, none⟩) Z_pa1_w3).trans Q_pa10_w3; have Q_pa11_w4 : w4.cell? ⟨w.heap.size + 1, 1, none⟩ = some (.int .i64 q1) := (hb4.cell (p := ⟨w.heap.size + 1, 1, none⟩) Z_pa1_w3).trans Q_pa11_w3; have Q_pa12_w4 : w4.cell? ⟨w.heap.size + 1, 2, none⟩ = some ((.slice A1 a1.length c1)) := (hb4.cell (p := ⟨w.heap.size + 1, 2, none⟩) Z_pa1_w3).trans Q_pa12_w3; have Z_pa1_w4 := Nat.lt_of_lt_of_le Z_pa1_w3 hb4.size)))
      | fail
      all_goals
        have hc5 : Below w2.heap.size w2 w4 := (hb3.trans (hb4.mono (by have := hb3.size; omega)))
        clear Q_pa00_w3 Q_pa01_w3 Q_pa02_w3 Z_pa0_w3 Q_pa10_w3 Q_pa11_w3 Q_pa12_w3 Z_pa1_w3 Q_pa00_w4 Q_pa01_w4 Q_pa02_w4 Z_pa0_w4 Q_pa10_w4 Q_pa11_w4 Q_pa12_w4 Z_pa1_w4 Z_pa0_w2 Q_pa00_w2 Q_pa01_w2 Q_pa02_w2 Z_pa1_w2 Q_pa10_w2 Q_pa11_w2 Q_pa12_w2
        have F_a0_w4 : Rd w4 w.heap.size (.slice A0 a0.length c0) (fl a0) := F_a0_w2.below (hc5.mono B_w2.size)
        have F_a1_w4 : Rd w4 w.heap.size (.slice A1 a1.length c1) (fl a1) := F_a1_w2.below (hc5.mono B_w2.size)
        have F_pa0_w4 : In w4 w.heap.size (w.heap.size + 1) (.slice (some ⟨w.heap.size, 0, none⟩) 3 3) ([.int .i64 p0, .int .i64 q0, (.slice A0 a0.length c0)]) := F_pa0_w2.step hc5
        have T_pa0_w4 : (w.heap.size + 1) ≤ w4.heap.size := Nat.le_trans T_pa0_w2 hc5.size
        have F_pa1_w4 : In w4 (w.heap.size + 1) w2.heap.size (.slice (some ⟨w.heap.size + 1, 0, none⟩) 3 3) ([.int .i64 p1, .int .i64 q1, (.slice A1 a1.length c1)]) := F_pa1_w2.step hc5
        have T_pa1_w4 : w2.heap.size ≤ w4.heap.size := Nat.le_trans T_pa1_w2 hc5.size
        have B_w4 : Below w.heap.size w w4 := B_w2.trans (hc5.mono B_w2.size)
        clear F_a0_w2 F_a1_w2 F_pa0_w2 T_pa0_w2 F_pa1_w2 T_pa1_w2 B_w2
        clear hc5 hb3 hb4
        go_wp2_with fail
        go_ret
        exact ⟨by rfl, B_w4⟩
end Go.Proofs.Ythkklilfignmpaa
