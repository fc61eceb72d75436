/-
  Contracts: pictures that are the same, by the model.
-/
import Derived.Test.YthkklilfignmpaaSpc
namespace Go.Proofs.Ythkklilfignmpaa
open Go.RowKit Fl
set_option linter.unusedVariables false

set_option maxRecDepth 100000 in
set_option maxHeartbeats 4000000 in
theorem spcP_any (g g' : Nat) (v0 v1 : Value) (p0 q0 p1 q1 : Int) (a0 a1 : List Nat) (w : World) (B : Nat) (h0 : Rd w B v0 (fl a0)) (h1 : Rd w B v1 (fl a1)) (hm0 : a0.length ≤ 1048576) (hm1 : a1.length ≤ 1048576) (HX0 : ∀ x ∈ a0, x < 2 ^ 32) (HX1 : ∀ x ∈ a1, x < 2 ^ 32)
    (k0 : w.cell? ⟨g, 0, none⟩ = some (.int .i64 p0)) (k1 : w.cell? ⟨g, 1, none⟩ = some (.int .i64 q0)) (k2 : w.cell? ⟨g, 2, none⟩ = some v0)
    (k3 : w.cell? ⟨g', 0, none⟩ = some (.int .i64 p1)) (k4 : w.cell? ⟨g', 1, none⟩ = some (.int .i64 q1)) (k5 : w.cell? ⟨g', 2, none⟩ = some v1) :
    Calls Try.prog 83 #[.pointer (some ⟨g, 0, none⟩), .pointer (some ⟨g', 0, none⟩)] w (RetBo (spcB p0 q0 a0 p1 q1 a1) w) := by
  obtain ⟨A0, c0, hv0, _, _, _⟩ := id h0
  obtain ⟨A1, c1, hv1, _, _, _⟩ := id h1
  rw [fl_len] at hv0 hv1
  subst hv0 hv1
  have HQ := Lib.hid (fun a => (wsP_any (.slice A0 a0.length c0) (.slice A1 a1.length c1) a0 a1 (w.drewN a) B B (h0.drewN a) (h1.drewN a) hm0 hm1 HX0 HX1).mono (R' := fun e w'' => e = .returned (.bool (wsB a0 a1)) ∧ ∃ q, w'' = w.drewN q) fun e w' ⟨he, q, hw⟩ => ⟨he, a + q, by rw [hw, World.drewN_drewN]⟩)
  clear h0 h1
  by_cases hp : p0 = p1
  · by_cases hq : q0 = q1
    · subst hp hq
      rw [show spcB p0 q0 a0 p0 q0 a1 = wsB a0 a1 by simp [spcB]]
      go_enter Try.func83, Try.ntmps83
      go_wp2_with fail
      go_quiet ((exact HQ.out _))
      go_wp2
      go_ret
      exact ⟨rfl, _, rfl⟩
    · rw [show spcB p0 q0 a0 p1 q1 a1 = false by simp [spcB, hq]]
      have hq' : (q0 == q1) = false := beq_eq_false_iff_ne.2 hq
      have hq2 : decide (q0 = q1) = false := decide_eq_false hq
      subst hp
      clear hq
      go_enter Try.func83, Try.ntmps83
      go_wp2_with fail
      go_quiet ((exact HQ.out _))
      go_wp2
      go_ret
      exact ⟨rfl, _, rfl⟩
  · rw [show spcB p0 q0 a0 p1 q1 a1 = false by simp [spcB, hp]]
    have hp' : (p0 == p1) = false := beq_eq_false_iff_ne.2 hp
    have hp2 : decide (p0 = p1) = false := decide_eq_false hp
    clear hp
    go_enter Try.func83, Try.ntmps83
    go_wp2_with fail
    go_quiet ((exact HQ.out _))
    go_wp2
    go_ret
    exact ⟨rfl, _, rfl⟩
end Go.Proofs.Ythkklilfignmpaa
