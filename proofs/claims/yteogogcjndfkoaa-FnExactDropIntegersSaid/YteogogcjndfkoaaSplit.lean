/-
  Contracts: SplitIntegers of both sides.
-/
import Derived.Test.YteogogcjndfkoaaHalf
namespace Go.Proofs.Yteogogcjndfkoaa
open Go.RowKit
set_option linter.unusedVariables false

/-- Returns two lists of its own, and whether there are any. -/
def RetLLB (xs ys : List Int) (b : Bool) (w : World) (e : Ending) (w' : World) : Prop :=
  ∃ v u, e = .returned (.tuple #[v, u, .bool b]) ∧ Own w' w.heap.size v (il xs) ∧ Own w' w.heap.size u (il ys) ∧ Apart u v ∧ Below w.heap.size w w'
theorem own_nil (w : World) (lo : Nat) : Own w lo (.slice none 0 0) (il []) := ⟨none, 0, rfl, Nat.le_refl _, Nat.zero_le _, fun h => absurd h (by simp [il])⟩
theorem apart_nil (v : Value) : Apart (.slice none 0 0) v := fun a n c b m d e1 _ => by cases e1
def spE (xs : List Int) : List Int := if areB xs then evF xs else []
def spO (xs : List Int) : List Int := if areB xs then odF xs else []
theorem spE_len (xs : List Int) : (spE xs).length ≤ 128 := by
  unfold spE; split
  · rename_i h; have := areB_len h; rw [evF_len]; omega
  · simp
theorem spO_len (xs : List Int) : (spO xs).length ≤ 128 := by
  unfold spO; split
  · rename_i h; have := areB_len h; rw [odF_len]; omega
  · simp
theorem half_any (vl : Value) (xs : List Int) (w : World) (h : Rd w w.heap.size vl (il xs)) (h1 : 1 ≤ xs.length) (h2 : xs.length ≤ 1048576) :
    Calls Try.prog 61 #[vl] w (RetLL (evF xs) (odF xs) w) := by
  by_cases hp : xs.length = 1
  · exact splI_one _ _ _ h h2 hp
  · exact splI_any _ _ _ h h2 (by omega)
set_option maxHeartbeats 400000 in
theorem spI_any (vl : Value) (xs : List Int) (w : World) (h : Rd w w.heap.size vl (il xs)) (hm : xs.length ≤ 1048576) :
    Calls Try.prog 26 #[vl] w (RetLLB (spE xs) (spO xs) (areB xs) w) := by
  cases ha : areB xs with
  | true =>
    have hl := areB_len ha
    rw [show spE xs = evF xs by unfold spE; rw [ha]; rfl, show spO xs = odF xs by unfold spO; rw [ha]; rfl]
    have HA := Lib.hid ha
    clear ha
    go_enter Try.func26, Try.ntmps26
    go_wp2_with (first | (go_at_call 21; refine (areI_any _ _ _ _ h hm).mono ?_; rintro e w' ⟨rfl, rfl⟩; rw [HA.out]) | (go_at_call 61; refine (half_any _ _ _ h hl.1 hm).mono ?_; rintro e w1 ⟨v, u, rfl, o1, o2, ap, hb⟩))
    go_ret3
    exact ⟨_, _, rfl, o1, o2, ap, hb⟩
  | false =>
    rw [show spE xs = [] by unfold spE; rw [ha]; rfl, show spO xs = [] by unfold spO; rw [ha]; rfl]
    have HA := Lib.hid ha
    clear ha
    go_enter Try.func26, Try.ntmps26
    go_wp2_with (go_at_call 21; refine (areI_any _ _ _ _ h hm).mono ?_; rintro e w' ⟨rfl, rfl⟩; rw [HA.out])
    go_ret3
    exact ⟨_, _, rfl, own_nil _ _, own_nil _ _, apart_nil _, Below.refl _ _⟩
set_option maxHeartbeats 400000 in
theorem spS_any (vl : Value) (xs : List Int) (w : World) (h : Rd w w.heap.size vl (il xs)) (hm : xs.length ≤ 1048576) :
    Calls Try.prog 25 #[vl] w (RetLLB (spE xs) (spO xs) (areB xs) w) := by
  cases ha : areB xs with
  | true =>
    rw [show spE xs = evF xs by unfold spE; rw [ha]; rfl, show spO xs = odF xs by unfold spO; rw [ha]; rfl]
    have HA := Lib.hid ha
    clear ha
    go_enter Try.func25, Try.ntmps25
    go_wp2_with (first | (go_at_call 54; refine (areS_any _ _ _ _ h hm).mono ?_; rintro e w' ⟨rfl, rfl⟩; rw [HA.out]) | (go_at_call 60; refine (splS_any _ _ _ h hm).mono ?_; rintro e w1 ⟨v, u, rfl, o1, o2, ap, hb⟩))
    go_ret3
    exact ⟨_, _, rfl, o1, o2, ap, hb⟩
  | false =>
    rw [show spE xs = [] by unfold spE; rw [ha]; rfl, show spO xs = [] by unfold spO; rw [ha]; rfl]
    have HA := Lib.hid ha
    clear ha
    go_enter Try.func25, Try.ntmps25
    go_wp2_with (go_at_call 54; refine (areS_any _ _ _ _ h hm).mono ?_; rintro e w' ⟨rfl, rfl⟩; rw [HA.out])
    go_ret3
    exact ⟨_, _, rfl, own_nil _ _, own_nil _ _, apart_nil _, Below.refl _ _⟩
end Go.Proofs.Yteogogcjndfkoaa
