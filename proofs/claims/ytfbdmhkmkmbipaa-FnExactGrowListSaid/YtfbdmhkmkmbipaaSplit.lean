/-
  Contracts: SplitIntegers of both sides.
-/
import Derived.Test.YtfbdmhkmkmbipaaHalf
namespace Go.Proofs.Ytfbdmhkmkmbipaa
open Go.RowKit
set_option linter.unusedVariables false

/-- Returns two lists of its own, and whether there are any. -/
def RetLLB (xs ys : List Int) (b : Bool) (w : World) (e : Ending) (w' : World) : Prop :=
  ∃ v u, e = .returned (.tuple #[v, u, .bool b]) ∧ Own w' w.heap.size v (il xs) ∧ Own w' w.heap.size u (il ys) ∧ Apart u v ∧ Below w.heap.size w w'
theorem own_nil (w : World) (lo : Nat) : Own w lo (.slice none 0 0) (il []) := ⟨none, 0, rfl, Nat.le_refl _, Nat.zero_le _, fun h => absurd h (by simp [il])⟩
theorem apart_nil (v : Value) : Apart (.slice none 0 0) v := fun a n c b m d e1 _ => by cases e1
def spE (xs : List Int) : List Int := if areB xs then evF xs else []
def spO (xs : List Int) : List Int := if areB xs then odF xs else []
theorem spE_len (xs : List Int) : (spE xs).length ≤ 128 := by
  unfold spE; split
  · rename_i h; have := areB_len h; rw [evF_len]; omega
  · simp
theorem spO_len (xs : List Int) : (spO xs).length ≤ 128 := by
  unfold spO; split
  · rename_i h; have := areB_len h; rw [odF_len]; omega
  · simp
end Go.Proofs.Ytfbdmhkmkmbipaa
