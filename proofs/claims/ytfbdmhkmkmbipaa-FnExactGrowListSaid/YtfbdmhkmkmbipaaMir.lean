/-
  Contracts: mirrored indices of both sides.
-/
import Derived.Test.YtfbdmhkmkmbipaaChecked
import Derived.WalkKit
import Derived.Handy
import Derived.Lib.Hide
import Derived.Test.YtfbdmhkmkmbipaaIn
import Derived.WalkMore
namespace Go.Proofs.Ytfbdmhkmkmbipaa
open Go.RowKit
set_option linter.unusedVariables false

/-- To which index i is mirrored in n numbers. -/
def mir (n i : Int) : Int :=
  if n = 1 then 0 else
  let j := i.tmod (2 * (n - 1))
  let k := if j < 0 then -j else j
  if n ≤ k then 2 * (n - 1) - k else k
theorem tmod_bd (i m : Int) (hm : 0 < m) : -m < i.tmod m ∧ i.tmod m < m := by
  have h1 := Int.tmod_lt_of_pos i hm
  have h2 := Int.lt_tmod_of_pos i hm
  omega
theorem mir_bd (n i : Int) (h : 1 ≤ n) : 0 ≤ mir n i ∧ mir n i < n := by
  unfold mir
  by_cases h1 : n = 1
  · simp [h1]
  · rw [if_neg h1]
    have := tmod_bd i (2 * (n - 1)) (by omega)
    simp only []
    split <;> split <;> omega
theorem mir_j {n i j : Int} (h1 : n ≠ 1) (hj : i.tmod (2 * (n - 1)) = j) : mir n i = if n ≤ (if j < 0 then -j else j) then 2 * (n - 1) - (if j < 0 then -j else j) else if j < 0 then -j else j := by
  unfold mir; rw [if_neg h1, hj]

/-- What a mirroring still has to do. -/
def MirR (n r v : Int) : Prop := (0 ≤ v ∧ v < n ∧ v = r) ∨ (n ≤ v ∧ v ≤ 2 * (n - 1) ∧ 2 * (n - 1) - v = r) ∨ (v < 0 ∧ -v < n ∧ -v = r) ∨ (v < 0 ∧ n ≤ -v ∧ -v ≤ 2 * (n - 1) ∧ 2 * (n - 1) + v = r)
def mirM (n v : Int) : Nat := if v < 0 then 2 else if n ≤ v then 1 else 0
theorem mirM_down {n v u : Int} (hn : 1 ≤ n) (h : (n ≤ v ∧ 0 ≤ u ∧ u < n) ∨ (v < 0 ∧ 0 ≤ u)) : mirM n u < mirM n v := by
  unfold mirM
  by_cases h1 : v < 0 <;> by_cases h2 : u < 0 <;> by_cases h3 : n ≤ v <;> by_cases h4 : n ≤ u <;> simp only [h1, h2, h3, h4, if_true, if_false] <;> omega
end Go.Proofs.Ytfbdmhkmkmbipaa
