/-
  Contracts: a number if it is finite; whether an integer lies in bounds.
-/
import Derived.Test.YthkklilfignmpaaEn
import Derived.Test.YthkklilfignmpaaIn
namespace Go.Proofs.Ythkklilfignmpaa
open Go.RowKit Fl
set_option linter.unusedVariables false

theorem inS_any (n lo hi : Int) (w : World) : Calls Try.prog 131 #[.int .i64 n, .int .i64 lo, .int .i64 hi] w (RetBo (decide (lo ≤ n ∧ n ≤ hi)) w) := by
  by_cases h : lo ≤ n ∧ n ≤ hi
  · rw [decide_eq_true h]
    exact (in_yes n lo hi w h.1 h.2).mono fun e w' h => ⟨h.1, 0, h.2.symm⟩
  · rw [decide_eq_false h]
    exact (in_not n lo hi w (by omega)).mono fun e w' h => ⟨h.1, 0, h.2.symm⟩
def fnV (c : Nat) : Nat := if finB .f32 c then c else 0
end Go.Proofs.Ythkklilfignmpaa
