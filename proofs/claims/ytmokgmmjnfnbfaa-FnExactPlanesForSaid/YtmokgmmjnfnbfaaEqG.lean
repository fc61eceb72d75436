/-
  Contracts: the law's own comparison of lists of 32-bit floats.
-/
import Derived.Test.YtmokgmmjnfnbfaaListF
import Derived.Test.YtmokgmmjnfnbfaaCallA
import Derived.Deep.RegionWith
namespace Go.Proofs.Ytmokgmmjnfnbfaa
open Go.RowKit Fl
set_option linter.unusedVariables false

/-- Both lists are worth the same. -/
def Worth (xs ys : List Nat) : Prop := xs.map (cn .f32) = ys.map (cn .f32)
theorem Worth.refl (xs : List Nat) : Worth xs xs := rfl
theorem Worth.len {xs ys : List Nat} (h : Worth xs ys) : xs.length = ys.length := by
  have := congrArg List.length h; simpa using this
theorem Worth.at {xs ys : List Nat} (h : Worth xs ys) (k : Nat) (h1 : k < xs.length) (h2 : k < ys.length) : cn .f32 xs[k] = cn .f32 ys[k] := by
  have := congrArg (fun l => l[k]?) h
  simpa [h1, h2] using this
def EqRel (w : World) (n : Nat) (i : Value) (wr : World) : Prop := ∃ k m : Nat, k ≤ n ∧ i = .int .i64 k ∧ wr = w.drewN m

end Go.Proofs.Ytmokgmmjnfnbfaa
