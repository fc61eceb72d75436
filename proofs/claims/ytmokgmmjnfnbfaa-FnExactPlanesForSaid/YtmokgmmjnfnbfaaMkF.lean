/-
  Contracts: the law's own marks of lists of 32-bit floats.
-/
import Derived.Test.YtmokgmmjnfnbfaaFin
import Derived.Test.YtmokgmmjnfnbfaaMem
namespace Go.Proofs.Ytmokgmmjnfnbfaa
open Go.RowKit Fl
set_option linter.unusedVariables false

theorem foi_not (n : Int) : isN .f32 (floatOfInt .f32 n) = false := by
  unfold floatOfInt FloatKind.nearest isN
  exact read_write _ _ rfl
theorem foi_neq (n : Int) : (FloatKind.f32.format.order (floatOfInt .f32 n) (floatOfInt .f32 n) != some .eq) = false := by
  rw [neq_self, foi_not]
/-- The marks from k on. -/
def mkF (k : Int) (i : Nat) : Value := .float .f32 (floatOfInt .f32 (k + i))
def MkRelF (w : World) (b off n : Nat) (k0 : Int) (k i : Value) (wr : World) : Prop := ∃ j : Nat, j ≤ n ∧ i = .int .i64 j ∧ k = .int .i64 (k0 + j) ∧ wr = putK w b off (mkF k0) j
def HdRelF (n : Nat) (k0 : Int) (k i : Value) : Prop := ∃ j : Nat, j ≤ n ∧ i = .int .i64 j ∧ k = .int .i64 (k0 + j)
end Go.Proofs.Ytmokgmmjnfnbfaa
