/-
  What a function answers that hands back a code, or a number and yes or no.
-/
import Derived.Test.YthkklilfignmpaaCod
import Derived.Test.YthkklilfignmpaaTw
import Derived.Deep.RegionHeld3
namespace Go.Proofs.Ythkklilfignmpaa.Cf
open Go.RowKit Fl
set_option linter.unusedVariables false

/-- A code of these sides and lights, in memory of its own, and yes or no. -/
def RetCd (P Q : Int) (L : List Bool) (b : Bool) (w : World) (e : Ending) (w' : World) : Prop :=
  ∃ v, e = .returned (.tuple #[.agg #[.int .i64 P, .int .i64 Q, v], .bool b]) ∧ Own w' w.heap.size v (bl L) ∧ Below w.heap.size w w'
theorem own_noneB (w : World) (lo : Nat) : Own w lo (.slice none 0 0) (bl []) := ⟨none, 0, rfl, Nat.le_refl _, Nat.zero_le _, fun h => absurd h (by simp [bl])⟩
theorem retCd_no (w w' : World) (h : Below w.heap.size w w') : RetCd 0 0 [] false w (.returned (.tuple #[.agg #[.int .i64 0, .int .i64 0, .slice none 0 0], .bool false])) w' :=
  ⟨_, rfl, own_noneB _ _, h⟩
end Go.Proofs.Ythkklilfignmpaa.Cf
