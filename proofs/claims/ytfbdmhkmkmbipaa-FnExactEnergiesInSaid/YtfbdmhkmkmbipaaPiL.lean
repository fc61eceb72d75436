/-
  What a function answers that hands back a picture, or a number and yes or no.
-/
import Derived.Test.YtfbdmhkmkmbipaaPic
import Derived.Test.YtfbdmhkmkmbipaaTw
import Derived.Deep.RegionHeld3
namespace Go.Proofs.Ytfbdmhkmkmbipaa
open Go.RowKit Fl
set_option linter.unusedVariables false

/-- A picture of these sides and lights, in memory of its own, and yes or no. -/
def RetPc (P Q : Int) (L : List Nat) (b : Bool) (w : World) (e : Ending) (w' : World) : Prop :=
  ∃ v, e = .returned (.tuple #[.agg #[.int .i64 P, .int .i64 Q, v], .bool b]) ∧ Own w' w.heap.size v (fl L) ∧ Below w.heap.size w w'
/-- A number worth this one, and yes or no. -/
def RetFb (c : Nat) (b : Bool) (w : World) (e : Ending) (w' : World) : Prop :=
  ∃ r, e = .returned (.tuple #[.float .f32 r, .bool b]) ∧ Is .f32 r c ∧ Below w.heap.size w w'
theorem own_none (w : World) (lo : Nat) : Own w lo (.slice none 0 0) (fl []) := ⟨none, 0, rfl, Nat.le_refl _, Nat.zero_le _, fun h => absurd h (by simp [fl])⟩
theorem retPc_no (w w' : World) (h : Below w.heap.size w w') : RetPc 0 0 [] false w (.returned (.tuple #[.agg #[.int .i64 0, .int .i64 0, .slice none 0 0], .bool false])) w' :=
  ⟨_, rfl, own_none _ _, h⟩
end Go.Proofs.Ytfbdmhkmkmbipaa
