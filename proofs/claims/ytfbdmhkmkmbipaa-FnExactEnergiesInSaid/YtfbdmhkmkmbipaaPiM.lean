/-
  What a function answers that hands back a picture, or a number and yes or no.
-/
import Derived.Test.YtfbdmhkmkmbipaaPiL
namespace Go.Proofs.Ytfbdmhkmkmbipaa
open Go.RowKit Fl
set_option linter.unusedVariables false

def RetPs (P Q : Int) (L : List Nat) (b : Bool) (w : World) (e : Ending) (w' : World) : Prop :=
  ∃ A c, e = .returned (.tuple #[.agg #[.int .i64 P, .int .i64 Q, .slice A L.length c], .bool b]) ∧ Own w' w.heap.size (.slice A L.length c) (fl L) ∧ Below w.heap.size w w'
theorem retPs {P Q : Int} {L : List Nat} {b : Bool} {w w' : World} {e : Ending} (h : RetPc P Q L b w e w') : RetPs P Q L b w e w' := by
  obtain ⟨v, he, ho, hb⟩ := h
  obtain ⟨A, c, hv, _, _, _⟩ := id ho
  rw [fl_len] at hv
  subst hv
  exact ⟨A, c, he, ho, hb⟩
end Go.Proofs.Ytfbdmhkmkmbipaa
