/-
  What a function answers that hands back a code, or a number and yes or no.
-/
import Derived.Test.YtdlginbmelbfgaaCiL
namespace Go.Proofs.Ytdlginbmelbfgaa
open Go.RowKit Fl
set_option linter.unusedVariables false

def RetCs (P Q : Int) (L : List Bool) (b : Bool) (w : World) (e : Ending) (w' : World) : Prop :=
  ∃ A c, e = .returned (.tuple #[.agg #[.int .i64 P, .int .i64 Q, .slice A L.length c], .bool b]) ∧ Own w' w.heap.size (.slice A L.length c) (bl L) ∧ Below w.heap.size w w'
theorem retCs {P Q : Int} {L : List Bool} {b : Bool} {w w' : World} {e : Ending} (h : RetCd P Q L b w e w') : RetCs P Q L b w e w' := by
  obtain ⟨v, he, ho, hb⟩ := h
  obtain ⟨A, c, hv, _, _, _⟩ := id ho
  rw [bl_len] at hv
  subst hv
  exact ⟨A, c, he, ho, hb⟩
end Go.Proofs.Ytdlginbmelbfgaa
