/-
  Copies of plain lists, for walks of regions.
-/
import Derived.Test.YthkklilfignmpaaPai
namespace Go.Proofs.Ythkklilfignmpaa
open Go.RowKit Fl
set_option linter.unusedVariables false
def MadeQ (xs : List Nat) (w : World) (e : Ending) (w' : World) : Prop :=
  ∃ g, e = .returned (.slice (some ⟨g, 0, none⟩) xs.length xs.length) ∧ Own w' w.heap.size (.slice (some ⟨g, 0, none⟩) xs.length xs.length) (fl xs) ∧ Below w.heap.size w w'
theorem toFP_any (v : Value) (xs : List Nat) (w : World) (h : Rd w w.heap.size v (fl xs)) (hm : xs.length ≤ 1048576) :
    Calls Try.prog 57 #[v] w (MadeQ xs w) := by
  refine (toF_any v xs w _ h (Nat.le_refl _) hm).mono ?_
  rintro e w1 ⟨g, rfl, P, hb⟩
  exact ⟨g, rfl, Own.row P, hb⟩
end Go.Proofs.Ythkklilfignmpaa
