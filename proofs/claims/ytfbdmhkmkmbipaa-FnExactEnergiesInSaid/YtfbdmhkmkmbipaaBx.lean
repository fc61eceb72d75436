/-
  Blocks of a call's own, cell by cell (no program in it).
-/
import Derived.Test.YtfbdmhkmkmbipaaBox
namespace Go.Proofs.Ytfbdmhkmkmbipaa
open Go.RowKit
set_option linter.unusedVariables false

/-- A block holds these values, one a cell, and none of them is frozen. -/
def Bx (W : World) (g : Nat) (vs : List Value) : Prop := g < W.heap.size ∧ ∀ (i : Nat) (x : Value), vs[i]? = some x → W.cell? ⟨g, i, none⟩ = some x ∧ W.frozen? ⟨g, i, none⟩ = false
theorem Bx.below {W W' : World} {g B : Nat} {vs : List Value} (h : Bx W g vs) (hb : Below B W W') (hB : g < B) : Bx W' g vs :=
  ⟨Nat.lt_of_lt_of_le h.1 hb.size, fun i x hx => ⟨(hb.cell (p := ⟨g, i, none⟩) hB).trans (h.2 i x hx).1, (hb.frozen (p := ⟨g, i, none⟩) hB).trans (h.2 i x hx).2⟩⟩
theorem Bx.step {W W' : World} {g : Nat} {vs : List Value} (h : Bx W g vs) (hb : Below W.heap.size W W') : Bx W' g vs := h.below hb h.1
theorem Bx.set {W : World} {g : Nat} {vs : List Value} (h : Bx W g vs) (k : Nat) (hk : k < vs.length) (u : Value) : Bx (W.setCell ⟨g, k, none⟩ u) g (vs.set k u) := by
  refine ⟨by simpa [World.setCell] using h.1, fun i x hx => ?_⟩
  rw [World.frozen?_setCell]
  by_cases hik : i = k
  · subst hik
    rw [List.getElem?_set_self hk] at hx
    cases hx
    exact ⟨World.cell?_setCell_same _ _ _ (h.2 i vs[i] (List.getElem?_eq_getElem hk)).1, (h.2 i vs[i] (List.getElem?_eq_getElem hk)).2⟩
  · rw [List.getElem?_set_ne (fun e => hik e.symm)] at hx
    rw [World.cell?_setCell_other _ _ _ _ (by intro e; simp at e <;> omega)]
    exact h.2 i x hx
theorem Bx.other {W : World} {g g' : Nat} {vs : List Value} (h : Bx W g vs) (hg : g' ≠ g) (k : Nat) (u : Value) : Bx (W.setCell ⟨g', k, none⟩ u) g vs := by
  refine ⟨by simpa [World.setCell] using h.1, fun i x hx => ?_⟩
  rw [World.frozen?_setCell, World.cell?_setCell_other _ _ _ _ (by intro e; simp at e <;> omega)]
  exact h.2 i x hx
theorem bx_new (w : World) (vs : List Value) (T : TypeId) : Bx (w.alloc (.cells vs.toArray T)) w.heap.size vs := by
  refine ⟨by simp, fun i x hx => ⟨?_, frozen_of_row _ _ _ _ _ (heap_alloc_new w _)⟩⟩
  rw [cell_of_row _ _ i _ _ _ (heap_alloc_new w _)]
  simpa using hx
end Go.Proofs.Ytfbdmhkmkmbipaa
