/-
  Blocks of three cells (no program in it).
-/
import Derived.Test.YtfbdmhkmkmbipaaBx
import Derived.Deep.RegionHeld3
import Derived.Deep.CutRange
import Derived.Deep.DeepCutAuto
namespace Go.Proofs.Ytfbdmhkmkmbipaa
open Go.RowKit
set_option linter.unusedVariables false
theorem bx_threeL {W : World} {g : Nat} {a b c : Value} (h : Bx W g [a, b, c]) : W.cell? ⟨g, 0, none⟩ = some a ∧ W.cell? ⟨g, 1, none⟩ = some b ∧ W.cell? ⟨g, 2, none⟩ = some c ∧ W.frozen? ⟨g, 0, none⟩ = false ∧ W.frozen? ⟨g, 1, none⟩ = false ∧ W.frozen? ⟨g, 2, none⟩ = false :=
  ⟨(h.2 0 _ rfl).1, (h.2 1 _ rfl).1, (h.2 2 _ rfl).1, (h.2 0 _ rfl).2, (h.2 1 _ rfl).2, (h.2 2 _ rfl).2⟩
theorem bx_own3L {W : World} {g lo : Nat} {a b c : Value} (h : Bx W g [a, b, c]) (hl : lo ≤ g) : Own W lo (.slice (some ⟨g, 0, none⟩) 3 3) [a, b, c] := by
  refine ⟨some ⟨g, 0, none⟩, 3, rfl, Nat.le_refl _, by decide, fun _ => ⟨g, 0, rfl, hl, h.1, fun i x hx => ?_, fun i hi => ?_⟩⟩
  · rw [Nat.zero_add]; exact (h.2 i x hx).1
  · rw [Nat.zero_add]
    match i, hi with
    | 0, _ => exact (h.2 0 _ rfl).2
    | 1, _ => exact (h.2 1 _ rfl).2
    | 2, _ => exact (h.2 2 _ rfl).2
    | n + 3, hi => simp at hi; omega
end Go.Proofs.Ytfbdmhkmkmbipaa
