/-
  Worlds that draw and make the same block some times: for regions that hold calls which box what they are handed (no program in it).
-/
import Derived.Test.YtfbdmhkmkmbipaaSft
namespace Go.Proofs.Ytfbdmhkmkmbipaa.Sf
open Go.RowKit Fl
set_option linter.unusedVariables false

structure Dk where
  d : Nat
  k : Nat
instance : Nonempty Dk := ⟨⟨0, 0⟩⟩
/-- Draws, then k times the same new block. -/
def alQ (O : Obj) (W : World) (q : Dk) : World := alK O q.k (W.drewN q.d)
theorem alQ_closed (O : Obj) (W : World) : ∀ w n, (∃ q, w = alQ O W q) → ∃ q, w.drewN n = alQ O W q := by
  rintro w n ⟨q, rfl⟩
  exact ⟨⟨q.d + n, q.k⟩, by unfold alQ; rw [alK_drewN, World.drewN_drewN]⟩
theorem alQ_next (O : Obj) (W : World) (q : Dk) (n : Nat) : ∃ q', ((alQ O W q).alloc O).drewN n = alQ O W q' :=
  ⟨⟨q.d + n, q.k + 1⟩, by show (alK O (q.k + 1) (W.drewN q.d)).drewN n = _; rw [alK_drewN, World.drewN_drewN]; rfl⟩
theorem alQ_cell (O : Obj) (W : World) {b o : Nat} {v : Value} (h : W.cell? ⟨b, o, none⟩ = some v) (q : Dk) : (alQ O W q).cell? ⟨b, o, none⟩ = some v :=
  ((alK_below O (W.drewN q.d) q.k).cell (p := ⟨b, o, none⟩) (World.block_lt_of_cell? W _ h)).trans h
theorem alQ_below (O : Obj) (W : World) (q : Dk) : Below W.heap.size W (alQ O W q) := by
  have h0 : Below W.heap.size W (W.drewN q.d) := by
    have h := Below.refl W.heap.size W
    exact ⟨h.os, h.tape, h.output, h.size, h.block⟩
  exact h0.trans (alK_below O (W.drewN q.d) q.k)
/-- The worlds that only grew. -/
structure Gw (W : World) where
  w : World
  h : Below W.heap.size W w
instance (W : World) : Nonempty (Gw W) := ⟨⟨W, Below.refl _ _⟩⟩
def gw_draw (W : World) (n : Nat) : Gw W := ⟨W.drewN n, by have h := Below.refl W.heap.size W; exact ⟨h.os, h.tape, h.output, h.size, h.block⟩⟩
theorem gw_closed (W : World) : ∀ w n, (∃ q : Gw W, w = q.w) → ∃ q : Gw W, w.drewN n = q.w := by
  rintro w n ⟨q, rfl⟩
  exact ⟨⟨q.w.drewN n, ⟨q.h.os, q.h.tape, q.h.output, q.h.size, q.h.block⟩⟩, rfl⟩
theorem Gw.cell {W : World} (q : Gw W) {b o : Nat} {v : Value} (h : W.cell? ⟨b, o, none⟩ = some v) : q.w.cell? ⟨b, o, none⟩ = some v :=
  (q.h.cell (p := ⟨b, o, none⟩) (World.block_lt_of_cell? W _ h)).trans h
theorem Gw.next {W w' : World} (q : Gw W) (hb : Below q.w.heap.size q.w w') : ∃ q' : Gw W, w' = q'.w := ⟨⟨w', q.h.trans (hb.mono q.h.size)⟩, rfl⟩
end Go.Proofs.Ytfbdmhkmkmbipaa.Sf
