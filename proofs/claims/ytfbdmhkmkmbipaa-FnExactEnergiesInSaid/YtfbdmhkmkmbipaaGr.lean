/-
  Contracts: a picture whose lights are told by their places, by the model.
-/
import Derived.Test.YtfbdmhkmkmbipaaPv
import Derived.Test.YtfbdmhkmkmbipaaPiL
import Derived.Deep.AppendLies
namespace Go.Proofs.Ytfbdmhkmkmbipaa
open Go.RowKit Fl
set_option linter.unusedVariables false

theorem row_setNe {w : World} {lo n : Nat} {e : TypeId} {v : Value} {xs : List Value} (h : w.ownsRow lo e 1 v n xs) {a : Addr} (ha : v.ownBlock ≠ some a.block) (u : Value) : (w.setCell a u).ownsRow lo e 1 v n xs := by
  refine ⟨h.1, ?_⟩
  rcases h.2 with h2 | ⟨g, cap, cur, rfl, hb, hg, r⟩
  · exact .inl h2
  · refine .inr ⟨g, cap, cur, rfl, hb, ?_, r⟩
    rw [Below.heap_setCell _ _ _ _ (fun e => ha (by simp [Value.ownBlock, e]))]; exact hg
theorem one_newG (w : World) (x : Value) (E : TypeId) : ∀ j u, [x][j]? = some u → (w.alloc (.cells #[x] E)).cell? ((⟨w.heap.size, 0, none⟩ : Addr).add j) = some u := by
  intro j u hu
  cases j with
  | zero =>
    simp at hu; subst hu
    exact (cell_of_row _ _ _ _ _ _ (heap_alloc_new w _)).trans rfl
  | succ j => simp at hu
theorem one_cellG (x : Nat) : ∀ u ∈ [Value.float .f32 x], u.oneCell' = true := by
  intro u hu; simp at hu; subst hu; rfl
/-- A box holds a picture that grows: sides, and the row of lights so far; the answer's box lies at c. -/
def Gro (w0 : World) (lo g : Nat) (W H : Int) (k : Nat) (L : List Nat) (v : Value) (wr : World) : Prop :=
  wr.cell? ⟨g, 0, none⟩ = some (.int .i64 W) ∧ wr.cell? ⟨g, 1, none⟩ = some (.int .i64 H) ∧ wr.cell? ⟨g, 2, none⟩ = some v ∧ wr.frozen? ⟨g, 2, none⟩ = false ∧ g < wr.heap.size ∧ v.ownBlock ≠ some g ∧
    wr.ownsRow lo 23 1 v k (fl L) ∧ Below w0.heap.size w0 wr ∧ lo ≤ wr.heap.size ∧ lo ≤ g ∧ w0.heap.size ≤ lo
theorem fl_appG (xs : List Nat) (x : Nat) : fl xs ++ [.float .f32 x] = fl (xs ++ [x]) := by simp [fl]
/-- The append, and the store behind it. -/
theorem Gro.push {w0 wr w4 : World} {lo g k g' cap x : Nat} {W H : Int} {L : List Nat} {v : Value} {o : Obj} (h : Gro w0 lo g W H k L v wr)
    (hown : w4.ownsRow lo 23 1 (.slice (some ⟨g', 0, none⟩) (k + 1) cap) (k + 1) (fl L ++ [.float .f32 x])) (hgrow : (wr.alloc o).grownBy w4 v.ownBlock) (hat : v.ownBlock = some g' ∨ g' = (wr.alloc o).heap.size) :
    Gro w0 lo g W H (k + 1) (L ++ [x]) (.slice (some ⟨g', 0, none⟩) (k + 1) cap) (w4.setCell ⟨g, 2, none⟩ (.slice (some ⟨g', 0, none⟩) (k + 1) cap)) ∧ w4.cell? ⟨g, 2, none⟩ = some v ∧ w4.frozen? ⟨g, 2, none⟩ = false := by
  obtain ⟨h0, h1, h2, h3, h4, h5, h6, h7, h8, h9, h10⟩ := h
  have hb : Below wr.heap.size wr (wr.alloc o) := (Below.refl _ _).alloc (Nat.le_refl _) _
  have ne : some g ≠ v.ownBlock := fun e => h5 e.symm
  have c0 := hgrow.cell (a := ⟨g, 0, none⟩) ((hb.cell (p := ⟨g, 0, none⟩) h4).trans h0) ne
  have c1 := hgrow.cell (a := ⟨g, 1, none⟩) ((hb.cell (p := ⟨g, 1, none⟩) h4).trans h1) ne
  have c2 := hgrow.cell (a := ⟨g, 2, none⟩) ((hb.cell (p := ⟨g, 2, none⟩) h4).trans h2) ne
  have f2 : w4.frozen? ⟨g, 2, none⟩ = false := (hgrow.frozen_far ⟨g, 2, none⟩ (by simp; try omega) ne).trans ((hb.frozen (p := ⟨g, 2, none⟩) h4).trans h3)
  have hz : wr.heap.size + 1 ≤ w4.heap.size := by have := hgrow.size; simp at this; exact this
  have ng : g' ≠ g := by
    rcases hat with e | e
    · intro e2; subst e2; exact h5 e
    · simp at e; omega
  have nb : (Value.slice (some ⟨g', 0, none⟩) (k + 1) cap).ownBlock ≠ some g := by simp [Value.ownBlock, ng]
  refine ⟨⟨?_, ?_, World.cell?_setCell_same _ _ _ c2, by rw [World.frozen?_setCell]; exact f2, by simp [World.setCell]; try omega, nb, ?_, ?_, by simp [World.setCell]; try omega, h9, h10⟩, c2, f2⟩
  · rw [World.cell?_setCell_other _ _ _ _ (by simp)]; exact c0
  · rw [World.cell?_setCell_other _ _ _ _ (by simp)]; exact c1
  · rw [fl_appG] at hown; exact row_setNe hown nb _
  · refine Below.setCell ?_ (p := ⟨g, 2, none⟩) (by show _ ≤ g; omega) _
    exact (h7.alloc (by omega) o).grown hgrow (by simp; try omega) (fun j hj => by have := (h6.lt j hj).1; omega)
theorem row_own {w : World} {lo n : Nat} {v : Value} {xs : List Nat} (h : w.ownsRow lo 23 1 v n (fl xs)) : Own w lo v (fl xs) := Own.row h
/-- A picture with these sides and lights, in memory of its own. -/
def RetAg (W H : Int) (L : List Nat) (w : World) (e : Ending) (w' : World) : Prop := ∃ v, e = .returned (.agg #[.int .i64 W, .int .i64 H, v]) ∧ Own w' w.heap.size v (fl L) ∧ Below w.heap.size w w'
theorem range_push (k : Nat) (f : Nat → Nat) : (List.range k).map f ++ [f k] = (List.range (k + 1)).map f := by simp [List.range_succ]
theorem row_nil (w : World) : (w.alloc (.cells #[] 23)).ownsRow w.heap.size 23 1 (.slice (some ⟨w.heap.size, 0, none⟩) 0 0) 0 (fl []) :=
  World.ownsRow_lit (base := w.heap.size) (e := 23) (size := 1) w #[] 0 (Nat.le_refl _) (by simp [maxLen]) rfl

def stF (p : Int) (at_ : Int) (l r i : Nat) : Nat := if (i : Int) % p < at_ then l else r
def StRel (w0 : World) (lo g : Nat) (W H : Int) (n : Nat) (f : Nat → Nat) (i : Value) (wr : World) : Prop :=
  ∃ (k : Nat) (v : Value), k ≤ n ∧ i = .int .i64 k ∧ Gro w0 lo g W H k ((List.range k).map f) v wr
theorem gro_start (p q : Int) (w : World) (C : Obj) : Gro (w.alloc C) (w.heap.size + 1) (w.heap.size + 2) p q 0 [] (.slice (some ⟨w.heap.size + 1, 0, none⟩) 0 0) (((w.alloc C).alloc (.cells #[] 23)).alloc (.cells #[.int .i64 p, .int .i64 q, .slice (some ⟨w.heap.size + 1, 0, none⟩) 0 0] 50)) := by
  refine ⟨by simp [go_sem], by simp [go_sem], by simp [go_sem], by simp [go_sem], by simp, by simp [Value.ownBlock], ?_, ((Below.refl _ _).alloc (Nat.le_refl _) _).alloc (by simp) _, by simp; try omega, by omega, by simp⟩
  have h := (row_nil (w.alloc C)).alloc (.cells #[.int .i64 p, .int .i64 q, .slice (some ⟨w.heap.size + 1, 0, none⟩) 0 0] 50)
  simpa using h
theorem tmod_bd {k : Nat} {p : Int} (hp : 1 ≤ p) : 0 ≤ (k : Int) % p ∧ (k : Int) % p < p := by
  exact ⟨Int.emod_nonneg _ (by omega), Int.emod_lt_of_pos _ (by omega)⟩
theorem mul_nat {p q : Int} (hp : 1 ≤ p ∧ p ≤ 16) (hq : 1 ≤ q ∧ q ≤ 16) : p * q = ((p * q).toNat : Int) := by have := mul_bd hp hq; omega
end Go.Proofs.Ytfbdmhkmkmbipaa
