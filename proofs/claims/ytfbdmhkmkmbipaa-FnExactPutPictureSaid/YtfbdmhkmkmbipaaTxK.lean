/-
  Worlds that differ in some blocks alone; lists in which single numbers are changed (no walk in it).
-/
import Derived.Test.YtfbdmhkmkmbipaaFiK
import Derived.Test.YtfbdmhkmkmbipaaBx
import Derived.Test.YtfbdmhkmkmbipaaMel
import Derived.Test.YtfbdmhkmkmbipaaRpK
namespace Go.Proofs.Ytfbdmhkmkmbipaa
open Go.RowKit Fl
set_option linter.unusedVariables false
set_option maxRecDepth 100000

/-- Of the blocks that there were, only these may have turned. -/
structure Tx (bs : List Nat) (w w' : World) : Prop where
  os : w'.os = w.os
  tape : w'.tape = w.tape
  output : w'.output = w.output
  size : w.heap.size ≤ w'.heap.size
  block : ∀ k, k < w.heap.size → k ∉ bs → w'.heap[k]? = w.heap[k]?
theorem Tx.refl (bs : List Nat) (w : World) : Tx bs w w := ⟨rfl, rfl, rfl, Nat.le_refl _, fun _ _ _ => rfl⟩
theorem Tx.of {bs : List Nat} {w w' : World} (h : Below w.heap.size w w') : Tx bs w w' := ⟨h.os, h.tape, h.output, h.size, fun k hk _ => h.block k hk⟩
theorem Tx.trans {bs : List Nat} {a b c : World} (h : Tx bs a b) (k : Tx bs b c) : Tx bs a c :=
  ⟨k.os.trans h.os, k.tape.trans h.tape, k.output.trans h.output, Nat.le_trans h.size k.size, fun i hi hh => (k.block i (by have := h.size; omega) hh).trans (h.block i hi hh)⟩
theorem Tx.drewN {bs : List Nat} {a b : World} (h : Tx bs a b) (n : Nat) : Tx bs a (b.drewN n) := ⟨h.os, h.tape, h.output, h.size, h.block⟩
theorem Tx.set {bs : List Nat} {a b : World} (h : Tx bs a b) {g o : Nat} (hg : g ∈ bs) (x : Value) : Tx bs a (b.setCell ⟨g, o, none⟩ x) :=
  ⟨h.os, h.tape, h.output, by simpa [World.setCell] using h.size, fun k hk hh => (Below.heap_setCell _ _ _ _ (fun e => hh (by rw [e]; exact hg))).trans (h.block k hk hh)⟩
theorem Tx.cell {bs : List Nat} {w w' : World} (h : Tx bs w w') {b o : Nat} (hb : b < w.heap.size) (hh : b ∉ bs) : w'.cell? ⟨b, o, none⟩ = w.cell? ⟨b, o, none⟩ :=
  World.cell?_of_block (w := w) (a := ⟨b, o, none⟩) (h.block b hb hh)
theorem Tx.frozen {bs : List Nat} {w w' : World} (h : Tx bs w w') {b o : Nat} (hb : b < w.heap.size) (hh : b ∉ bs) : w'.frozen? ⟨b, o, none⟩ = w.frozen? ⟨b, o, none⟩ :=
  World.frozen?_of_block (w := w) (a := ⟨b, o, none⟩) (h.block b hb hh)
theorem Tx.below {bs : List Nat} {w w' : World} {B : Nat} (h : Tx bs w w') (hs : B ≤ w.heap.size) (hb : ∀ k ∈ bs, B ≤ k) : Below B w w' :=
  ⟨h.os, h.tape, h.output, h.size, fun k hk => h.block k (by omega) (fun hm => by have := hb k hm; omega)⟩
theorem Tx.bx {bs : List Nat} {w w' : World} {g : Nat} {vs : List Value} (h : Tx bs w w') (hx : Bx w g vs) (hg : g ∉ bs) : Bx w' g vs :=
  ⟨Nat.lt_of_lt_of_le hx.1 h.size, fun i x hi => ⟨(h.cell hx.1 hg).trans (hx.2 i x hi).1, (h.frozen hx.1 hg).trans (hx.2 i x hi).2⟩⟩
/-- The list with these places changed. -/
def chK (f : Nat → Nat) (xs M : List Nat) : List Nat := M.foldl (fun L i => L.set i (f (xs.getD i 0))) xs
theorem chK_nil (f : Nat → Nat) (xs : List Nat) : chK f xs [] = xs := rfl
theorem chK_app (f : Nat → Nat) (xs M : List Nat) (i : Nat) : chK f xs (M ++ [i]) = (chK f xs M).set i (f (xs.getD i 0)) := by simp [chK, List.foldl_append]
theorem chK_take (f : Nat → Nat) (xs M : List Nat) (j : Nat) (h : j < M.length) : chK f xs (M.take (j + 1)) = (chK f xs (M.take j)).set M[j] (f (xs.getD M[j] 0)) := by
  rw [List.take_succ_eq_append_getElem h, chK_app]
theorem chA_len (f : Nat → Nat) (xs M L : List Nat) : (M.foldl (fun L i => L.set i (f (xs.getD i 0))) L).length = L.length := by
  induction M generalizing L with
  | nil => rfl
  | cons a t ih => rw [List.foldl_cons, ih]; simp
theorem chK_len (f : Nat → Nat) (xs M : List Nat) : (chK f xs M).length = xs.length := chA_len f xs M xs
theorem chA_get (f : Nat → Nat) (xs M L : List Nat) (i : Nat) (h : i ∉ M) : (M.foldl (fun L i => L.set i (f (xs.getD i 0))) L)[i]? = L[i]? := by
  induction M generalizing L with
  | nil => rfl
  | cons a t ih =>
    rw [List.foldl_cons, ih _ (fun hm => h (List.mem_cons_of_mem _ hm)), List.getElem?_set_ne (fun e => h (by rw [e]; exact List.mem_cons_self))]
theorem chK_same (f : Nat → Nat) (xs M : List Nat) (i : Nat) (h : i ∉ M) (hf : f (xs.getD i 0) = xs.getD i 0) : chK f xs (M ++ [i]) = chK f xs M := by
  rw [chK_app, hf]
  apply List.ext_getElem?
  intro k
  by_cases hk : i = k
  · subst hk
    by_cases hl : i < xs.length
    · rw [List.getElem?_set_self (by rw [chK_len]; exact hl), show (chK f xs M)[i]? = xs[i]? from chA_get f xs M xs i h, List.getElem?_eq_getElem hl]
      simp [List.getD, hl]
    · rw [List.getElem?_eq_none (by simp [chK_len]; omega), List.getElem?_eq_none (by rw [chK_len]; omega)]
  · rw [List.getElem?_set_ne hk]
theorem fiN_not {c : Nat → Bool} {k : Nat} : k ∉ fiN c k := fun h => absurd (List.mem_range.1 (List.mem_filter.1 h).1) (Nat.lt_irrefl _)
theorem Own.putT {w : World} {lo b off n c : Nat} {xs : List Value} (h : Own w lo (.slice (some ⟨b, off, none⟩) n c) xs) (k : Nat) (hk : k < n) (x : Value) :
    Own (w.setCell ⟨b, off + k, none⟩ x) lo (.slice (some ⟨b, off, none⟩) n c) (xs.set k x) := by
  obtain ⟨A, c', hv, h1, h2, h3⟩ := h
  simp only [Value.slice.injEq] at hv
  obtain ⟨rfl, rfl, rfl⟩ := hv
  obtain ⟨b', off', e, hlo, hb, hc, hf⟩ := h3 (by omega)
  cases e
  refine ⟨_, _, by simp, by simpa using h1, h2, fun hp => ⟨b, off, rfl, hlo, by simpa [World.setCell] using hb, fun i y hy => ?_, fun i hi => ?_⟩⟩
  · by_cases hik : i = k
    · subst hik
      have hlt : i < xs.length := hk
      rw [List.getElem?_set_self hlt] at hy
      cases hy
      exact World.cell?_setCell_same _ _ _ (hc i _ (List.getElem?_eq_getElem hlt))
    · rw [List.getElem?_set_ne (by omega)] at hy
      rw [World.cell?_setCell_other _ _ _ _ (fun e => by simp only [Addr.mk.injEq] at e; omega)]
      exact hc i y hy
  · rw [World.frozen?_setCell]; exact hf i (by simpa using hi)
/-- A picture of the call's own: its box and its lights, which lie apart. -/
def ChB (w0 : World) (g b2 o2 c2 n : Nat) (p q : Int) (L : List Nat) (W : World) : Prop :=
  Bx W g [.int .i64 p, .int .i64 q, .slice (some ⟨b2, o2, none⟩) n c2] ∧ Own W w0.heap.size (.slice (some ⟨b2, o2, none⟩) n c2) (fl L) ∧ w0.heap.size ≤ g ∧ w0.heap.size ≤ b2 ∧ b2 ≠ g ∧ b2 < W.heap.size ∧ Below w0.heap.size w0 W
theorem chb_two {w0 w3 : World} {b2 o2 c2 n : Nat} {p q : Int} {L : List Nat} (ho : Own w3 w0.heap.size (.slice (some ⟨b2, o2, none⟩) n c2) (fl L)) (hn : 0 < n) (hb : Below w0.heap.size w0 w3) :
    ChB w0 w3.heap.size b2 o2 c2 n p q L (w3.alloc (.cells #[.int .i64 p, .int .i64 q, .slice (some ⟨b2, o2, none⟩) n c2] 50)) := by
  obtain ⟨h1, h2⟩ := ho.block hn
  simp only [] at h1 h2
  exact ⟨bx_new w3 [.int .i64 p, .int .i64 q, .slice (some ⟨b2, o2, none⟩) n c2] _, ho.below ((Below.refl _ _).alloc (Nat.le_refl _) _), hb.size, h1, by omega, by simp; omega, hb.alloc hb.size _⟩
theorem chb_one {w0 w3 : World} {g b2 o2 c2 n : Nat} {p q : Int} {L : List Nat} {z0 z1 z2 : Value} (hx : Bx w3 g [z0, z1, z2]) (hg : w0.heap.size ≤ g) (ho : Own w3 (g + 1) (.slice (some ⟨b2, o2, none⟩) n c2) (fl L)) (hn : 0 < n) (hb : Below w0.heap.size w0 w3) :
    ChB w0 g b2 o2 c2 n p q L (((w3.setCell ⟨g, 0, none⟩ (.int .i64 p)).setCell ⟨g, 1, none⟩ (.int .i64 q)).setCell ⟨g, 2, none⟩ (.slice (some ⟨b2, o2, none⟩) n c2)) := by
  obtain ⟨h1, h2⟩ := ho.block hn
  simp only [] at h1 h2
  have k0 := hx.set 0 (by simp) (.int .i64 p)
  have k1 := k0.set 1 (by simp) (.int .i64 q)
  have k2 := k1.set 2 (by simp) (.slice (some ⟨b2, o2, none⟩) n c2)
  refine ⟨k2, ?_, hg, by omega, by omega, by simp [World.setCell]; exact h2, ((hb.setCell (p := ⟨g, 0, none⟩) hg _).setCell (p := ⟨g, 1, none⟩) hg _).setCell (p := ⟨g, 2, none⟩) hg _⟩
  exact (((ho.setLess (a := ⟨g, 0, none⟩) (Nat.lt_succ_self _) (.int .i64 p)).setLess (a := ⟨g, 1, none⟩) (Nat.lt_succ_self _) (.int .i64 q)).setLess (a := ⟨g, 2, none⟩) (Nat.lt_succ_self _) (.slice (some ⟨b2, o2, none⟩) n c2)).less (by omega)
end Go.Proofs.Ytfbdmhkmkmbipaa
