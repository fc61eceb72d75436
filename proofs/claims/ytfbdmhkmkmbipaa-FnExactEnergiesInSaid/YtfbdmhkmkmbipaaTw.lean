/-
  What becomes of lists when others are written over, told by the blocks in which they lie (no program in it).
-/
import Derived.Test.YtfbdmhkmkmbipaaMel
namespace Go.Proofs.Ytfbdmhkmkmbipaa
open Go.RowKit Go.WideShapes Go.ChangeShapes
set_option linter.unusedVariables false

/-- Of the blocks that there were, only those from lo up to hi may have turned. -/
structure Tw (lo hi : Nat) (w w' : World) : Prop where
  os : w'.os = w.os
  tape : w'.tape = w.tape
  output : w'.output = w.output
  size : w.heap.size ≤ w'.heap.size
  block : ∀ k, k < w.heap.size → k < lo ∨ hi ≤ k → w'.heap[k]? = w.heap[k]?
theorem Tw.refl (lo hi : Nat) (w : World) : Tw lo hi w w := ⟨rfl, rfl, rfl, Nat.le_refl _, fun _ _ _ => rfl⟩
theorem Tw.below {lo hi B : Nat} {w w' : World} (h : Tw lo hi w w') (hB : B ≤ lo) (hs : B ≤ w.heap.size) : Below B w w' :=
  ⟨h.os, h.tape, h.output, h.size, fun k hk => h.block k (by omega) (.inl (by omega))⟩
theorem Tw.of {lo hi : Nat} {w w' : World} (h : Below w.heap.size w w') : Tw lo hi w w' := ⟨h.os, h.tape, h.output, h.size, fun k hk _ => h.block k hk⟩
theorem Tw.trans {lo hi : Nat} {a b c : World} (h : Tw lo hi a b) (k : Tw lo hi b c) : Tw lo hi a c :=
  ⟨k.os.trans h.os, k.tape.trans h.tape, k.output.trans h.output, Nat.le_trans h.size k.size, fun i hi' hh => (k.block i (by have := h.size; omega) hh).trans (h.block i hi' hh)⟩
theorem Tw.cell {lo hi : Nat} {w w' : World} (h : Tw lo hi w w') {b o : Nat} (hb : b < w.heap.size) (hh : b < lo ∨ hi ≤ b) : w'.cell? ⟨b, o, none⟩ = w.cell? ⟨b, o, none⟩ :=
  World.cell?_of_block (w := w) (a := ⟨b, o, none⟩) (h.block b hb hh)
theorem Tw.frozen {lo hi : Nat} {w w' : World} (h : Tw lo hi w w') {b o : Nat} (hb : b < w.heap.size) (hh : b < lo ∨ hi ≤ b) : w'.frozen? ⟨b, o, none⟩ = w.frozen? ⟨b, o, none⟩ :=
  World.frozen?_of_block (w := w) (a := ⟨b, o, none⟩) (h.block b hb hh)

/-- The value's numbers lie in a block below hi. -/
def Blw (v : Value) (hi : Nat) : Prop := ∀ a n c, v = .slice (some a) n c → 0 < n → a.block < hi
theorem Own.blw {w : World} {lo : Nat} {v : Value} {xs : List Value} (h : Own w lo v xs) : Blw v w.heap.size := by
  intro a n c e hn
  subst e
  exact (h.block hn).2
/-- A list of the call's own in blocks from lo up to hi. -/
def In (w : World) (lo hi : Nat) (v : Value) (xs : List Value) : Prop := Own w lo v xs ∧ Blw v hi
theorem In.made {w : World} {lo : Nat} {v : Value} {xs : List Value} (h : Own w lo v xs) : In w lo w.heap.size v xs := ⟨h, h.blw⟩
theorem In.step {w w' : World} {lo hi : Nat} {v : Value} {xs : List Value} (h : In w lo hi v xs) (hb : Below w.heap.size w w') : In w' lo hi v xs := ⟨h.1.below hb, h.2⟩
theorem In.rd {w : World} {lo hi : Nat} {v : Value} {xs : List Value} (h : In w lo hi v xs) : Rd w w.heap.size v xs := h.1.rd
theorem Own.tw {w w' : World} {lo hi l k : Nat} {v : Value} {xs : List Value} (h : Own w lo v xs) (hv : Blw v hi) (ht : Tw l k w w') (hd : hi ≤ l ∨ k ≤ lo) : Own w' lo v xs := by
  obtain ⟨A, c, rfl, h1, h2, h3⟩ := h
  refine ⟨A, c, rfl, h1, h2, fun hp => ?_⟩
  obtain ⟨b, off, rfl, hlo, hb, hc, hf⟩ := h3 hp
  have hbh := hv _ _ _ rfl hp
  simp only [] at hbh
  have hh : b < l ∨ k ≤ b := by omega
  exact ⟨b, off, rfl, hlo, Nat.lt_of_lt_of_le hb ht.size, fun i x hx => (ht.cell hb hh).trans (hc i x hx), fun i hi => (ht.frozen hb hh).trans (hf i hi)⟩
theorem In.tw {w w' : World} {lo hi l k : Nat} {v : Value} {xs : List Value} (h : In w lo hi v xs) (ht : Tw l k w w') (hd : hi ≤ l ∨ k ≤ lo) : In w' lo hi v xs := ⟨h.1.tw h.2 ht hd, h.2⟩
theorem Rd.tw {w w' : World} {B l k : Nat} {v : Value} {xs : List Value} (h : Rd w B v xs) (ht : Tw l k w w') (hB : B ≤ l) (hs : B ≤ w.heap.size) : Rd w' B v xs := h.below (ht.below hB hs)
theorem putK_block (w : World) (b off : Nat) (f : Nat → Value) (n k : Nat) (hk : k ≠ b) : (putK w b off f n).heap[k]? = w.heap[k]? := by
  induction n with
  | zero => rfl
  | succ m ih => exact (Below.heap_setCell _ _ _ _ hk).trans ih
theorem putK_os (w : World) (b off : Nat) (f : Nat → Value) (n : Nat) : (putK w b off f n).os = w.os ∧ (putK w b off f n).tape = w.tape ∧ (putK w b off f n).output = w.output := by
  induction n with
  | zero => exact ⟨rfl, rfl, rfl⟩
  | succ m ih => exact ih
theorem over_tw {w : World} {lo hi : Nat} {v : Value} {xs : List Value} (h : Own w lo v xs) (hv : Blw v hi) (f : Nat → Value) : Tw lo hi w (over w v f) := by
  obtain ⟨A, c, rfl, h1, h2, h3⟩ := h
  by_cases hp : 0 < xs.length
  · obtain ⟨b, off, rfl, hlo, hb, _⟩ := h3 hp
    have hbh := hv _ _ _ rfl hp
    simp only [] at hbh
    have ho := putK_os w b off f xs.length
    exact ⟨ho.1, ho.2.1, ho.2.2, by rw [over_size]; exact Nat.le_refl _, fun k hk hh => putK_block w b off f xs.length k (by omega)⟩
  · obtain hz : xs.length = 0 := by omega
    rw [hz, over_nil]; exact Tw.refl _ _ _
theorem In.over {w : World} {lo hi : Nat} {v : Value} {xs : List Value} (h : In w lo hi v xs) (f : Nat → Value) : In (over w v f) lo hi v ((List.range xs.length).map f) := ⟨over_own h.1 f, h.2⟩

/-- A list of lists of the call's own in blocks from lo up to hi. -/
def InL (w : World) (lo hi : Nat) (v : Value) (xss : List (List Value)) : Prop := ∃ vs, Own w lo v vs ∧ OwnLs w lo vs xss ∧ (∀ x ∈ vs, Apart v x) ∧ Blw v hi ∧ ∀ x ∈ vs, Blw x hi
theorem InL.own {w : World} {lo hi : Nat} {v : Value} {xss : List (List Value)} (h : InL w lo hi v xss) : OwnL w lo v xss := by
  obtain ⟨vs, h1, h2, h3, _⟩ := h
  exact ⟨vs, h1, h2, h3⟩
theorem InL.rd {w : World} {lo hi : Nat} {v : Value} {xss : List (List Value)} (h : InL w lo hi v xss) : RdL w w.heap.size v xss := h.own.rd
theorem InL.made {w : World} {lo : Nat} {v : Value} {xss : List (List Value)} (h : OwnL w lo v xss) : InL w lo w.heap.size v xss := by
  obtain ⟨vs, h1, h2, h3⟩ := h
  refine ⟨vs, h1, h2, h3, h1.blw, fun x hx => ?_⟩
  obtain ⟨i, hi⟩ := List.mem_iff_getElem?.1 hx
  obtain ⟨ys, hys⟩ := getE h2.1 hi
  exact (h2.2.1 i x ys hi hys).blw
theorem InL.step {w w' : World} {lo hi : Nat} {v : Value} {xss : List (List Value)} (h : InL w lo hi v xss) (hb : Below w.heap.size w w') : InL w' lo hi v xss := by
  obtain ⟨vs, h1, ⟨h2, h3, h4⟩, h5, h6⟩ := h
  exact ⟨vs, h1.below hb, ⟨h2, fun i x xs a b => (h3 i x xs a b).below hb, h4⟩, h5, h6⟩
theorem InL.tw {w w' : World} {lo hi l k : Nat} {v : Value} {xss : List (List Value)} (h : InL w lo hi v xss) (ht : Tw l k w w') (hd : hi ≤ l ∨ k ≤ lo) : InL w' lo hi v xss := by
  obtain ⟨vs, h1, ⟨h2, h3, h4⟩, h5, h6, h7⟩ := h
  exact ⟨vs, h1.tw h6 ht hd, ⟨h2, fun i x xs a b => (h3 i x xs a b).tw (h7 x (List.mem_iff_getElem?.2 ⟨i, a⟩)) ht hd, h4⟩, h5, h6, h7⟩
theorem RdL.tw {w w' : World} {B l k : Nat} {v : Value} {xss : List (List Value)} (h : RdL w B v xss) (ht : Tw l k w w') (hB : B ≤ l) (hs : B ≤ w.heap.size) : RdL w' B v xss := h.below (ht.below hB hs)
theorem RdL.step {w w' : World} {v : Value} {xss : List (List Value)} (h : RdL w w.heap.size v xss) (hb : Below w.heap.size w w') : RdL w' w'.heap.size v xss := (h.below hb).more hb.size

/-- A list of lists whose places are filled one after another: v is a row of its own, none of its lists lies in v's block. -/
def Fil (w : World) (lo : Nat) (e : TypeId) (v : Value) (n : Nat) (vs rest : List Value) (xss : List (List Value)) : Prop :=
  w.ownsRow lo e 1 v n (vs ++ rest) ∧ OwnLs w lo vs xss ∧ ∀ x ∈ vs, NoB v x
theorem Fil.step {w w' : World} {lo n : Nat} {e : TypeId} {v : Value} {vs rest : List Value} {xss : List (List Value)} (h : Fil w lo e v n vs rest xss) (hb : Below w.heap.size w w') : Fil w' lo e v n vs rest xss :=
  ⟨row_step h.1 hb, ⟨h.2.1.1, fun i x xs a b => (h.2.1.2.1 i x xs a b).below hb, h.2.1.2.2⟩, h.2.2⟩
theorem Fil.put {w w1 : World} {lo n : Nat} {e : TypeId} {v x r : Value} {vs rest : List Value} {xss : List (List Value)} {xs : List Value} (h : Fil w lo e v n vs (r :: rest) xss) (hx : Own w lo x xs) (hnb : NoB v x) (hap : ∀ y ∈ vs, Apart y x)
    (hrow : w1.ownsRow lo e 1 v n ((vs ++ r :: rest).set vs.length x)) (hg : w.grownBy w1 v.ownBlock) : Fil w1 lo e v n (vs ++ [x]) rest (xss ++ [xs]) := by
  obtain ⟨r1, ⟨l1, o1, a1⟩, n1⟩ := h
  refine ⟨?_, ⟨by simpa using l1, fun i y ys a b => ?_, fun i j y z hij a b => ?_⟩, fun y hy => ?_⟩
  · have e1 : (vs ++ r :: rest).set vs.length x = vs ++ [x] ++ rest := by
      rw [List.set_append_right _ _ (Nat.le_refl _), Nat.sub_self]
      simp
    rw [e1] at hrow; exact hrow
  · rcases getA a with ⟨hi, a'⟩ | ⟨hi, rfl⟩
    · rw [List.getElem?_append_left (by omega)] at b
      exact (o1 i y ys a' b).grown hg (n1 y (List.mem_iff_getElem?.2 ⟨i, a'⟩))
    · subst hi
      rw [l1, List.getElem?_append_right (Nat.le_refl _)] at b
      simp at b
      subst b
      exact hx.grown hg hnb
  · rcases getA a with ⟨hi, a'⟩ | ⟨hi, rfl⟩
    · rcases getA b with ⟨hj, b'⟩ | ⟨hj, rfl⟩
      · exact a1 i j y z hij a' b'
      · exact hap y (List.mem_iff_getElem?.2 ⟨i, a'⟩)
    · rcases getA b with ⟨hj, b'⟩ | ⟨hj, rfl⟩
      · exact (hap z (List.mem_iff_getElem?.2 ⟨j, b'⟩)).symm
      · omega
  · rcases List.mem_append.1 hy with hy | hy
    · exact n1 y hy
    · simp at hy
      subst hy
      exact hnb
theorem Fil.done {w : World} {lo n : Nat} {e : TypeId} {v : Value} {vs : List Value} {xss : List (List Value)} (h : Fil w lo e v n vs [] xss) : OwnL w lo v xss := by
  have h1 := h.1
  rw [List.append_nil] at h1
  have hn : vs.length = n := by have := h1.1; omega
  subst hn
  exact Bld.done ⟨h1, h.2.1, h.2.2⟩
end Go.Proofs.Ytfbdmhkmkmbipaa
