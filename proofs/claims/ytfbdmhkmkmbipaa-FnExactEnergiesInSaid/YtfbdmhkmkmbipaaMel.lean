/-
  Lists of lists of the call's own (no program in it).
-/
import Derived.Test.YtfbdmhkmkmbipaaMem
namespace Go.Proofs.Ytfbdmhkmkmbipaa
open Go.RowKit Go.WideShapes Go.ChangeShapes

/-- The values vs are lists that read as xss. -/
def RdLs (w : World) (B : Nat) (vs : List Value) (xss : List (List Value)) : Prop :=
  vs.length = xss.length ∧ ∀ (i : Nat) (x : Value) (xs : List Value), vs[i]? = some x → xss[i]? = some xs → Rd w B x xs
def RdL (w : World) (B : Nat) (v : Value) (xss : List (List Value)) : Prop := ∃ vs, Rd w B v vs ∧ RdLs w B vs xss
def OwnLs (w : World) (lo : Nat) (vs : List Value) (xss : List (List Value)) : Prop :=
  vs.length = xss.length ∧ (∀ (i : Nat) (x : Value) (xs : List Value), vs[i]? = some x → xss[i]? = some xs → Own w lo x xs) ∧ ∀ (i j : Nat) (x y : Value), i ≠ j → vs[i]? = some x → vs[j]? = some y → Apart x y
/-- A list of lists of the call's own, all of them apart. -/
def OwnL (w : World) (lo : Nat) (v : Value) (xss : List (List Value)) : Prop := ∃ vs, Own w lo v vs ∧ OwnLs w lo vs xss ∧ ∀ x ∈ vs, Apart v x
theorem getE {α β : Type} {vs : List α} {xss : List β} (h : vs.length = xss.length) {i : Nat} {x : α} (hx : vs[i]? = some x) : ∃ y, xss[i]? = some y := by
  have := (List.getElem?_eq_some_iff.1 hx).1
  exact ⟨xss[i]'(by omega), List.getElem?_eq_getElem _⟩
theorem RdL.below {w w' : World} {B : Nat} {v : Value} {xss : List (List Value)} (h : RdL w B v xss) (hb : Below B w w') : RdL w' B v xss := by
  obtain ⟨vs, h1, h2, h3⟩ := h
  exact ⟨vs, h1.below hb, h2, fun i x xs a b => (h3 i x xs a b).below hb⟩
theorem RdL.more {w : World} {B B' : Nat} {v : Value} {xss : List (List Value)} (h : RdL w B v xss) (hb : B ≤ B') : RdL w B' v xss := by
  obtain ⟨vs, h1, h2, h3⟩ := h
  exact ⟨vs, h1.more hb, h2, fun i x xs a b => (h3 i x xs a b).more hb⟩
theorem RdL.drewN {w : World} {B : Nat} {v : Value} {xss : List (List Value)} (h : RdL w B v xss) (n : Nat) : RdL (w.drewN n) B v xss := h
theorem OwnL.rd {w : World} {lo : Nat} {v : Value} {xss : List (List Value)} (h : OwnL w lo v xss) : RdL w w.heap.size v xss := by
  obtain ⟨vs, h1, ⟨h2, h3, _⟩, _⟩ := h
  exact ⟨vs, h1.rd, h2, fun i x xs a b => (h3 i x xs a b).rd⟩
theorem OwnL.below {w w' : World} {lo : Nat} {v : Value} {xss : List (List Value)} (h : OwnL w lo v xss) (hb : Below w.heap.size w w') : OwnL w' lo v xss := by
  obtain ⟨vs, h1, ⟨h2, h3, h4⟩, h5⟩ := h
  exact ⟨vs, h1.below hb, ⟨h2, fun i x xs a b => (h3 i x xs a b).below hb, h4⟩, h5⟩
theorem OwnL.drewN {w : World} {lo : Nat} {v : Value} {xss : List (List Value)} (h : OwnL w lo v xss) (n : Nat) : OwnL (w.drewN n) lo v xss := h
theorem OwnL.less {w : World} {lo lo' : Nat} {v : Value} {xss : List (List Value)} (h : OwnL w lo v xss) (hl : lo' ≤ lo) : OwnL w lo' v xss := by
  obtain ⟨vs, h1, ⟨h2, h3, h4⟩, h5⟩ := h
  exact ⟨vs, h1.less hl, ⟨h2, fun i x xs a b => (h3 i x xs a b).less hl, h4⟩, h5⟩
/-- Another list that was there before is written over. -/
theorem OwnL.over {w w0 : World} {lo lo' B : Nat} {v u : Value} {xss : List (List Value)} {ys zs : List Value} (h : OwnL w lo v xss) (hu : Own w lo' u ys) (hr : Rd w0 B u zs) (hB : B ≤ lo) (f : Nat → Value) : OwnL (over w u f) lo v xss := by
  obtain ⟨vs, h1, ⟨h2, h3, h4⟩, h5⟩ := h
  exact ⟨vs, over_ownOther hu h1 (apart_of h1 hr hB).symm f, ⟨h2, fun i x xs a b => over_ownOther hu (h3 i x xs a b) (apart_of (h3 i x xs a b) hr hB).symm f, h4⟩, h5⟩
/-- One of its lists is written over. -/
theorem OwnLs.mark {w : World} {lo : Nat} {vs : List Value} {xss : List (List Value)} (h : OwnLs w lo vs xss) {j : Nat} {x : Value} {xs : List Value} (hx : vs[j]? = some x) (hxs : xss[j]? = some xs) (f : Nat → Value) :
    OwnLs (over w x f) lo vs (xss.set j ((List.range xs.length).map f)) := by
  obtain ⟨h2, h3, h4⟩ := h
  have hj := (List.getElem?_eq_some_iff.1 hxs).1
  have ho := h3 j x xs hx hxs
  refine ⟨by simpa using h2, fun i y ys a b => ?_, h4⟩
  by_cases he : i = j
  · subst he
    rw [hx] at a
    cases a
    rw [List.getElem?_set_self hj] at b
    cases b
    exact over_own ho f
  · rw [List.getElem?_set_ne (fun e => he e.symm)] at b
    exact over_ownOther ho (h3 i y ys a b) (h4 j i x y (fun e => he e.symm) hx a) f

/-- The block of v's row holds no number of x. -/
def NoB (v x : Value) : Prop := ∀ a n c, x = .slice (some a) n c → 0 < n → v.ownBlock ≠ some a.block
theorem Own.block {w : World} {lo : Nat} {a : Addr} {n c : Nat} {xs : List Value} (h : Own w lo (.slice (some a) n c) xs) (hn : 0 < n) : lo ≤ a.block ∧ a.block < w.heap.size := by
  obtain ⟨A, c', hv, h1, h2, h3⟩ := h
  simp only [Value.slice.injEq] at hv
  obtain ⟨rfl, rfl, rfl⟩ := hv
  obtain ⟨b, off, e, hlo, hb, _⟩ := h3 hn
  cases e
  exact ⟨hlo, hb⟩
theorem grown_of {w w' : World} (hb : Below w.heap.size w w') : w.grownBy w' none := ⟨hb.os, hb.tape, hb.output, hb.size, fun k hk _ => hb.block k hk⟩
theorem row_step {w w' : World} {base : Nat} {e : TypeId} {size : Nat} {v : Value} {n : Nat} {xs : List Value} (h : w.ownsRow base e size v n xs) (hb : Below w.heap.size w w') : w'.ownsRow base e size v n xs :=
  h.kept (grown_of hb) (by cases hv : v.ownBlock with
    | none => exact .inl rfl
    | some k => exact .inr (by simp))
theorem Own.grown {w w' : World} {row : Option Nat} {lo : Nat} {x : Value} {xs : List Value} (h : Own w lo x xs) (hg : w.grownBy w' row) (hn : ∀ a n c, x = .slice (some a) n c → 0 < n → row ≠ some a.block) : Own w' lo x xs := by
  obtain ⟨A, c, rfl, h1, h2, h3⟩ := h
  refine ⟨A, c, rfl, h1, h2, fun hp => ?_⟩
  obtain ⟨b, off, rfl, hlo, hb, hc, hf⟩ := h3 hp
  have hk := hg.block b hb (fun e => hn _ _ _ rfl hp e.symm)
  exact ⟨b, off, rfl, hlo, Nat.lt_of_lt_of_le hb hg.size, fun i y hy => (World.cell?_of_block (a := ⟨b, off + i, none⟩) hk).trans (hc i y hy), fun i hi => (World.frozen?_of_block (a := ⟨b, off + i, none⟩) hk).trans (hf i hi)⟩

/-- A list of lists that is being made: v is a row of its own, none of its lists lies in v's block. -/
def Bld (w : World) (lo : Nat) (e : TypeId) (v : Value) (vs : List Value) (xss : List (List Value)) : Prop :=
  w.ownsRow lo e 1 v vs.length vs ∧ OwnLs w lo vs xss ∧ ∀ x ∈ vs, NoB v x
theorem Bld.step {w w' : World} {lo : Nat} {e : TypeId} {v : Value} {vs : List Value} {xss : List (List Value)} (h : Bld w lo e v vs xss) (hb : Below w.heap.size w w') : Bld w' lo e v vs xss :=
  ⟨row_step h.1 hb, ⟨h.2.1.1, fun i x xs a b => (h.2.1.2.1 i x xs a b).below hb, h.2.1.2.2⟩, h.2.2⟩
theorem noB_new {w w' : World} {lo base : Nat} {e : TypeId} {v : Value} {n : Nat} {vs : List Value} (h : w.ownsRow base e 1 v n vs) {x : Value} {xs : List Value} (hx : Own w' lo x xs) (hl : w.heap.size ≤ lo) : NoB v x := by
  intro a n c he hn hb
  subst he
  have := (h.lt _ hb).2
  have := (hx.block hn).1
  omega
theorem NoB.grow {w : World} {lo : Nat} {v v' x : Value} {xs : List Value} (h : NoB v x) (hx : Own w lo x xs) {s : Nat} (hs : w.heap.size ≤ s) (hat : v'.ownBlock = v.ownBlock ∨ v'.ownBlock = some s) : NoB v' x := by
  intro a n c he hn hb
  rcases hat with e | e
  · exact h a n c he hn (by rw [← e]; exact hb)
  · rw [e] at hb
    subst he
    have := (hx.block hn).2
    simp only [Option.some.injEq] at hb
    omega
theorem getA {α : Type} {vs : List α} {x y : α} {i : Nat} (h : (vs ++ [x])[i]? = some y) : (i < vs.length ∧ vs[i]? = some y) ∨ (i = vs.length ∧ y = x) := by
  by_cases hi : i < vs.length
  · rw [List.getElem?_append_left hi] at h
    exact .inl ⟨hi, h⟩
  · have := (List.getElem?_eq_some_iff.1 h).1
    simp at this
    have he : i = vs.length := by omega
    subst he
    simp at h
    exact .inr ⟨rfl, h.symm⟩
/-- A list is appended. -/
theorem Bld.push {w w1 : World} {lo s : Nat} {e : TypeId} {v v' x : Value} {vs : List Value} {xss : List (List Value)} {xs : List Value} (h : Bld w lo e v vs xss) (hx : Own w lo x xs) (hnb : NoB v x) (hap : ∀ y ∈ vs, Apart y x)
    (hrow : w1.ownsRow lo e 1 v' (vs.length + 1) (vs ++ [x])) (hg : w.grownBy w1 v.ownBlock) (hs : w.heap.size ≤ s) (hat : v'.ownBlock = v.ownBlock ∨ v'.ownBlock = some s) : Bld w1 lo e v' (vs ++ [x]) (xss ++ [xs]) := by
  obtain ⟨r1, ⟨l1, o1, a1⟩, n1⟩ := h
  refine ⟨by simpa using hrow, ⟨by simpa using l1, fun i y ys a b => ?_, fun i j y z hij a b => ?_⟩, fun y hy => ?_⟩
  · rcases getA a with ⟨hi, a'⟩ | ⟨hi, rfl⟩
    · rw [List.getElem?_append_left (by omega)] at b
      exact (o1 i y ys a' b).grown hg (n1 y (List.mem_iff_getElem?.2 ⟨i, a'⟩))
    · subst hi
      rw [l1, List.getElem?_append_right (Nat.le_refl _)] at b
      simp at b
      subst b
      exact hx.grown hg hnb
  · rcases getA a with ⟨hi, a'⟩ | ⟨hi, rfl⟩
    · rcases getA b with ⟨hj, b'⟩ | ⟨hj, rfl⟩
      · exact a1 i j y z hij a' b'
      · exact hap y (List.mem_iff_getElem?.2 ⟨i, a'⟩)
    · rcases getA b with ⟨hj, b'⟩ | ⟨hj, rfl⟩
      · exact (hap z (List.mem_iff_getElem?.2 ⟨j, b'⟩)).symm
      · omega
  · rcases List.mem_append.1 hy with hy | hy
    · obtain ⟨i, hi⟩ := List.mem_iff_getElem?.1 hy
      obtain ⟨ys, hys⟩ := getE l1 hi
      exact (n1 y hy).grow (o1 i y ys hi hys) hs hat
    · simp at hy
      subst hy
      exact hnb.grow hx hs hat
theorem Bld.done {w : World} {lo : Nat} {e : TypeId} {v : Value} {vs : List Value} {xss : List (List Value)} (h : Bld w lo e v vs xss) : OwnL w lo v xss := by
  refine ⟨vs, Own.row h.1, h.2.1, fun x hx => ?_⟩
  intro a n c b m d e1 e2
  by_cases hm : 0 < m
  · have := h.2.2 x hx b m d e2 hm
    subst e1
    exact .inr (.inr (.inl fun hh => this (by show some a.block = _; rw [hh])))
  · omega
end Go.Proofs.Ytfbdmhkmkmbipaa
