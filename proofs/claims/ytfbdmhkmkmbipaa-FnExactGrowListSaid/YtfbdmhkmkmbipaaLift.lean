/-
  Contracts: lifted lists of int64, of both sides.
-/
import Derived.Test.YtfbdmhkmkmbipaaGui
import Derived.Test.YtfbdmhkmkmbipaaSplit
import Derived.Deep.RegionWith
import Derived.Outline
namespace Go.Proofs.Ytfbdmhkmkmbipaa
open Go.RowKit
set_option linter.unusedVariables false

/-- The first k numbers are new ones. -/
def prF (xs : List Int) (f : Nat → Int) (k : Nat) : List Int := (List.range xs.length).map fun i => if i < k then f i else xs.getD i 0
theorem prF_len (xs : List Int) (f : Nat → Int) (k : Nat) : (prF xs f k).length = xs.length := by simp [prF]
theorem prF_zero (xs : List Int) (f : Nat → Int) : prF xs f 0 = xs := by
  apply List.ext_getElem?
  intro i
  by_cases hi : i < xs.length
  · simp [prF, hi, List.getD]
  · simp [prF, hi]
theorem prF_all (xs : List Int) (f : Nat → Int) : prF xs f xs.length = (List.range xs.length).map f := by
  apply List.ext_getElem?
  intro i
  by_cases hi : i < xs.length
  · simp [prF, hi]
  · simp [prF, hi]
theorem prF_set (xs : List Int) (f : Nat → Int) (k : Nat) (h : k < xs.length) : (prF xs f k).set k (f k) = prF xs f (k + 1) := by
  unfold prF
  refine range_set h (by rw [if_pos (by omega)]) fun i hi hne => ?_
  by_cases h1 : i < k
  · rw [if_pos h1, if_pos (by omega)]
  · rw [if_neg h1, if_neg (by omega)]
theorem prF_at (xs : List Int) (f : Nat → Int) (k : Nat) (h : k < xs.length) : (il (prF xs f k))[k]? = some (.int .i64 (xs.getD k 0)) := by
  simp [il, prF, h]
theorem Own.cells' {w : World} {lo b off n c : Nat} {xs : List Value} (h : Own w lo (.slice (some ⟨b, off, none⟩) n c) xs) (hn : 0 < n) :
    lo ≤ b ∧ b < w.heap.size ∧ (∀ (i : Nat) (x : Value), xs[i]? = some x → w.cell? ⟨b, off + i, none⟩ = some x) ∧ ∀ i, i < n → w.frozen? ⟨b, off + i, none⟩ = false := by
  obtain ⟨A, c', hv, h1, h2, h3⟩ := h
  simp only [Value.slice.injEq] at hv
  obtain ⟨rfl, rfl, rfl⟩ := hv
  obtain ⟨b', off', e, hlo, hb, hc, hf⟩ := h3 hn
  cases e
  exact ⟨hlo, hb, hc, hf⟩
/-- One number of a list of the call's own is written. -/
theorem Own.put {w : World} {lo b off n c : Nat} {xs : List Value} (h : Own w lo (.slice (some ⟨b, off, none⟩) n c) xs) (k : Nat) (hk : k < n) (x : Value) :
    Own (w.setCell ⟨b, off + k, none⟩ x) lo (.slice (some ⟨b, off, none⟩) n c) (xs.set k x) := by
  obtain ⟨A, c', hv, h1, h2, h3⟩ := h
  simp only [Value.slice.injEq] at hv
  obtain ⟨rfl, rfl, rfl⟩ := hv
  obtain ⟨b', off', e, hlo, hb, hc, hf⟩ := h3 (by omega)
  cases e
  refine ⟨_, _, by simp, by simpa using h1, h2, fun hp => ⟨b, off, rfl, hlo, by simpa [World.setCell] using hb, fun i y hy => ?_, fun i hi => ?_⟩⟩
  · by_cases hik : i = k
    · subst hik
      have hlt : i < xs.length := hk
      rw [List.getElem?_set_self hlt] at hy
      cases hy
      exact World.cell?_setCell_same _ _ _ (hc i _ (List.getElem?_eq_getElem hlt))
    · rw [List.getElem?_set_ne (by omega)] at hy
      rw [World.cell?_setCell_other _ _ _ _ (fun e => by simp only [Addr.mk.injEq] at e; omega)]
      exact hc i y hy
  · rw [World.frozen?_setCell]; exact hf i (by simpa using hi)
theorem Own.putOther {w : World} {lo lo' b off n c : Nat} {u : Value} {xs ys : List Value} (h : Own w lo (.slice (some ⟨b, off, none⟩) n c) xs) (hu : Own w lo' u ys) (ha : Apart (.slice (some ⟨b, off, none⟩) n c) u) (k : Nat) (hk : k < n) (x : Value) :
    Own (w.setCell ⟨b, off + k, none⟩ x) lo' u ys := by
  obtain ⟨A, c', hv, h1, h2, h3⟩ := h
  simp only [Value.slice.injEq] at hv
  obtain ⟨rfl, rfl, rfl⟩ := hv
  obtain ⟨b', off', e, hlo, hb, hc, hf⟩ := h3 (by omega)
  cases e
  obtain ⟨A', c', rfl, h1', h2', h3'⟩ := hu
  refine ⟨A', c', rfl, h1', h2', fun hp => ?_⟩
  obtain ⟨b2, o2, rfl, hlo2, hb2, hc2, hf2⟩ := h3' hp
  have := ha _ _ _ _ _ _ rfl rfl
  simp only [] at this
  refine ⟨b2, o2, rfl, hlo2, by simpa [World.setCell] using hb2, fun i y hy => ?_, fun i hi => ?_⟩
  · have hi := (List.getElem?_eq_some_iff.1 hy).1
    rw [World.cell?_setCell_other _ _ _ _ (fun e => by simp only [Addr.mk.injEq] at e; omega)]
    exact hc2 i y hy
  · rw [World.frozen?_setCell]; exact hf2 i hi
theorem Bds.mono {M N : Int} {xs : List Int} (h : Bds M xs) (hm : M ≤ N) : Bds N xs := fun x hx => by have := h x hx; omega
theorem gue_bd {M : Int} {xs : List Int} (h : Bds M xs) (hM : 0 ≤ M) (kind : Int) (i : Nat) : -(2 * M + 1) ≤ gue kind xs i ∧ gue kind xs i ≤ 2 * M + 1 := by
  have a := h.getD hM i
  have b := h.getD hM (nrI xs.length ((i : Int) + 1))
  have c := h.getD hM (mir xs.length ((i : Int) + 1)).toNat
  have d := h.getD hM (mir xs.length ((i : Int) - 1)).toNat
  have e := h.getD hM (mir xs.length ((i : Int) + 2)).toNat
  unfold gue
  split
  · omega
  · split <;> omega
theorem gai_bd {M : Int} {xs : List Int} (h : Bds M xs) (hM : 0 ≤ M) (kind : Int) (i : Nat) : -(M + 1) ≤ gai kind xs i ∧ gai kind xs i ≤ M + 1 := by
  have a := h.getD hM i
  have b := h.getD hM (nrI xs.length ((i : Int) - 1))
  have c := h.getD hM (nrI xs.length (i : Int))
  unfold gai
  split
  · split <;> omega
  · omega
/-- The odds, then the evens, of lifted numbers. -/
def loF (kind : Int) (ev od : List Int) : List Int := (List.range od.length).map fun i => od.getD i 0 - gue kind ev i
def leF (kind : Int) (ev lo : List Int) : List Int := (List.range ev.length).map fun i => ev.getD i 0 + gai kind lo i
def UpRel (w : World) (v u : Value) (ev od : List Int) (f : Nat → Int) (i : Value) (wr : World) : Prop :=
  ∃ k : Nat, k ≤ od.length ∧ i = .int .i64 k ∧ Own wr w.heap.size v (il ev) ∧ Own wr w.heap.size u (il (prF od f k)) ∧ Below w.heap.size w wr
theorem loF_bd {M : Int} {ev od : List Int} (h : Bds M ev) (h2 : Bds M od) (hM : 0 ≤ M) (kind : Int) : Bds (3 * M + 1) (loF kind ev od) := by
  intro x hx
  obtain ⟨i, hi, rfl⟩ := List.mem_map.1 hx
  have a := gue_bd h hM kind i
  have b := h2.getD hM i
  omega
theorem prF_bd {M : Int} {xs : List Int} {f : Nat → Int} (h : Bds M xs) (hM : 0 ≤ M) (hf : ∀ i, -M ≤ f i ∧ f i ≤ M) (k : Nat) : Bds M (prF xs f k) := by
  intro x hx
  obtain ⟨i, hi, rfl⟩ := List.mem_map.1 hx
  split
  · exact hf i
  · exact h.getD hM i

theorem up_next {w wr w2 : World} {lo bu fu cu : Nat} {v : Value} {ys : List Value} {od : List Int} {f : Nat → Int} {k : Nat} {y : Int} (ov : Own wr lo v ys) (ou : Own wr lo (.slice (some ⟨bu, fu, none⟩) od.length cu) (il (prF od f k)))
    (ap : Apart (.slice (some ⟨bu, fu, none⟩) od.length cu) v) (hlo : w.heap.size ≤ lo) (hb : Below w.heap.size w wr) (hb2 : Below wr.heap.size wr w2) (hk : k < od.length) (hs : (prF od f k).set k y = prF od f (k + 1)) :
    Own (w2.setCell ⟨bu, fu + k, none⟩ (.int .i64 y)) lo v ys ∧ Own (w2.setCell ⟨bu, fu + k, none⟩ (.int .i64 y)) lo (.slice (some ⟨bu, fu, none⟩) od.length cu) (il (prF od f (k + 1))) ∧ Below w.heap.size w (w2.setCell ⟨bu, fu + k, none⟩ (.int .i64 y)) := by
  have o2 := ou.below hb2
  have q := o2.put k hk (.int .i64 y)
  rw [il_set, hs] at q
  refine ⟨o2.putOther (ov.below hb2) ap k hk _, q, (hb.trans (hb2.mono hb.size)).setCell ?_ _⟩
  have := (ou.cells' (by omega)).1
  show w.heap.size ≤ bu
  omega

theorem ri_b {P : Program} {F : FuncId} {gs : Array Value} {x : Int} {w : World} (h : Calls P F gs w (RetI x w)) : Calls P F gs w (RetIB x w) :=
  h.mono fun e w' ⟨he, n, hw⟩ => ⟨he, by rw [hw]; exact below_drawn (Below.refl _ _) _⟩
theorem leF_nil (kind : Int) (ev : List Int) : leF kind ev [] = ev := by
  have hg : ∀ i, gai kind [] i = 0 := by
    intro i
    unfold gai
    split <;> simp
  apply List.ext_getElem?
  intro i
  by_cases hi : i < ev.length
  · simp [leF, hi, List.getD, hg]
  · simp [leF, hi]
theorem loF_nil (kind : Int) (ev : List Int) : loF kind ev [] = [] := rfl
end Go.Proofs.Ytfbdmhkmkmbipaa
