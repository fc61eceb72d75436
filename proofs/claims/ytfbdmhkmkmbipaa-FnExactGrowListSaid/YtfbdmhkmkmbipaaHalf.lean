/-
  Contracts: evens and odds of lists of int64, of both sides.
-/
import Derived.Test.YtfbdmhkmkmbipaaInt
import Derived.Maps.AppendAt
namespace Go.Proofs.Ytfbdmhkmkmbipaa
open Go.RowKit
set_option linter.unusedVariables false

def evF (xs : List Int) : List Int := (List.range ((xs.length + 1) / 2)).map fun j => xs.getD (2 * j) 0
def odF (xs : List Int) : List Int := (List.range (xs.length / 2)).map fun j => xs.getD (2 * j + 1) 0
theorem evF_len (xs : List Int) : (evF xs).length = (xs.length + 1) / 2 := by simp [evF]
theorem odF_len (xs : List Int) : (odF xs).length = xs.length / 2 := by simp [odF]
def evT (xs : List Int) (k : Nat) : List Int := (List.range ((k + 1) / 2)).map fun j => xs.getD (2 * j) 0
def odT (xs : List Int) (k : Nat) : List Int := (List.range (k / 2)).map fun j => xs.getD (2 * j + 1) 0
theorem evT_even (xs : List Int) (k : Nat) (h : k < xs.length) (he : k % 2 = 0) : evT xs (k + 1) = evT xs k ++ [xs[k]] := by
  unfold evT
  rw [show (k + 1 + 1) / 2 = (k + 1) / 2 + 1 by omega, List.range_succ, List.map_append]
  simp [show 2 * ((k + 1) / 2) = k by omega, List.getD, h]
theorem evT_odd (xs : List Int) (k : Nat) (he : k % 2 = 1) : evT xs (k + 1) = evT xs k := by
  unfold evT; rw [show (k + 1 + 1) / 2 = (k + 1) / 2 by omega]
theorem odT_odd (xs : List Int) (k : Nat) (h : k < xs.length) (he : k % 2 = 1) : odT xs (k + 1) = odT xs k ++ [xs[k]] := by
  unfold odT
  rw [show (k + 1) / 2 = k / 2 + 1 by omega, List.range_succ, List.map_append]
  simp [show 2 * (k / 2) + 1 = k by omega, List.getD, h]
theorem odT_even (xs : List Int) (k : Nat) (he : k % 2 = 0) : odT xs (k + 1) = odT xs k := by
  unfold odT; rw [show (k + 1) / 2 = k / 2 by omega]
theorem evT_len (xs : List Int) (k : Nat) : (evT xs k).length = (k + 1) / 2 := by simp [evT]
theorem odT_len (xs : List Int) (k : Nat) : (odT xs k).length = k / 2 := by simp [odT]
theorem one_new (w : World) (x : Value) (E : TypeId) : ∀ j u, [x][j]? = some u → (w.alloc (.cells #[x] E)).cell? ((⟨w.heap.size, 0, none⟩ : Addr).add j) = some u := by
  intro j u hu
  cases j with
  | zero =>
    simp at hu; subst hu
    rw [Go.WideShapes.add_plain]
    exact (cell_of_row _ _ _ _ _ _ (heap_alloc_new w _)).trans rfl
  | succ j => simp at hu
theorem il_app (xs : List Int) (x : Int) : il (xs ++ [x]) = il xs ++ [.int .i64 x] := by simp [il]
theorem one_cellI (n : Int) : ∀ u ∈ [Value.int .i64 n], u.oneCell' = true := ints_oneCell .i64 [n]

/-- Two slice values of the call's own lie in different blocks. -/
def DJ (v u : Value) : Prop := ∀ k, v.ownBlock = some k → u.ownBlock = some k → False
theorem DJ.apart {v u : Value} (h : DJ v u) : Apart u v := by
  intro a n c b m d e1 e2
  subst e1 e2
  have h1 := h b.block rfl
  by_cases hb : a.block = b.block
  · exact absurd (by show some a.block = _; rw [hb]) h1
  · exact .inr (.inr (.inl hb))
theorem DJ.grow {v u v' : Value} {w : World} {base : Nat} {e : TypeId} {n : Nat} {xs : List Value} (h : DJ v u) (hu : w.ownsRow base e 1 u n xs) {s : Nat} (hs : w.heap.size ≤ s) (hat : v'.ownBlock = v.ownBlock ∨ v'.ownBlock = some s) : DJ v' u := by
  intro k h1 h2
  rcases hat with e | e
  · exact h k (by rw [← e]; exact h1) h2
  · rw [e] at h1
    have := hu.lt k h2
    simp only [Option.some.injEq] at h1
    omega
theorem DJ.symm {v u : Value} (h : DJ v u) : DJ u v := fun k a b => h k b a
theorem dj_kept {v u : Value} (h : DJ v u) : u.ownBlock = none ∨ u.ownBlock ≠ v.ownBlock := by
  cases hu : u.ownBlock with
  | none => exact .inl rfl
  | some k => exact .inr fun e => h k e.symm hu

/-- Returns two lists of its own. -/
def RetLL (xs ys : List Int) (w : World) (e : Ending) (w' : World) : Prop :=
  ∃ v u, e = .returned (.tuple #[v, u]) ∧ Own w' w.heap.size v (il xs) ∧ Own w' w.heap.size u (il ys) ∧ Apart u v ∧ Below w.heap.size w w'
def SpRel (w : World) (xs : List Int) (v u i : Value) (wr : World) : Prop :=
  ∃ k : Nat, k ≤ xs.length ∧ i = .int .i64 k ∧ wr.ownsRow w.heap.size 2 1 v ((k + 1) / 2) (il (evT xs k)) ∧ wr.ownsRow w.heap.size 2 1 u (k / 2) (il (odT xs k)) ∧ DJ v u ∧ Below w.heap.size w wr

def hvAt (xs : List Int) (k i : Nat) : Int :=
  if i < (xs.length + 1) / 2 then (if 2 * i < k then xs.getD (2 * i) 0 else 0) else (if 2 * (i - (xs.length + 1) / 2) + 1 < k then xs.getD (2 * (i - (xs.length + 1) / 2) + 1) 0 else 0)
def hvF (xs : List Int) (k : Nat) : List Int := (List.range xs.length).map (hvAt xs k)
theorem range_set {f g : Nat → Int} {n p : Nat} {x : Int} (hp : p < n) (hx : g p = x) (h : ∀ i, i < n → i ≠ p → f i = g i) : ((List.range n).map f).set p x = (List.range n).map g := by
  apply List.ext_getElem?
  intro i
  rw [List.getElem?_set]
  by_cases h1 : p = i
  · subst h1
    rw [if_pos rfl, if_pos (by simpa using hp)]
    simp [hp, hx]
  · rw [if_neg h1]
    by_cases hi : i < n
    · simp [hi, h i hi (by omega)]
    · simp [hi]
theorem hv_zero (xs : List Int) : hvF xs 0 = List.replicate xs.length 0 := by
  apply List.ext_getElem?
  intro i
  by_cases hi : i < xs.length
  · simp [hvF, hvAt, hi]
  · simp [hvF, hi]
theorem hv_all (xs : List Int) : hvF xs xs.length = evF xs ++ odF xs := by
  apply List.ext_getElem?
  intro i
  by_cases hi : i < (xs.length + 1) / 2
  · rw [List.getElem?_append_left (by rw [evF_len]; exact hi)]
    simp [hvF, hvAt, evF, hi, show i < xs.length by omega, show 2 * i < xs.length by omega]
  · rw [List.getElem?_append_right (by rw [evF_len]; omega), evF_len]
    by_cases h2 : i < xs.length
    · simp [hvF, hvAt, odF, hi, h2, show i - (xs.length + 1) / 2 < xs.length / 2 by omega, show 2 * (i - (xs.length + 1) / 2) + 1 < xs.length by omega]
    · rw [List.getElem?_eq_none (by simp [hvF]; omega), List.getElem?_eq_none (by rw [odF_len]; omega)]
theorem hv_even (xs : List Int) (k : Nat) (h : k < xs.length) (he : k % 2 = 0) : (hvF xs k).set (k / 2) xs[k] = hvF xs (k + 1) := by
  refine range_set (by omega) ?_ ?_
  · unfold hvAt
    rw [if_pos (by omega), if_pos (by omega), show 2 * (k / 2) = k by omega]
    simp [List.getD, h]
  · intro i hi hne
    unfold hvAt
    by_cases h1 : i < (xs.length + 1) / 2
    · rw [if_pos h1, if_pos h1]
      by_cases h2 : 2 * i < k
      · rw [if_pos h2, if_pos (by omega)]
      · rw [if_neg h2, if_neg (by omega)]
    · rw [if_neg h1, if_neg h1]
      by_cases h2 : 2 * (i - (xs.length + 1) / 2) + 1 < k
      · rw [if_pos h2, if_pos (by omega)]
      · rw [if_neg h2, if_neg (by omega)]
theorem hv_odd (xs : List Int) (k : Nat) (h : k < xs.length) (he : k % 2 = 1) : (hvF xs k).set ((xs.length + 1) / 2 + k / 2) xs[k] = hvF xs (k + 1) := by
  refine range_set (by omega) ?_ ?_
  · unfold hvAt
    rw [if_neg (by omega), if_pos (by omega), show 2 * ((xs.length + 1) / 2 + k / 2 - (xs.length + 1) / 2) + 1 = k by omega]
    simp [List.getD, h]
  · intro i hi hne
    unfold hvAt
    by_cases h1 : i < (xs.length + 1) / 2
    · rw [if_pos h1, if_pos h1]
      by_cases h2 : 2 * i < k
      · rw [if_pos h2, if_pos (by omega)]
      · rw [if_neg h2, if_neg (by omega)]
    · rw [if_neg h1, if_neg h1]
      by_cases h2 : 2 * (i - (xs.length + 1) / 2) + 1 < k
      · rw [if_pos h2, if_pos (by omega)]
      · rw [if_neg h2, if_neg (by omega)]

def HvRel (w : World) (xs : List Int) (i : Value) (wr : World) : Prop :=
  ∃ k : Nat, k ≤ xs.length ∧ i = .int .i64 k ∧ wr.ownsRow w.heap.size 2 1 (.slice (some ⟨w.heap.size, 0, none⟩) xs.length xs.length) xs.length (il (hvF xs k)) ∧ Below w.heap.size w wr
/-- The two parts of one row. -/
theorem own_parts {w : World} {base g : Nat} {e : TypeId} {ev od : List Value} {n : Nat} (h : w.ownsRow base e 1 (.slice (some ⟨g, 0, none⟩) n n) n (ev ++ od)) (hb : base ≤ g) :
    Own w base (.slice (some ⟨g, 0, none⟩) ev.length ev.length) ev ∧ ∀ a, (0 < od.length → a = some ⟨g, ev.length, none⟩) → Own w base (.slice a od.length od.length) od := by
  have hl : ev.length + od.length = n := by have := h.1; simp at this; omega
  have hgw := (h.lt g rfl).2
  have hm : n ≤ maxLen := by
    rcases h.2 with ⟨h', _⟩ | ⟨g', cap', cur, h', _, _, _, hcm, _⟩
    · simp at h'
    · simp only [Value.slice.injEq] at h'
      omega
  refine ⟨⟨_, _, rfl, Nat.le_refl _, by omega, fun hp => ⟨g, 0, rfl, hb, hgw, fun i x hx => ?_, fun i hi => ?_⟩⟩, fun a ha => ⟨_, _, rfl, Nat.le_refl _, by omega, fun hp => ⟨g, ev.length, ha hp, hb, hgw, fun i x hx => ?_, fun i hi => ?_⟩⟩⟩
  · have hi := (List.getElem?_eq_some_iff.1 hx).1
    rw [Nat.zero_add, h.cellAt i (by omega), List.getElem?_append_left hi]; exact hx
  · rw [Nat.zero_add]; exact h.frozenAt i
  · have hi := (List.getElem?_eq_some_iff.1 hx).1
    rw [h.cellAt _ (by omega), List.getElem?_append_right (by omega), Nat.add_sub_cancel_left]; exact hx
  · exact h.frozenAt _

end Go.Proofs.Ytfbdmhkmkmbipaa
