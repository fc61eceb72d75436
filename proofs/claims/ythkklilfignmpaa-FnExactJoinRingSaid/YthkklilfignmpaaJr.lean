/-
  Lists worth the same, number by number; what a ring joins.
-/
import Derived.Test.YthkklilfignmpaaHj
import Derived.Test.YthkklilfignmpaaSft
import Derived.Test.YthkklilfignmpaaFloShr
namespace Go.Proofs.Ythkklilfignmpaa
open Go.RowKit Fl
set_option linter.unusedVariables false
theorem fl_getD (xs : List Nat) (k : Nat) (h : k < xs.length) : (fl xs)[k]? = some (.float .f32 (xs.getD k 0)) := by rw [fl_get xs k h]; simp [List.getD, List.getElem?_eq_getElem h]
def IsW (ys cs : List Nat) : Prop := ys.length = cs.length ∧ ∀ i, Is .f32 (ys.getD i 0) (cs.getD i 0)
theorem is_0 : Is .f32 0 0 := is_lit (by decide)
theorem IsW.len {ys cs : List Nat} (h : IsW ys cs) : ys.length = cs.length := h.1
theorem IsW.at {ys cs : List Nat} (h : IsW ys cs) (i : Nat) : Is .f32 (ys.getD i 0) (cs.getD i 0) := h.2 i
theorem getD_set' (xs : List Nat) (k i x : Nat) : (xs.set k x).getD i 0 = if k = i ∧ k < xs.length then x else xs.getD i 0 := by
  simp only [List.getD_eq_getElem?_getD, List.getElem?_set]
  by_cases h : k = i
  · subst h
    by_cases h2 : k < xs.length <;> simp [h2]
  · simp [h]
theorem IsW.set {ys cs : List Nat} (h : IsW ys cs) (k : Nat) {r c : Nat} (hr : Is .f32 r c) : IsW (ys.set k r) (cs.set k c) := by
  refine ⟨by simp [h.1], fun i => ?_⟩
  rw [getD_set', getD_set', h.1]
  by_cases g : k = i ∧ k < cs.length
  · rw [if_pos g, if_pos g]; exact hr
  · rw [if_neg g, if_neg g]; exact h.2 i
theorem IsW.app {ys cs : List Nat} (h : IsW ys cs) {r c : Nat} (hr : Is .f32 r c) : IsW (ys ++ [r]) (cs ++ [c]) := by
  refine ⟨by simp [h.1], fun i => ?_⟩
  simp only [List.getD_eq_getElem?_getD, List.getElem?_append, h.1]
  by_cases hi : i < cs.length
  · have := h.2 i
    simp only [List.getD_eq_getElem?_getD] at this
    simpa [hi] using this
  · by_cases he : i = cs.length
    · simpa [he] using hr
    · have : ([r] : List Nat)[i - cs.length]? = none := List.getElem?_eq_none (by simp; omega)
      have t2 : ([c] : List Nat)[i - cs.length]? = none := List.getElem?_eq_none (by simp; omega)
      simp [hi, this, t2]; exact is_0
theorem IsW.nil : IsW [] [] := ⟨rfl, fun i => by simpa using is_0⟩
theorem getD_mem' {xs : List Nat} {i : Nat} (h : i < xs.length) : xs.getD i 0 ∈ xs := by
  rw [show xs.getD i 0 = xs[i] by simp [List.getD, h]]; exact List.getElem_mem h
theorem getD_ge {xs : List Nat} {i : Nat} (h : xs.length ≤ i) : xs.getD i 0 = 0 := by simp [List.getD, List.getElem?_eq_none h]
theorem fin_getD {xs : List Nat} (h : finA xs = true) (i : Nat) : finB .f32 (xs.getD i 0) = true := by
  by_cases hi : i < xs.length
  · rw [show xs.getD i 0 = xs[i] by simp [List.getD, hi]]; exact finA_out h i hi
  · rw [getD_ge (by omega)]; decide
theorem lt_getD {xs : List Nat} (h : ∀ x ∈ xs, x < 2 ^ 32) (i : Nat) : xs.getD i 0 < 2 ^ 32 := by
  by_cases hi : i < xs.length
  · exact h _ (getD_mem' hi)
  · rw [getD_ge (by omega)]; decide
theorem is_getD {xs : List Nat} (hf : finA xs = true) (h : ∀ x ∈ xs, x < 2 ^ 32) (i : Nat) : Is .f32 (xs.getD i 0) (xs.getD i 0) := ⟨cn_fin (fin_getD hf i), lt_getD h i⟩
theorem IsW.self {xs : List Nat} (hf : finA xs = true) (h : ∀ x ∈ xs, x < 2 ^ 32) : IsW xs xs := ⟨rfl, is_getD hf h⟩
theorem IsW.lt {ys cs : List Nat} (h : IsW ys cs) : ∀ x ∈ ys, x < 2 ^ 32 := by
  intro x hx
  obtain ⟨i, hi, rfl⟩ := List.mem_iff_getElem.1 hx
  have := (h.2 i).2
  rwa [show ys.getD i 0 = ys[i] by simp [List.getD, hi]] at this
theorem IsW.fin {ys cs : List Nat} (h : IsW ys cs) : finA ys = finA cs := by
  unfold finA
  rw [decide_eq_decide]
  have hl := h.1
  have e : ∀ i, finB .f32 (ys.getD i 0) = finB .f32 (cs.getD i 0) := fun i => fin_is (h.2 i)
  constructor
  · intro a i hi
    have := a i (by omega)
    rw [show ys[i] = ys.getD i 0 by simp [List.getD, show i < ys.length by omega], e] at this
    rwa [show cs.getD i 0 = cs[i] by simp [List.getD, hi]] at this
  · intro a i hi
    have := a i (by omega)
    rw [show cs[i] = cs.getD i 0 by simp [List.getD, show i < cs.length by omega], ← e] at this
    rwa [show ys.getD i 0 = ys[i] by simp [List.getD, hi]] at this
theorem IsW.eq {ys cs : List Nat} (h : IsW ys cs) (hf : finA cs = true) : ys = cs := by
  refine List.ext_getElem h.1 fun i h1 h2 => ?_
  have := h.2 i
  rw [show ys.getD i 0 = ys[i] by simp [List.getD, h1], show cs.getD i 0 = cs[i] by simp [List.getD, h2]] at this
  exact is_eq this (nan_fin (finA_out hf i h2))
/-- What is returned of a list that has been made: itself if it is finite, else nothing. -/
def RetW (cs : List Nat) (w : World) (e : Ending) (w' : World) : Prop := ∃ v ys, e = .returned v ∧ IsW ys cs ∧ Own w' w.heap.size v (fl ys) ∧ Below w.heap.size w w'
/-- A number of a list in memory. -/
theorem Rd.num {w : World} {B : Nat} {A : Option Addr} {n c : Nat} {xs : List Nat} (h : Rd w B (.slice A n c) (fl xs)) {i : Nat} (hi : i < n) :
    ∃ b off, A = some ⟨b, off, none⟩ ∧ b < B ∧ ∀ j, j < n → w.cell? ⟨b, off + j, none⟩ = some (.float .f32 (xs.getD j 0)) := by
  obtain ⟨A', c', hv, _, _, q3⟩ := h
  rw [fl_len] at hv q3
  cases hv
  obtain ⟨b, off, rfl, hb, hc⟩ := q3 (by omega)
  exact ⟨b, off, rfl, hb, fun j hj => hc j _ (fl_getD xs j hj)⟩
theorem ng_lt (x : Nat) (hx : x < 2 ^ 32) : ngF x < 2 ^ 32 := by unfold ngF; exact neg_lt32 x hx
theorem ng_fin (x : Nat) (hx : x < 2 ^ 32) (h : finB .f32 x = true) : finB .f32 (ngF x) = true := by
  obtain ⟨s, m, e, hr⟩ := fin_num h
  refine num_fin (s := !s) (m := m) (e := e) ?_
  unfold ngF
  rw [read_neg32 x hx, hr]; rfl
theorem hi_fin (xs : List Nat) (hx : ∀ x ∈ xs, x < 2 ^ 32) (hf : finA xs = true) : finA (hiK xs xs.length) = true ∧ ∀ x ∈ hiK xs xs.length, x < 2 ^ 32 := by
  have key : ∀ k, finB .f32 (hiA xs k) = true ∧ hiA xs k < 2 ^ 32 := by
    intro k
    unfold hiA
    split
    · exact ⟨ng_fin _ (lt_getD hx _) (fin_getD hf _), ng_lt _ (lt_getD hx _)⟩
    · exact ⟨fin_getD hf _, lt_getD hx _⟩
  constructor
  · unfold finA
    refine decide_eq_true fun i h => ?_
    simp only [hiK, List.getElem_map, List.getElem_range]
    exact (key i).1
  · intro x hxm
    obtain ⟨i, _, rfl⟩ := List.mem_map.1 hxm
    exact (key i).2
/-- The part of a ring that one number of both lists and one tap tell. -/
def jv (low high ts hs : List Nat) (j k : Nat) : Nat := ar .add .f32 (ar .mul .f32 (ts.getD k 0) (low.getD j 0)) (ar .mul .f32 (hs.getD k 0) (high.getD j 0))
def jiK (low high ts hs : List Nat) (N : Nat) (L : List Nat) (j : Nat) : Nat → List Nat
  | 0 => L
  | k + 1 => (jiK low high ts hs N L j k).set ((2 * j + k) % N) (ar .add .f32 ((jiK low high ts hs N L j k).getD ((2 * j + k) % N) 0) (jv low high ts hs j k))
def joK (low high ts hs : List Nat) (N : Nat) : Nat → List Nat
  | 0 => List.replicate N 0
  | j + 1 => jiK low high ts hs N (joK low high ts hs N j) j ts.length
theorem jiK_len (low high ts hs : List Nat) (N : Nat) (L : List Nat) (j : Nat) : ∀ k, (jiK low high ts hs N L j k).length = L.length
  | 0 => rfl
  | k + 1 => by show (List.set _ _ _).length = _; rw [List.length_set, jiK_len low high ts hs N L j k]
theorem joK_len (low high ts hs : List Nat) (N : Nat) : ∀ j, (joK low high ts hs N j).length = N
  | 0 => by simp [joK]
  | j + 1 => by show (jiK _ _ _ _ _ _ _ _).length = N; rw [jiK_len, joK_len low high ts hs N j]
def joA (low high ts : List Nat) : List Nat := joK low high ts (hiK ts ts.length) (2 * low.length) low.length
theorem joA_len (low high ts : List Nat) : (joA low high ts).length = 2 * low.length := joK_len _ _ _ _ _ _
def jrG (low high ts : List Nat) : Bool := decide (1 ≤ low.length ∧ low.length ≤ 64 ∧ high.length = low.length) && finA low && finA high && vpB ts
def jrB (low high ts : List Nat) : Bool := jrG low high ts && finA (joA low high ts)
def jrL (low high ts : List Nat) : List Nat := if jrB low high ts then joA low high ts else []
theorem jrG_out {low high ts : List Nat} (h : jrG low high ts = true) : (1 ≤ low.length ∧ low.length ≤ 64 ∧ high.length = low.length) ∧ finA low = true ∧ finA high = true ∧ vpB ts = true := by
  unfold jrG at h; simp only [Bool.and_eq_true, decide_eq_true_eq] at h; exact ⟨h.1.1.1, h.1.1.2, h.1.2, h.2⟩
theorem jr_no {low high ts : List Nat} (h : jrG low high ts = false) : jrL low high ts = [] ∧ jrB low high ts = false := by
  have : jrB low high ts = false := by unfold jrB; rw [h]; rfl
  exact ⟨by unfold jrL; rw [this]; rfl, this⟩
theorem jrL_len (low high ts : List Nat) : (jrL low high ts).length ≤ 1048576 := by
  unfold jrL
  split
  · rename_i h
    unfold jrB at h
    rw [Bool.and_eq_true] at h
    have := (jrG_out h.1).1.2.1
    rw [joA_len]; omega
  · simp
def JrR (w0 : World) (g : Nat) (low high ts hs : List Nat) (N j : Nat) (i : Value) (wr : World) : Prop :=
  ∃ k rs, k ≤ ts.length ∧ i = .int .i64 k ∧ IsW rs (jiK low high ts hs N (joK low high ts hs N j) j k) ∧ Own wr w0.heap.size (.slice (some ⟨g, 0, none⟩) N N) (fl rs) ∧ Below w0.heap.size w0 wr
def JoR (w0 : World) (g : Nat) (low high ts hs : List Nat) (N : Nat) (i : Value) (wr : World) : Prop :=
  ∃ j rs, j ≤ low.length ∧ i = .int .i64 j ∧ IsW rs (joK low high ts hs N j) ∧ Own wr w0.heap.size (.slice (some ⟨g, 0, none⟩) N N) (fl rs) ∧ Below w0.heap.size w0 wr
theorem is_repl (N : Nat) : IsW (List.replicate N 0) (List.replicate N 0) := by
  refine ⟨rfl, fun i => ?_⟩
  have : (List.replicate N 0).getD i 0 = 0 := by
    simp only [List.getD_eq_getElem?_getD, List.getElem?_replicate]
    split <;> rfl
  rw [this]; exact is_0
theorem jr_made (w : World) (N : Nat) (hN : N ≤ 1048576) : Own (w.alloc (.cells (madeCells #[Value.float .f32 0] N) 23)) w.heap.size (.slice (some ⟨w.heap.size, 0, none⟩) N N) (fl (List.replicate N 0)) := by
  have e : (madeCells #[Value.float .f32 0] N).toList = fl (List.replicate N 0) := by rw [toList_madeCells_one]; simp [fl]
  have es : (madeCells #[Value.float .f32 0] N).size = N * 1 := by rw [← Array.length_toList, e, fl_len, List.length_replicate, Nat.mul_one]
  have r1 := World.ownsRow_lit (base := w.heap.size) (e := 23) (size := 1) w (madeCells #[Value.float .f32 0] N) N (Nat.le_refl _) (by unfold maxLen; omega) es
  rw [e] at r1
  exact Own.row r1
end Go.Proofs.Ythkklilfignmpaa
