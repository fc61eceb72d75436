/-
  Lists worth the same, number by number (told by getD).
-/
import Derived.Test.YthkklilfignmpaaTb
import Derived.Test.YthkklilfignmpaaSft
import Derived.Test.YthkklilfignmpaaAp
namespace Go.Proofs.Ythkklilfignmpaa
open Go.RowKit Fl
set_option linter.unusedVariables false

def IsW (ys cs : List Nat) : Prop := ys.length = cs.length ∧ ∀ i, Is .f32 (ys.getD i 0) (cs.getD i 0)
theorem is_0 : Is .f32 0 0 := is_lit (by decide)
theorem IsW.len {ys cs : List Nat} (h : IsW ys cs) : ys.length = cs.length := h.1
theorem IsW.at {ys cs : List Nat} (h : IsW ys cs) (i : Nat) : Is .f32 (ys.getD i 0) (cs.getD i 0) := h.2 i
theorem getD_set' (xs : List Nat) (k i x : Nat) : (xs.set k x).getD i 0 = if k = i ∧ k < xs.length then x else xs.getD i 0 := by
  simp only [List.getD_eq_getElem?_getD, List.getElem?_set]
  by_cases h : k = i
  · subst h
    by_cases h2 : k < xs.length <;> simp [h2]
  · simp [h]
theorem IsW.set {ys cs : List Nat} (h : IsW ys cs) (k : Nat) {r c : Nat} (hr : Is .f32 r c) : IsW (ys.set k r) (cs.set k c) := by
  refine ⟨by simp [h.1], fun i => ?_⟩
  rw [getD_set', getD_set', h.1]
  by_cases g : k = i ∧ k < cs.length
  · rw [if_pos g, if_pos g]; exact hr
  · rw [if_neg g, if_neg g]; exact h.2 i
theorem IsW.app {ys cs : List Nat} (h : IsW ys cs) {r c : Nat} (hr : Is .f32 r c) : IsW (ys ++ [r]) (cs ++ [c]) := by
  refine ⟨by simp [h.1], fun i => ?_⟩
  simp only [List.getD_eq_getElem?_getD, List.getElem?_append, h.1]
  by_cases hi : i < cs.length
  · have := h.2 i
    simp only [List.getD_eq_getElem?_getD] at this
    simpa [hi] using this
  · by_cases he : i = cs.length
    · simpa [he] using hr
    · have : ([r] : List Nat)[i - cs.length]? = none := List.getElem?_eq_none (by simp; omega)
      have t2 : ([c] : List Nat)[i - cs.length]? = none := List.getElem?_eq_none (by simp; omega)
      simp [hi, this, t2]; exact is_0
theorem IsW.nil : IsW [] [] := ⟨rfl, fun i => by simpa using is_0⟩
theorem getD_mem' {xs : List Nat} {i : Nat} (h : i < xs.length) : xs.getD i 0 ∈ xs := by
  rw [show xs.getD i 0 = xs[i] by simp [List.getD, h]]; exact List.getElem_mem h
theorem getD_ge {xs : List Nat} {i : Nat} (h : xs.length ≤ i) : xs.getD i 0 = 0 := by simp [List.getD, List.getElem?_eq_none h]
theorem fin_getD {xs : List Nat} (h : finA xs = true) (i : Nat) : finB .f32 (xs.getD i 0) = true := by
  by_cases hi : i < xs.length
  · rw [show xs.getD i 0 = xs[i] by simp [List.getD, hi]]; exact finA_out h i hi
  · rw [getD_ge (by omega)]; decide
theorem lt_getD {xs : List Nat} (h : ∀ x ∈ xs, x < 2 ^ 32) (i : Nat) : xs.getD i 0 < 2 ^ 32 := by
  by_cases hi : i < xs.length
  · exact h _ (getD_mem' hi)
  · rw [getD_ge (by omega)]; decide
theorem is_getD {xs : List Nat} (hf : finA xs = true) (h : ∀ x ∈ xs, x < 2 ^ 32) (i : Nat) : Is .f32 (xs.getD i 0) (xs.getD i 0) := ⟨cn_fin (fin_getD hf i), lt_getD h i⟩
theorem IsW.self {xs : List Nat} (hf : finA xs = true) (h : ∀ x ∈ xs, x < 2 ^ 32) : IsW xs xs := ⟨rfl, is_getD hf h⟩
theorem IsW.lt {ys cs : List Nat} (h : IsW ys cs) : ∀ x ∈ ys, x < 2 ^ 32 := by
  intro x hx
  obtain ⟨i, hi, rfl⟩ := List.mem_iff_getElem.1 hx
  have := (h.2 i).2
  rwa [show ys.getD i 0 = ys[i] by simp [List.getD, hi]] at this
theorem IsW.fin {ys cs : List Nat} (h : IsW ys cs) : finA ys = finA cs := by
  unfold finA
  rw [decide_eq_decide]
  have hl := h.1
  have e : ∀ i, finB .f32 (ys.getD i 0) = finB .f32 (cs.getD i 0) := fun i => fin_is (h.2 i)
  constructor
  · intro a i hi
    have := a i (by omega)
    rw [show ys[i] = ys.getD i 0 by simp [List.getD, show i < ys.length by omega], e] at this
    rwa [show cs.getD i 0 = cs[i] by simp [List.getD, hi]] at this
  · intro a i hi
    have := a i (by omega)
    rw [show cs[i] = cs.getD i 0 by simp [List.getD, show i < cs.length by omega], ← e] at this
    rwa [show ys.getD i 0 = ys[i] by simp [List.getD, hi]] at this
theorem IsW.eq {ys cs : List Nat} (h : IsW ys cs) (hf : finA cs = true) : ys = cs := by
  refine List.ext_getElem h.1 fun i h1 h2 => ?_
  have := h.2 i
  rw [show ys.getD i 0 = ys[i] by simp [List.getD, h1], show cs.getD i 0 = cs[i] by simp [List.getD, h2]] at this
  exact is_eq this (nan_fin (finA_out hf i h2))
/-- What is returned of a list that has been made: itself if it is finite, else nothing. -/
def RetW (cs : List Nat) (w : World) (e : Ending) (w' : World) : Prop := ∃ v ys, e = .returned v ∧ IsW ys cs ∧ Own w' w.heap.size v (fl ys) ∧ Below w.heap.size w w'
/-- A number of a list in memory. -/
theorem Rd.num {w : World} {B : Nat} {A : Option Addr} {n c : Nat} {xs : List Nat} (h : Rd w B (.slice A n c) (fl xs)) {i : Nat} (hi : i < n) :
    ∃ b off, A = some ⟨b, off, none⟩ ∧ b < B ∧ ∀ j, j < n → w.cell? ⟨b, off + j, none⟩ = some (.float .f32 (xs.getD j 0)) := by
  obtain ⟨A', c', hv, _, _, q3⟩ := h
  rw [fl_len] at hv q3
  cases hv
  obtain ⟨b, off, rfl, hb, hc⟩ := q3 (by omega)
  exact ⟨b, off, rfl, hb, fun j hj => hc j _ (fl_getD xs j hj)⟩
theorem quiet_leftW {P : Program} {f : FuncId} {args : Array Value} {w : World} {n : Nat} {v : Value} (h : Calls P f args (w.drewN n) fun e w' => e = .returned v ∧ w.drewN n = w') :
    Calls P f args (w.drewN n) fun e w'' => e = .returned v ∧ ∃ m, w'' = w.drewN m := h.mono fun _ _ ⟨he, hm⟩ => ⟨he, n, hm.symm⟩
/-- A contract of a callee that returns a float, for a walk of a region. -/
theorem ret_nc {P : Program} {f : FuncId} {args : Array Value} {w : World} {nc c : Nat} (h : Calls P f args (w.drewN nc) (RetF .f32 c (w.drewN nc))) :
    Calls P f args (w.drewN nc) fun e w'' => ∃ u, e = .returned u ∧ (∃ r, u = .float .f32 r ∧ Is .f32 r c) ∧ ∃ m, w'' = w.drewN m :=
  h.mono fun e w' ⟨r, n, h1, h2, h3⟩ => ⟨_, h1, ⟨r, rfl, h2⟩, nc + n, by rw [h3, World.drewN_drewN]⟩
end Go.Proofs.Ythkklilfignmpaa
