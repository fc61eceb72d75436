/-
  A list that is lifted once by a scheme (no walk in it).
-/
import Derived.Test.YtfbdmhkmkmbipaaStp
import Derived.Test.YtfbdmhkmkmbipaaIsl
namespace Go.Proofs.Ytfbdmhkmkmbipaa
open Go.RowKit Fl
set_option linter.unusedVariables false
set_option maxRecDepth 100000

def evP (xs : List Nat) (k : Nat) : List Nat := (List.range ((k + 1) / 2)).map fun j => xs.getD (2 * j) 0
def odP (xs : List Nat) (k : Nat) : List Nat := (List.range (k / 2)).map fun j => xs.getD (2 * j + 1) 0
theorem evP_even (xs : List Nat) (k : Nat) (h : k % 2 = 0) : evP xs (k + 1) = evP xs k ++ [xs.getD k 0] := by
  unfold evP
  rw [show (k + 1 + 1) / 2 = (k + 1) / 2 + 1 by omega, List.range_succ, List.map_append]
  simp only [List.map_cons, List.map_nil]
  rw [show 2 * ((k + 1) / 2) = k by omega]
theorem evP_odd (xs : List Nat) (k : Nat) (h : k % 2 = 1) : evP xs (k + 1) = evP xs k := by
  unfold evP; rw [show (k + 1 + 1) / 2 = (k + 1) / 2 by omega]
theorem odP_odd (xs : List Nat) (k : Nat) (h : k % 2 = 1) : odP xs (k + 1) = odP xs k ++ [xs.getD k 0] := by
  unfold odP
  rw [show (k + 1) / 2 = k / 2 + 1 by omega, List.range_succ, List.map_append]
  simp only [List.map_cons, List.map_nil]
  rw [show 2 * (k / 2) + 1 = k by omega]
theorem odP_even (xs : List Nat) (k : Nat) (h : k % 2 = 0) : odP xs (k + 1) = odP xs k := by
  unfold odP; rw [show (k + 1) / 2 = k / 2 by omega]
def wgK (ws ev od : List Nat) : Nat → List Nat × List Nat
  | 0 => (ev, od)
  | k + 1 => if k % 2 = 0 then ((wgK ws ev od k).1, upO (ws.getD k 0) (wgK ws ev od k).1 (wgK ws ev od k).2) else (upE (ws.getD k 0) (wgK ws ev od k).2 (wgK ws ev od k).1, (wgK ws ev od k).2)
theorem wgK_even (ws ev od : List Nat) (k : Nat) (h : k % 2 = 0) : wgK ws ev od (k + 1) = ((wgK ws ev od k).1, upO (ws.getD k 0) (wgK ws ev od k).1 (wgK ws ev od k).2) := by rw [wgK, if_pos h]
theorem wgK_odd (ws ev od : List Nat) (k : Nat) (h : k % 2 = 1) : wgK ws ev od (k + 1) = (upE (ws.getD k 0) (wgK ws ev od k).2 (wgK ws ev od k).1, (wgK ws ev od k).2) := by rw [wgK, if_neg (by omega)]
theorem wgK_len (ws ev od : List Nat) : ∀ k, (wgK ws ev od k).1.length = ev.length ∧ (wgK ws ev od k).2.length = od.length
  | 0 => ⟨rfl, rfl⟩
  | k + 1 => by
    have ih := wgK_len ws ev od k
    by_cases h : k % 2 = 0
    · rw [wgK_even _ _ _ _ h]; exact ⟨ih.1, by simp [upO, ih.2]⟩
    · rw [wgK_odd _ _ _ _ (by omega)]; exact ⟨by simp [upE, ih.1], ih.2⟩
def scF (op : BinOp) (s : Nat) (t : List Nat) (i : Nat) : Nat := ar op .f32 (t.getD i 0) s
def scL (op : BinOp) (s : Nat) (t : List Nat) : List Nat := (List.range t.length).map (scF op s t)
theorem scL_len (op : BinOp) (s : Nat) (t : List Nat) : (scL op s t).length = t.length := by simp [scL]
def loE (ws : List Nat) (s : Nat) (xs : List Nat) : List Nat := if (odN xs).isEmpty then evN xs else scL .mul s (wgK ws (evN xs) (odN xs) ws.length).1
def loO (ws : List Nat) (s : Nat) (xs : List Nat) : List Nat := if (odN xs).isEmpty then odN xs else scL .quo s (wgK ws (evN xs) (odN xs) ws.length).2
theorem lo_one {ws xs : List Nat} {s : Nat} (h : xs.length ≤ 1) : loE ws s xs = evN xs ∧ loO ws s xs = odN xs := by
  have : odN xs = [] := List.eq_nil_of_length_eq_zero (by rw [odN_len]; omega)
  unfold loE loO; rw [this]; exact ⟨rfl, rfl⟩
theorem lo_more {ws xs : List Nat} {s : Nat} (h : 2 ≤ xs.length) : loE ws s xs = scL .mul s (wgK ws (evN xs) (odN xs) ws.length).1 ∧ loO ws s xs = scL .quo s (wgK ws (evN xs) (odN xs) ws.length).2 := by
  have : (odN xs).isEmpty = false := by
    cases hq : odN xs with
    | nil => have := odN_len xs; rw [hq] at this; simp at this; omega
    | cons a t => rfl
  unfold loE loO; rw [this]; exact ⟨rfl, rfl⟩
theorem is_fin {u : Nat} (h : finB .f32 u = true) (hl : u < 2 ^ 32) : Is .f32 u u := ⟨cn_of_not (by unfold finB at h; unfold isN; cases hq : FloatKind.f32.format.read u <;> rw [hq] at h <;> simp_all [Ieee.Datum.isNaN]), hl⟩
theorem isL_self {xs : List Nat} (hf : finA xs = true) (hx : ∀ x ∈ xs, x < 2 ^ 32) : IsL xs xs := by
  refine ⟨rfl, fun i => ?_⟩
  by_cases hi : i < xs.length
  · rw [List.getD_eq_getElem?_getD, List.getElem?_eq_getElem hi]
    exact ⟨cn_of_not (by have := finA_out hf i hi; unfold finB at this; unfold isN; cases hq : FloatKind.f32.format.read xs[i] <;> rw [hq] at this <;> simp_all [Ieee.Datum.isNaN]), hx _ (List.getElem_mem hi)⟩
  · rw [List.getD_eq_getElem?_getD, List.getElem?_eq_none (by omega)]; exact is_lit (by decide)
theorem isL_lt {a b : List Nat} (h : IsL a b) : ∀ x ∈ a, x < 2 ^ 32 := by
  intro x hx
  obtain ⟨i, hi, rfl⟩ := List.getElem_of_mem hx
  have := (h.2 i).2
  rw [List.getD_eq_getElem?_getD, List.getElem?_eq_getElem hi] at this
  exact this
theorem isL_isLs {a b : List Nat} (h : IsL a b) : IsLs a b := ⟨h.1, fun i h1 h2 => by
  have := h.2 i
  rw [List.getD_eq_getElem?_getD, List.getElem?_eq_getElem h1, List.getD_eq_getElem?_getD, List.getElem?_eq_getElem h2] at this
  exact this⟩
theorem evN_mem {xs : List Nat} (h : ∀ x ∈ xs, x < 2 ^ 32) : ∀ x ∈ evN xs, x < 2 ^ 32 := by
  intro x hx
  obtain ⟨i, _, rfl⟩ := List.mem_map.1 hx
  by_cases hi : 2 * i < xs.length
  · rw [List.getD_eq_getElem?_getD, List.getElem?_eq_getElem hi]; exact h _ (List.getElem_mem hi)
  · rw [List.getD_eq_getElem?_getD, List.getElem?_eq_none (by omega)]; decide
theorem odN_mem {xs : List Nat} (h : ∀ x ∈ xs, x < 2 ^ 32) : ∀ x ∈ odN xs, x < 2 ^ 32 := by
  intro x hx
  obtain ⟨i, _, rfl⟩ := List.mem_map.1 hx
  by_cases hi : 2 * i + 1 < xs.length
  · rw [List.getD_eq_getElem?_getD, List.getElem?_eq_getElem hi]; exact h _ (List.getElem_mem hi)
  · rw [List.getD_eq_getElem?_getD, List.getElem?_eq_none (by omega)]; decide
theorem finD {xs : List Nat} (h : finA xs = true) (i : Nat) : finB .f32 (xs.getD i 0) = true := by
  by_cases hi : i < xs.length
  · rw [List.getD_eq_getElem?_getD, List.getElem?_eq_getElem hi]; exact finA_out h i hi
  · rw [List.getD_eq_getElem?_getD, List.getElem?_eq_none (by omega)]; decide
theorem evN_fin {xs : List Nat} (h : finA xs = true) : finA (evN xs) = true := decide_eq_true fun i hi => by simp only [evN, List.getElem_map, List.getElem_range]; exact finD h _
theorem odN_fin {xs : List Nat} (h : finA xs = true) : finA (odN xs) = true := decide_eq_true fun i hi => by simp only [odN, List.getElem_map, List.getElem_range]; exact finD h _
def RetLo (E O : List Nat) (w : World) (e : Ending) (w' : World) : Prop :=
  ∃ v u cE cO, e = .returned (.tuple #[v, u, .bool (finA E && finA O)]) ∧ Own w' w.heap.size v (fl cE) ∧ IsL cE E ∧ Own w' w.heap.size u (fl cO) ∧ IsL cO O ∧ Apart u v ∧ Below w.heap.size w w'
def RetLp (E O : List Nat) (w : World) (e : Ending) (w' : World) : Prop :=
  ∃ v u cE cO, e = .returned (.tuple #[v, u]) ∧ Own w' w.heap.size v (fl cE) ∧ IsL cE E ∧ Own w' w.heap.size u (fl cO) ∧ IsL cO O ∧ Apart u v ∧ Below w.heap.size w w'
end Go.Proofs.Ytfbdmhkmkmbipaa
