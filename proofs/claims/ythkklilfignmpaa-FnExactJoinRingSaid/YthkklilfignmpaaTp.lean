/-
  Contracts: the sums of products of taps and numbers of a ring, of the model's side.
-/
import Derived.Test.YthkklilfignmpaaHi
import Derived.Deep.RegionWith
namespace Go.Proofs.Ythkklilfignmpaa
open Go.RowKit Fl
set_option linter.unusedVariables false

/-- Both lists are worth the same, number by number; the second one's NaNs are one. -/
def IsLs (Ls cs : List Nat) : Prop := Ls.length = cs.length ∧ ∀ i (h : i < Ls.length) (h2 : i < cs.length), Is .f32 Ls[i] cs[i]
theorem isLs_nil : IsLs [] [] := ⟨rfl, fun i h => by simp at h⟩
theorem isLs_app {Ls cs : List Nat} {r c : Nat} (h : IsLs Ls cs) (hr : Is .f32 r c) : IsLs (Ls ++ [r]) (cs ++ [c]) := by
  refine ⟨by simp [h.1], fun i h1 h2 => ?_⟩
  by_cases hi : i < Ls.length
  · have hi2 : i < cs.length := by have := h.1; omega
    rw [List.getElem_append_left hi, List.getElem_append_left hi2]
    exact h.2 i hi hi2
  · have he : i = Ls.length := by simp at h1; omega
    subst he
    have e1 : (Ls ++ [r])[Ls.length]'h1 = r := by simp
    have e2 : (cs ++ [c])[Ls.length]'h2 = c := by
      rw [List.getElem_append_right (by have := h.1; omega)]
      simp
    rw [e1, e2]
    exact hr
theorem isLs_lt {Ls cs : List Nat} (h : IsLs Ls cs) : ∀ x ∈ Ls, x < 2 ^ 32 := by
  intro x hx
  obtain ⟨i, hi, rfl⟩ := List.mem_iff_getElem.1 hx
  exact (h.2 i hi (by have := h.1; omega)).2
theorem isLs_fin {Ls cs : List Nat} (h : IsLs Ls cs) : finA Ls = finA cs := by
  unfold finA
  rw [decide_eq_decide]
  have hl := h.1
  constructor
  · intro a i hi
    rw [← fin_is (h.2 i (by omega) hi)]; exact a i (by omega)
  · intro a i hi
    rw [fin_is (h.2 i hi (by omega))]; exact a i (by omega)
theorem isLs_eq {Ls cs : List Nat} (h : IsLs Ls cs) (hf : finA cs = true) : Ls = cs := by
  refine List.ext_getElem h.1 fun i h1 h2 => is_eq (h.2 i h1 h2) ?_
  have := finA_out hf i h2
  unfold finB at this
  unfold isN
  cases hq : FloatKind.f32.format.read cs[i] <;> rw [hq] at this <;> simp_all [Ieee.Datum.isNaN]

/-- m numbers of a ring from 2 j on. -/
def rpL (list : List Nat) (j m : Nat) : List Nat := (List.range m).map fun k => list.getD ((2 * j + k) % list.length) 0
theorem rpL_len (list : List Nat) (j m : Nat) : (rpL list j m).length = m := by simp [rpL]
def tpA (list taps : List Nat) (j : Nat) : Nat := dotK taps (rpL list j taps.length) taps.length
def tpK (list taps : List Nat) (k : Nat) : List Nat := (List.range k).map (tpA list taps)
theorem tpK_succ (list taps : List Nat) (k : Nat) : tpK list taps (k + 1) = tpK list taps k ++ [tpA list taps k] := by unfold tpK; rw [List.range_succ, List.map_append]; rfl
theorem tpK_len (list taps : List Nat) (k : Nat) : (tpK list taps k).length = k := by simp [tpK]
theorem dotK_ring (list taps : List Nat) (j k q : Nat) (hq : q = (2 * j + k) % list.length) (hk : k < taps.length) (hl : q < list.length) :
    dotK taps (rpL list j taps.length) (k + 1) = ar .add .f32 (dotK taps (rpL list j taps.length) k) (ar .mul .f32 taps[k] list[q]) := by
  rw [dotK_succ taps _ k hk (by rw [rpL_len]; exact hk)]
  congr 2
  simp only [rpL, List.getElem_map, List.getElem_range, ← hq]
  simp [List.getD, hl]
theorem tmodN (a n : Nat) : Int.tmod (a : Int) (n : Int) = ((a % n : Nat) : Int) := rfl
/-- Returns a list that is worth this one. -/
def RetLs (cs : List Nat) (w : World) (e : Ending) (w' : World) : Prop := ∃ v Ls, e = .returned v ∧ Own w' w.heap.size v (fl Ls) ∧ IsLs Ls cs ∧ Below w.heap.size w w'
theorem rowDrewF {w : World} {base : Nat} {e : TypeId} {size : Nat} {v : Value} {n : Nat} {xs : List Value} (h : w.ownsRow base e size v n xs) (m : Nat) : (w.drewN m).ownsRow base e size v n xs := h
def TpRel (w0 : World) (list taps : List Nat) (v i : Value) (wr : World) : Prop :=
  ∃ (j : Nat) (Ls : List Nat), 2 * j ≤ list.length ∧ i = .int .i64 j ∧ wr.ownsRow w0.heap.size 23 1 v j (fl Ls) ∧ IsLs Ls (tpK list taps j) ∧ Below w0.heap.size w0 wr
def TpIn (w0 : World) (list taps : List Nat) (j : Nat) (s i : Value) (wr : World) : Prop :=
  ∃ k q r : Nat, k ≤ taps.length ∧ i = .int .i64 k ∧ s = .float .f32 r ∧ Is .f32 r (dotK taps (rpL list j taps.length) k) ∧ wr = w0.drewN q
end Go.Proofs.Ythkklilfignmpaa
