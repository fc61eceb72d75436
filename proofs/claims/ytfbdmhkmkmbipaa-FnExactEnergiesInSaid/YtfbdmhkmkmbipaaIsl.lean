/-
  Lists worth the same, number by number.
-/
import Derived.Test.YtfbdmhkmkmbipaaFin
import Derived.Test.YtfbdmhkmkmbipaaFloSine
namespace Go.Proofs.Ytfbdmhkmkmbipaa
open Go.RowKit Fl
set_option linter.unusedVariables false

def IsLs (Ls cs : List Nat) : Prop := Ls.length = cs.length ∧ ∀ i (h : i < Ls.length) (h2 : i < cs.length), Is .f32 Ls[i] cs[i]
theorem isLs_nil : IsLs [] [] := ⟨rfl, fun i h => by simp at h⟩
theorem isLs_app {Ls cs : List Nat} {r c : Nat} (h : IsLs Ls cs) (hr : Is .f32 r c) : IsLs (Ls ++ [r]) (cs ++ [c]) := by
  refine ⟨by simp [h.1], fun i h1 h2 => ?_⟩
  by_cases hi : i < Ls.length
  · have hi2 : i < cs.length := by have := h.1; omega
    rw [List.getElem_append_left hi, List.getElem_append_left hi2]
    exact h.2 i hi hi2
  · have he : i = Ls.length := by simp at h1; omega
    subst he
    have e1 : (Ls ++ [r])[Ls.length]'h1 = r := by simp
    have e2 : (cs ++ [c])[Ls.length]'h2 = c := by
      rw [List.getElem_append_right (by have := h.1; omega)]
      simp
    rw [e1, e2]
    exact hr
theorem isLs_lt {Ls cs : List Nat} (h : IsLs Ls cs) : ∀ x ∈ Ls, x < 2 ^ 32 := by
  intro x hx
  obtain ⟨i, hi, rfl⟩ := List.mem_iff_getElem.1 hx
  exact (h.2 i hi (by have := h.1; omega)).2
theorem isLs_fin {Ls cs : List Nat} (h : IsLs Ls cs) : finA Ls = finA cs := by
  unfold finA
  rw [decide_eq_decide]
  have hl := h.1
  constructor
  · intro a i hi
    rw [← fin_is (h.2 i (by omega) hi)]; exact a i (by omega)
  · intro a i hi
    rw [fin_is (h.2 i hi (by omega))]; exact a i (by omega)
theorem isLs_eq {Ls cs : List Nat} (h : IsLs Ls cs) (hf : finA cs = true) : Ls = cs := by
  refine List.ext_getElem h.1 fun i h1 h2 => is_eq (h.2 i h1 h2) ?_
  have := finA_out hf i h2
  unfold finB at this
  unfold isN
  cases hq : FloatKind.f32.format.read cs[i] <;> rw [hq] at this <;> simp_all [Ieee.Datum.isNaN]
theorem isLs_len {Ls cs : List Nat} (h : IsLs Ls cs) : Ls.length = cs.length := h.1
theorem isLs_cn (xs : List Nat) (h : ∀ x ∈ xs, x < 2 ^ 32) : IsLs xs (xs.map (cn .f32)) := by
  refine ⟨by simp, fun i h1 h2 => ?_⟩
  simp only [List.getElem_map]
  exact ⟨rfl, h _ (List.getElem_mem h1)⟩
end Go.Proofs.Ytfbdmhkmkmbipaa
