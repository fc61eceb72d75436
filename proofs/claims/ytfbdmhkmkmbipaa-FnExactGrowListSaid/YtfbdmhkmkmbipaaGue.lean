/-
  Contracts: what evens tell of odds and odds of evens, for lists of int64, by the model.
-/
import Derived.Test.YtfbdmhkmkmbipaaHalf
import Derived.Test.YtfbdmhkmkmbipaaMir
namespace Go.Proofs.Ytfbdmhkmkmbipaa
open Go.RowKit
set_option linter.unusedVariables false

def Bds (M : Int) (xs : List Int) : Prop := ∀ x ∈ xs, -M ≤ x ∧ x ≤ M
theorem Bds.at {M : Int} {xs : List Int} (h : Bds M xs) (k : Nat) (hk : k < xs.length) : -M ≤ xs[k] ∧ xs[k] ≤ M := h _ (List.getElem_mem hk)
theorem Bds.getD {M : Int} {xs : List Int} (h : Bds M xs) (hM : 0 ≤ M) (k : Nat) : -M ≤ xs.getD k 0 ∧ xs.getD k 0 ≤ M := by
  by_cases hk : k < xs.length
  · have := h.at k hk; simpa [List.getD, hk] using this
  · simp [List.getD, hk]; omega
theorem tdiv_neg' {a : Int} {b : Int} (h : a < 0) : a.tdiv b = -((-a).tdiv b) ∧ a.tmod b = -((-a).tmod b) := by
  constructor
  · rw [Int.neg_tdiv, Int.neg_neg]
  · rw [Int.neg_tmod, Int.neg_neg]
theorem floor_parts (a b : Int) (hb : b = 2 ∨ b = 4 ∨ b = 16) :
    (a.tmod b < 0 → a.tdiv b - 1 = a / b) ∧ (0 ≤ a.tmod b → a.tdiv b = a / b) ∧ (-(a.natAbs : Int) ≤ a.tdiv b ∧ a.tdiv b ≤ a.natAbs) := by
  by_cases h : a < 0
  · obtain ⟨h1, h2⟩ := tdiv_neg' (b := b) h
    rw [h1, h2, Int.tdiv_eq_ediv_of_nonneg (by omega), Int.tmod_eq_emod_of_nonneg (by omega)]
    rcases hb with rfl | rfl | rfl <;> omega
  · rw [Int.tdiv_eq_ediv_of_nonneg (by omega), Int.tmod_eq_emod_of_nonneg (by omega)]
    rcases hb with rfl | rfl | rfl <;> omega
/-- The place in n numbers that is nearest to i. -/
def nrI (n : Nat) (i : Int) : Nat := (max 0 (min ((n : Int) - 1) i)).toNat
theorem nrI_lt {n : Nat} (i : Int) (h : 0 < n) : nrI n i < n := by unfold nrI; omega
theorem mir_nat (n : Nat) (i : Int) (h : 0 < n) : (mir n i).toNat < n ∧ mir n i = ((mir n i).toNat : Int) := by
  have := mir_bd n i (by omega)
  omega
theorem mir_in {n i : Int} (h0 : 0 ≤ i) (h1 : i < n) : mir n i = i := by
  by_cases hn : n = 1
  · subst hn; unfold mir; rw [if_pos rfl]; omega
  · rw [mir_j hn (j := i) (by rw [Int.tmod_eq_emod_of_nonneg h0]; exact Int.emod_eq_of_lt h0 (by omega))]
    rw [if_neg (show ¬ i < 0 by omega), if_neg (by omega)]
/-- What evens tell of the odd with the index i. -/
def gue (kind : Int) (low : List Int) (i : Nat) : Int :=
  if kind = 0 then low.getD i 0 else if kind = 1 then (low.getD i 0 + low.getD (nrI low.length ((i : Int) + 1)) 0) / 2
  else (9 * (low.getD i 0 + low.getD (mir low.length ((i : Int) + 1)).toNat 0) - (low.getD (mir low.length ((i : Int) - 1)).toNat 0 + low.getD (mir low.length ((i : Int) + 2)).toNat 0) + 8) / 16
/-- What odds tell of the even with the index i. -/
def gai (kind : Int) (high : List Int) (i : Nat) : Int :=
  if kind = 0 then (if i < high.length then high.getD i 0 / 2 else 0) else (high.getD (nrI high.length ((i : Int) - 1)) 0 + high.getD (nrI high.length (i : Int)) 0 + 2) / 4
def MB : Int := 10000000000
def RetI (x : Int) (w : World) (e : Ending) (w' : World) : Prop := e = .returned (.int .i64 x) ∧ ∃ n, w' = w.drewN n

end Go.Proofs.Ytfbdmhkmkmbipaa
