/-
  The energies of all bands of a picture (no walk in it).
-/
import Derived.Test.YtfbdmhkmkmbipaaLts
import Derived.Test.YtfbdmhkmkmbipaaRgr
import Derived.Test.YtfbdmhkmkmbipaaBnK
import Derived.Test.YtfbdmhkmkmbipaaEn
import Derived.Test.YtfbdmhkmkmbipaaLst
import Derived.Test.YtfbdmhkmkmbipaaIsl
namespace Go.Proofs.Ytfbdmhkmkmbipaa
open Go.RowKit Fl
set_option linter.unusedVariables false
set_option maxRecDepth 100000
/-- The band with the index i, in the order of the answer: its level less 1, and its kind. -/
def eiA (L i : Nat) : Nat × Int := if i < 3 * L then (i / 3, ((i % 3 + 1 : Nat) : Int)) else (L - 1, 0)
theorem eiA_at {L l : Nat} (h : l < L) (j : Nat) (hj : j < 3) : eiA L (3 * l + j) = (l, ((j + 1 : Nat) : Int)) := by
  unfold eiA
  rw [if_pos (by omega), show (3 * l + j) / 3 = l by omega, show (3 * l + j) % 3 = j by omega]
theorem eiA_last (L : Nat) : eiA L (3 * L) = (L - 1, 0) := by unfold eiA; rw [if_neg (by omega)]
theorem eiA_ok {L : Nat} (hL : 1 ≤ L ∧ L ≤ 4) (i : Nat) : (eiA L i).1 ≤ 3 ∧ 0 ≤ (eiA L i).2 ∧ (eiA L i).2 ≤ 3 := by
  unfold eiA
  split
  · exact ⟨by simp only; omega, by simp only; omega, by simp only; omega⟩
  · exact ⟨by simp only; omega, by simp only; omega, by simp only; omega⟩
/-- The cells of a place. -/
def rg4 (p q : Int) (a : Nat × Int) : List Value := [.int .i64 (rgX a.1 a.2 p q), .int .i64 (rgY a.1 a.2 p q), .int .i64 (rgW a.1 a.2 p q), .int .i64 (rgH a.1 a.2 p q)]
def plc (p q : Int) (L k : Nat) : List Value := (List.range k).flatMap fun i => rg4 p q (eiA L i)
theorem plc_succ (p q : Int) (L k : Nat) : plc p q L k ++ rg4 p q (eiA L k) = plc p q L (k + 1) := by simp [plc, List.range_succ, List.flatMap_append]
theorem plc_len (p q : Int) (L : Nat) : ∀ k, (plc p q L k).length = k * 4
  | 0 => rfl
  | k + 1 => by rw [← plc_succ, List.length_append, plc_len p q L k]; simp [rg4]; omega
theorem plc_get (p q : Int) (L : Nat) : ∀ (k i j : Nat), i < k → j < 4 → (plc p q L k)[i * 4 + j]? = (rg4 p q (eiA L i))[j]?
  | 0, i, _, h, _ => by omega
  | k + 1, i, j, h, hj => by
    rw [← plc_succ]
    by_cases hi : i < k
    · rw [List.getElem?_append_left (by rw [plc_len]; omega)]; exact plc_get p q L k i j hi hj
    · obtain rfl : i = k := by omega
      rw [List.getElem?_append_right (by rw [plc_len]; omega), plc_len, show i * 4 + j - i * 4 = j by omega]
theorem plc_three {L l : Nat} (p q : Int) (h : l < L) : plc p q L (3 * l) ++ (rg4 p q (l, 1) ++ rg4 p q (l, 2) ++ rg4 p q (l, 3)) = plc p q L (3 * (l + 1)) := by
  have e0 : eiA L (3 * l) = (l, ((0 + 1 : Nat) : Int)) := eiA_at h 0 (by omega)
  have e1 := eiA_at h 1 (by omega)
  have e2 := eiA_at h 2 (by omega)
  rw [show 3 * (l + 1) = 3 * l + 1 + 1 + 1 by omega, ← plc_succ, ← plc_succ, ← plc_succ, show 3 * l + 1 + 1 = 3 * l + 2 by omega, e0, e1, e2]
  simp [List.append_assoc]
def eiE (p q : Int) (xs : List Nat) (L i : Nat) : List Nat := bcL p q xs (eiA L i).1 (eiA L i).2
def eiL (p q : Int) (xs : List Nat) (L k : Nat) : List Nat := (List.range k).map fun i => enF (eiE p q xs L i)
theorem eiL_len (p q : Int) (xs : List Nat) (L k : Nat) : (eiL p q xs L k).length = k := by simp [eiL]
theorem eiL_next (p q : Int) (xs : List Nat) (L k : Nat) : eiL p q xs L (k + 1) = eiL p q xs L k ++ [enF (eiE p q xs L k)] := by simp [eiL, List.range_succ]
theorem eiL_get (p q : Int) (xs : List Nat) (L : Nat) {n i : Nat} (h : i < n) : (eiL p q xs L n)[i]'(by rw [eiL_len]; exact h) = enF (eiE p q xs L i) := by simp [eiL]
theorem eiL_fin {p q : Int} {xs : List Nat} {L n : Nat} (h : ∀ i, i < n → enO (eiE p q xs L i) = true) : finA (eiL p q xs L n) = true := decide_eq_true fun i hi => by
  rw [eiL_len] at hi
  rw [eiL_get p q xs L hi]; exact h i hi
theorem eiL_bad {p q : Int} {xs : List Nat} {L n i : Nat} (hi : i < n) (h : enO (eiE p q xs L i) = false) : finA (eiL p q xs L n) = false := by
  cases hf : finA (eiL p q xs L n) with
  | false => rfl
  | true =>
    have := finA_out hf i (by rw [eiL_len]; exact hi)
    rw [eiL_get p q xs L hi] at this
    unfold enO at h
    rw [h] at this; cases this
def eiB (p q : Int) (xs : List Nat) (lev : Int) : Bool := vpcB p q xs && lvB lev && finA (eiL p q xs lev.toNat (3 * lev.toNat + 1))
def eiR (p q : Int) (xs : List Nat) (lev : Int) : List Nat := if eiB p q xs lev then eiL p q xs lev.toNat (3 * lev.toNat + 1) else []
theorem eiR_len (p q : Int) (xs : List Nat) (lev : Int) : (eiR p q xs lev).length ≤ 1048576 := by
  unfold eiR
  cases h : eiB p q xs lev
  · exact Nat.zero_le _
  · simp only [if_true]
    rw [eiL_len]
    unfold eiB at h
    simp only [Bool.and_eq_true] at h
    have : 1 ≤ lev ∧ lev ≤ 4 := of_decide_eq_true h.1.2
    omega
def RetEi (L : List Nat) (b : Bool) (w : World) (e : Ending) (w' : World) : Prop :=
  ∃ v, e = .returned (.tuple #[v, .bool b]) ∧ Own w' w.heap.size v (fl L) ∧ Below w.heap.size w w'
theorem own_nilE (w : World) (lo : Nat) : Own w lo (.slice none 0 0) (fl []) := ⟨none, 0, rfl, Nat.le_refl _, Nat.zero_le _, fun h => absurd h (by simp [fl])⟩
theorem retEi_no {p q lev : Int} {xs : List Nat} {w w' : World} (h : eiB p q xs lev = false) (hb : Below w.heap.size w w') : RetEi (eiR p q xs lev) (eiB p q xs lev) w (.returned (.tuple #[.slice none 0 0, .bool false])) w' := by
  refine ⟨.slice none 0 0, by rw [h], ?_, hb⟩
  unfold eiR; rw [h]; exact own_nilE _ _
theorem retEi_fin {p q lev : Int} {xs cL : List Nat} {v : Value} {w w' : World} (h : eiB p q xs lev = true) (o : Own w' w.heap.size v (fl cL)) (i : IsLs cL (eiL p q xs lev.toNat (3 * lev.toNat + 1))) (hb : Below w.heap.size w w') : RetEi (eiR p q xs lev) (eiB p q xs lev) w (.returned (.tuple #[v, .bool true])) w' := by
  have hf : finA (eiL p q xs lev.toNat (3 * lev.toNat + 1)) = true := by unfold eiB at h; simp only [Bool.and_eq_true] at h; exact h.2
  obtain rfl := isLs_eq i hf
  refine ⟨v, by rw [h], ?_, hb⟩
  unfold eiR; rw [h]; exact o
end Go.Proofs.Ytfbdmhkmkmbipaa
