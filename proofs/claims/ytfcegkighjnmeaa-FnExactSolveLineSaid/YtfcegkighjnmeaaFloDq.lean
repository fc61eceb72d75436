/-
  A line that is solved at once, as plain functions: what divides, and what is divided (no program in it).
-/
import Derived.Test.YtfcegkighjnmeaaFloHf
namespace Go.Proofs.Ytfcegkighjnmeaa.Fl
open Ieee
set_option linter.unusedVariables false
/-- 2, and 2 and the quotient of -1 and the one before. -/
def dD : Nat → Nat
  | 0 => 1073741824
  | i + 1 => ar .add .f32 1073741824 (ar .quo .f32 3212836864 (dD i))
def mM (i : Nat) : Nat := ar .quo .f32 3212836864 (dD i)
theorem dD_succ (i : Nat) : dD (i + 1) = ar .add .f32 1073741824 (mM i) := rfl
theorem dq_all : ∀ i : Fin 64, (!isN .f32 (dD i.val) && !isN .f32 (mM i.val)) = true := by decide +kernel
theorem dD_not {i : Nat} (h : i < 64) : isN .f32 (dD i) = false := by
  have := dq_all ⟨i, h⟩
  simp only [Bool.and_eq_true, Bool.not_eq_true'] at this
  exact this.1
theorem mM_not {i : Nat} (h : i < 64) : isN .f32 (mM i) = false := by
  have := dq_all ⟨i, h⟩
  simp only [Bool.and_eq_true, Bool.not_eq_true'] at this
  exact this.2
theorem dD_is {i : Nat} (h : i < 64) : Is .f32 (dD i) (dD i) := ⟨cn_of_not (dD_not h), by cases i with
  | zero => decide
  | succ i => exact ar_ltS _ _ _⟩
def gG (fs : List Nat) (s : Nat) : Nat → Nat
  | 0 => ar .mul .f32 (ar .mul .f32 s s) (fs.getD 0 0)
  | i + 1 => ar .sub .f32 (ar .mul .f32 (ar .mul .f32 s s) (fs.getD (i + 1) 0)) (ar .mul .f32 (mM i) (gG fs s i))
/-- From the last number on. -/
def bB (fs : List Nat) (s n : Nat) : Nat → Nat
  | 0 => ar .quo .f32 (gG fs s (n - 1)) (dD (n - 1))
  | j + 1 => ar .quo .f32 (ar .add .f32 (gG fs s (n - 2 - j)) (bB fs s n j)) (dD (n - 2 - j))
def dP (k : Nat) : List Nat := (List.range k).map dD
def gP (fs : List Nat) (s k : Nat) : List Nat := (List.range k).map (gG fs s)
theorem dP_succ (k : Nat) : dP (k + 1) = dP k ++ [dD k] := by simp [dP, List.range_succ]
theorem gP_succ (fs : List Nat) (s k : Nat) : gP fs s (k + 1) = gP fs s k ++ [gG fs s k] := by simp [gP, List.range_succ]
theorem dP_len (k : Nat) : (dP k).length = k := by simp [dP]
theorem gP_len (fs : List Nat) (s k : Nat) : (gP fs s k).length = k := by simp [gP]
def uK (fs : List Nat) (s j : Nat) : List Nat := (List.range fs.length).map fun t => if fs.length ≤ t + j then bB fs s fs.length (fs.length - 1 - t) else 0
def soF (fs : List Nat) (s : Nat) : List Nat := (List.range fs.length).map fun t => bB fs s fs.length (fs.length - 1 - t)
theorem uK_len (fs : List Nat) (s j : Nat) : (uK fs s j).length = fs.length := by simp [uK]
theorem soF_len (fs : List Nat) (s : Nat) : (soF fs s).length = fs.length := by simp [soF]
end Go.Proofs.Ytfcegkighjnmeaa.Fl
