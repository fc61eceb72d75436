/-
  Contracts: finite numbers of lists of 32-bit floats, of both sides.
-/
import Derived.Test.YtmokgmmjnfnbfaaEqG
namespace Go.Proofs.Ytmokgmmjnfnbfaa
open Go.RowKit Fl
set_option linter.unusedVariables false

def RetBo (b : Bool) (w : World) (e : Ending) (w' : World) : Prop := e = .returned (.bool b) ∧ ∃ n, w' = w.drewN n
def finA (xs : List Nat) : Bool := decide (∀ i (h : i < xs.length), finB .f32 xs[i] = true)
def FinTo (xs : List Nat) (k : Nat) : Prop := ∀ i (h : i < xs.length), i < k → finB .f32 xs[i] = true
theorem finA_yes {xs : List Nat} (h : FinTo xs xs.length) : finA xs = true := decide_eq_true fun i hi => h i hi hi
theorem finA_no {xs : List Nat} {k : Nat} (hk : k < xs.length) (h : finB .f32 xs[k] = false) : finA xs = false := decide_eq_false fun hh => by rw [hh k hk] at h; cases h
theorem finA_out {xs : List Nat} (h : finA xs = true) : ∀ i (hi : i < xs.length), finB .f32 xs[i] = true := of_decide_eq_true h
theorem finTo_succ {xs : List Nat} {k : Nat} (hk : k < xs.length) (h : FinTo xs k) (h1 : finB .f32 xs[k] = true) : FinTo xs (k + 1) := by
  intro i hi hlt
  by_cases he : i = k
  · subst he; exact h1
  · exact h i hi (by omega)
def FinRel (w : World) (xs : List Nat) (i : Value) (wr : World) : Prop := ∃ k m : Nat, k ≤ xs.length ∧ i = .int .i64 k ∧ FinTo xs k ∧ wr = w.drewN m
/-- These are a list of the document. -/
def isL (xs : List Nat) : Bool := decide (1 ≤ xs.length ∧ xs.length ≤ 128) && finA xs
theorem isL_short {xs : List Nat} (h : xs.length < 1 ∨ 128 < xs.length) : isL xs = false := by
  unfold isL; rw [decide_eq_false (by omega)]; rfl
theorem isL_mid {xs : List Nat} (h1 : 1 ≤ xs.length) (h2 : xs.length ≤ 128) : isL xs = finA xs := by
  unfold isL; rw [decide_eq_true ⟨h1, h2⟩]; rfl
theorem isL_len {xs : List Nat} (h : isL xs = true) : 1 ≤ xs.length ∧ xs.length ≤ 128 ∧ finA xs = true := by
  unfold isL at h
  rw [Bool.and_eq_true, decide_eq_true_eq] at h
  exact ⟨h.1.1, h.1.2, h.2⟩
def lenFB (n : Nat) : Bool := decide (1 ≤ n ∧ n ≤ 128)
end Go.Proofs.Ytmokgmmjnfnbfaa
