/-
  Contracts: lists of integers within bounds, of both sides.
-/
import Derived.Test.YtfbdmhkmkmbipaaLi
import Derived.Test.YtfbdmhkmkmbipaaIn
namespace Go.Proofs.Ytfbdmhkmkmbipaa
open Go.RowKit
set_option linter.unusedVariables false

def withB (m : Int) (xs : List Int) : Bool := decide (∀ i (h : i < xs.length), -m ≤ xs[i] ∧ xs[i] ≤ m)
def WithTo (m : Int) (xs : List Int) (k : Nat) : Prop := ∀ i (h : i < xs.length), i < k → -m ≤ xs[i] ∧ xs[i] ≤ m
theorem withB_yes {m : Int} {xs : List Int} (h : WithTo m xs xs.length) : withB m xs = true := decide_eq_true fun i hi => h i hi hi
theorem withB_no {m : Int} {xs : List Int} {k : Nat} (hk : k < xs.length) (h : xs[k] < -m ∨ m < xs[k]) : withB m xs = false := decide_eq_false fun hh => by have := hh k hk; omega
theorem withTo_succ {m : Int} {xs : List Int} {k : Nat} (hk : k < xs.length) (h : WithTo m xs k) (h1 : -m ≤ xs[k]) (h2 : xs[k] ≤ m) : WithTo m xs (k + 1) := by
  intro i hi hlt
  by_cases he : i = k
  · subst he; exact ⟨h1, h2⟩
  · exact h i hi (by omega)
theorem withB_out {m : Int} {xs : List Int} (h : withB m xs = true) : ∀ i (hi : i < xs.length), -m ≤ xs[i] ∧ xs[i] ≤ m := of_decide_eq_true h

/-- These are integers of the document. -/
def areB (xs : List Int) : Bool := decide (1 ≤ xs.length ∧ xs.length ≤ 128) && withB 1000000 xs
theorem areB_short {xs : List Int} (h : xs.length < 1 ∨ 128 < xs.length) : areB xs = false := by
  unfold areB; rw [decide_eq_false (by omega)]; rfl
theorem areB_mid {xs : List Int} (h1 : 1 ≤ xs.length) (h2 : xs.length ≤ 128) : areB xs = withB 1000000 xs := by
  unfold areB; rw [decide_eq_true ⟨h1, h2⟩]; rfl
theorem areB_len {xs : List Int} (h : areB xs = true) : 1 ≤ xs.length ∧ xs.length ≤ 128 ∧ withB 1000000 xs = true := by
  unfold areB at h
  rw [Bool.and_eq_true, decide_eq_true_eq] at h
  exact ⟨h.1.1, h.1.2, h.2⟩
def lenB (n : Nat) : Bool := decide (1 ≤ n ∧ n ≤ 128)
end Go.Proofs.Ytfbdmhkmkmbipaa
