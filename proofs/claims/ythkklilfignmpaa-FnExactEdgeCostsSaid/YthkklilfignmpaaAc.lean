/-
  Contracts: what a block of costs is, by both sides.
-/
import Derived.Test.YthkklilfignmpaaCst
import Derived.Test.YthkklilfignmpaaAbs
namespace Go.Proofs.Ythkklilfignmpaa
open Go.RowKit Fl
set_option linter.unusedVariables false

def acOk (xs : List (Int × Nat)) (k : Nat) : Bool :=
  decide (0 ≤ (xs.getD k (0, 0)).1 ∧ (xs.getD k (0, 0)).1 ≤ 512) && lsB (xs.getD k (0, 0)).2 && (decide (k = 0) || (decide ((xs.getD (k - 1) (0, 0)).1 < (xs.getD k (0, 0)).1) && !geB' (xs.getD k (0, 0)).2 (xs.getD (k - 1) (0, 0)).2))
def acB (xs : List (Int × Nat)) : Bool := decide (1 ≤ xs.length ∧ xs.length ≤ 16) && (List.range xs.length).all (acOk xs)
theorem acB_no {xs : List (Int × Nat)} {k : Nat} (hk : k < xs.length) (h : acOk xs k = false) : acB xs = false := by
  unfold acB
  rw [Bool.and_eq_false_iff]
  refine .inr (List.all_eq_false.2 ⟨k, List.mem_range.2 hk, by rw [h]; simp⟩)
theorem acB_yes {xs : List (Int × Nat)} (h1 : 1 ≤ xs.length) (h2 : xs.length ≤ 16) (h : ∀ i, i < xs.length → acOk xs i = true) : acB xs = true := by
  unfold acB
  rw [decide_eq_true ⟨h1, h2⟩, Bool.true_and, List.all_eq_true]
  exact fun i hi => h i (List.mem_range.1 hi)
theorem inC_any (n lo hi : Int) (w : World) : Calls Try.prog 131 #[.int .i64 n, .int .i64 lo, .int .i64 hi] w fun e w' => e = .returned (.bool (decide (lo ≤ n ∧ n ≤ hi))) ∧ w = w' := by
  by_cases h0 : lo ≤ n
  · by_cases h1 : n ≤ hi
    · rw [decide_eq_true ⟨h0, h1⟩]
      go_enter Try.func131, Try.ntmps131
      go_wp2_with fail
      go_ret
      exact ⟨rfl, rfl⟩
    · rw [decide_eq_false (fun h => h1 h.2)]
      go_enter Try.func131, Try.ntmps131
      go_wp2_with fail
      go_ret
      exact ⟨rfl, rfl⟩
  · rw [decide_eq_false (fun h => h0 h.1)]
    go_enter Try.func131, Try.ntmps131
    go_wp2_with fail
    go_ret
    exact ⟨rfl, rfl⟩
def AcR (w0 : World) (xs : List (Int × Nat)) (iv : Value) (wr : World) : Prop := ∃ k : Nat, k ≤ xs.length ∧ iv = .int .i64 k ∧ (∀ i, i < k → acOk xs i = true) ∧ Below w0.heap.size w0 wr
end Go.Proofs.Ythkklilfignmpaa
