/-
  Contracts: RiceLong and BestRice of both sides.
-/
import Derived.Test.YtmokgmmjnfnbfaaRl
namespace Go.Proofs.Ytmokgmmjnfnbfaa
open Go.RowKit
set_option linter.unusedVariables false

def ridB (k : Int) : Bool := decide (0 ≤ k ∧ k ≤ 20)
theorem ridI_any (k : Int) (w : World) : Calls Try.prog 71 #[.int .i64 k] w fun e w' => e = .returned (.bool (ridB k)) ∧ w = w' := by
  by_cases h1 : 0 ≤ k
  · by_cases h2 : k ≤ 20
    · have HN := Lib.hid (show ridB k = true from decide_eq_true ⟨h1, h2⟩)
      have HD := Lib.hid (show decide (k ≤ 20) = true from decide_eq_true h2)
      clear h2
      go_enter Try.func71, Try.ntmps71
      go_wp2_with fail
      go_ret
      rw [HN.out]
      exact ⟨by rw [← HD.out]; rfl, rfl⟩
    · have HN := Lib.hid (show ridB k = false from decide_eq_false (by omega))
      have HD := Lib.hid (show decide (k ≤ 20) = false from decide_eq_false h2)
      clear h2
      go_enter Try.func71, Try.ntmps71
      go_wp2_with fail
      go_ret
      rw [HN.out]
      exact ⟨by rw [← HD.out]; rfl, rfl⟩
  · have HN := Lib.hid (show ridB k = false from decide_eq_false (by omega))
    have h3 : k < 0 := by omega
    clear h1
    go_enter Try.func71, Try.ntmps71
    go_wp2_with fail
    go_ret
    rw [HN.out]
    exact ⟨rfl, rfl⟩
theorem ridB_out {k : Int} (h : ridB k = true) : 0 ≤ k ∧ k ≤ 20 := of_decide_eq_true h
theorem inR_any (k : Int) (w : World) : Calls Try.prog 57 #[.int .i64 k, .int .i64 0, .int .i64 20] w fun e w' => e = .returned (.bool (ridB k)) ∧ w = w' := by
  cases h : ridB k with
  | true => exact in_yes k 0 20 w (ridB_out h).1 (ridB_out h).2
  | false => exact in_not k 0 20 w (by have := of_decide_eq_false h; omega)
def rlG (xs : List Int) (k : Int) : Bool := areB xs && ridB k
def rlV (xs : List Int) (k : Int) : Int := if rlG xs k then rlK xs k xs.length else 0
theorem rlG_out {xs : List Int} {k : Int} (h : rlG xs k = true) : areB xs = true ∧ ridB k = true := by unfold rlG at h; simpa using h
theorem rlV_yes {xs : List Int} {k : Int} (h : rlG xs k = true) : rlV xs k = rlK xs k xs.length := by unfold rlV; rw [if_pos h]
theorem rlV_no {xs : List Int} {k : Int} (h : rlG xs k = false) : rlV xs k = 0 := by unfold rlV; rw [if_neg (by rw [h]; simp)]
/-- The best number of digits among 0 .. m. -/
def brK (xs : List Int) : Nat → Int × Int
  | 0 => (0, rlK xs 0 xs.length)
  | m + 1 => if rlK xs (m + 1) xs.length < (brK xs m).2 then (m + 1, rlK xs (m + 1) xs.length) else brK xs m
theorem brK_succ (xs : List Int) (m : Nat) : brK xs (m + 1) = if rlK xs (m + 1) xs.length < (brK xs m).2 then (((m : Int) + 1), rlK xs (m + 1) xs.length) else brK xs m := rfl
theorem brK_fst (xs : List Int) (m : Nat) : 0 ≤ (brK xs m).1 ∧ (brK xs m).1 ≤ m := by
  induction m with
  | zero => simp [brK]
  | succ m ih => rw [brK_succ]; split <;> simp <;> omega
def brG (xs : List Int) : Bool := areB xs
def brV (xs : List Int) : Int × Int := if areB xs then brK xs 20 else (0, 0)
theorem retV_of {t : Value} {w : World} {e : Ending} {w' : World} (h : e = .returned t ∧ w = w') : RetV t w e w' := ⟨h.1, by rw [h.2]; exact Below.refl _ _⟩
end Go.Proofs.Ytmokgmmjnfnbfaa
