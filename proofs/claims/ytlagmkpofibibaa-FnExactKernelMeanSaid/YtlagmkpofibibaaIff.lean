/-
  Contracts: a number if it is finite; whether an integer lies in bounds.
-/
import Derived.Test.YtlagmkpofibibaaEn
import Derived.Test.YtlagmkpofibibaaIn
namespace Go.Proofs.Ytlagmkpofibibaa
open Go.RowKit Fl
set_option linter.unusedVariables false

theorem ifI_any (r c : Nat) (w : World) (hr : Is .f32 r c) : Calls Try.prog 60 #[.float .f32 r] w (RetFB (if finB .f32 c then c else 0) (finB .f32 c) w) := by
  have HF := Lib.hid (show finB .f32 r = finB .f32 c from fin_is hr)
  have HC := Lib.hid (fun w => implFin_any r w hr.2)
  cases hf : finB .f32 c with
  | true =>
    have HT := Lib.hid hf
    rw [if_pos rfl]
    clear hf
    go_enter Try.func60, Try.ntmps60
    go_wp2_with (go_at_call 57; refine (HC.out _).mono ?_; rintro e w' ⟨rfl, n, rfl⟩; rw [HF.out, HT.out])
    go_ret2
    exact ⟨_, _, rfl, hr, rfl⟩
  | false =>
    have HT := Lib.hid hf
    rw [if_neg (by simp)]
    clear hf
    go_enter Try.func60, Try.ntmps60
    go_wp2_with (go_at_call 57; refine (HC.out _).mono ?_; rintro e w' ⟨rfl, n, rfl⟩; rw [HF.out, HT.out])
    go_ret2
    exact ⟨_, _, rfl, is_lit (by decide), rfl⟩
theorem inS_any (n lo hi : Int) (w : World) : Calls Try.prog 61 #[.int .i64 n, .int .i64 lo, .int .i64 hi] w (RetBo (decide (lo ≤ n ∧ n ≤ hi)) w) := by
  by_cases h : lo ≤ n ∧ n ≤ hi
  · rw [decide_eq_true h]
    exact (in_yes n lo hi w h.1 h.2).mono fun e w' h => ⟨h.1, 0, h.2.symm⟩
  · rw [decide_eq_false h]
    exact (in_not n lo hi w (by omega)).mono fun e w' h => ⟨h.1, 0, h.2.symm⟩
def fnV (c : Nat) : Nat := if finB .f32 c then c else 0
end Go.Proofs.Ytlagmkpofibibaa
