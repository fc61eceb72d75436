/-
  Contracts: math.Abs, math.IsInf, the finite numbers of both sides, and the law's own sameFloat.
-/
import Derived.Test.YtcncobafpifimaaBasB
namespace Go.Proofs.Ytcncobafpifimaa
open Go.RowKit Fl

set_option linter.unusedVariables false
theorem row_bits64 (x : Nat) (w : World) : (callFunc 40 #[.float .f64 x]).run Try.prog w = .ok (.value (.int .u64 x)) w := by
  rw [run_callFunc_extern Try.func40 rfl rfl rfl rfl]; rfl
theorem row_from64 (n : Int) (w : World) : (callFunc 39 #[.int .u64 n]).run Try.prog w = .ok (.value (.float .f64 n.toNat)) w := by
  rw [run_callFunc_extern Try.func39 rfl rfl rfl rfl]; rfl

theorem abs_any (x : Nat) (w : World) (hx : x < 2 ^ 64) : Calls Try.prog 35 #[.float .f64 x] w fun e w' => e = .returned (.float .f64 (x % 2 ^ 63)) ∧ w = w' := by
  have h1 := row_bits64 x
  have h2 := row_from64
  go_enter Try.func35, Try.ntmps35
  go_wp2_with fail
  go_ret
  exact ⟨by rw [← abs_bits x hx]; rfl, rfl⟩

def infB (b : Nat) : Bool := match Ieee.double.read b with | .infinity _ => true | _ => false
theorem gt_max' (b : Nat) : (FloatKind.f64.format.order (b % 2 ^ 63) 9218868437227405311 == some .gt) = infB b := gt_max b
theorem isinf_any (x : Nat) (w : World) (hx : x < 2 ^ 64) : Calls Try.prog 38 #[.float .f64 x, .int .i64 0] w fun e w' => e = .returned (.bool (infB x)) ∧ w = w' := by
  have h := gt_max' x
  go_enter Try.func38, Try.ntmps38
  go_wp2_with (go_at_call 35; refine (abs_any _ _ hx).mono ?_; rintro e w' ⟨rfl, rfl⟩)
  go_ret
  exact ⟨rfl, rfl⟩

theorem fin_parts (x : Nat) : finB .f64 x = (!isN .f64 x && !infB x) := by
  unfold finB infB isN
  show (match Ieee.double.read x with | .number .. => true | _ => false) = (!(Ieee.double.read x).isNaN && _)
  cases Ieee.double.read x <;> rfl
theorem fin64_any (x : Nat) (w : World) (hx : x < 2 ^ 64) : Calls Try.prog 27 #[.float .f64 x] w fun e w' => e = .returned (.bool (finB .f64 x)) ∧ w = w' := by
  have hf := Lib.hid (fin_parts x)
  cases hn : isN .f64 x <;> cases hi : infB x
  all_goals
    have hN := Lib.hid hn
    have hI := Lib.hid hi
    clear hn hi
    go_enter Try.func27, Try.ntmps27
    go_wp2_with (first | (go_at_call 29; refine (isnan_any _ _).mono ?_; rintro e w' ⟨rfl, rfl⟩; rw [hN.out]) | (go_at_call 38; refine (isinf_any _ _ hx).mono ?_; rintro e w' ⟨rfl, rfl⟩; rw [hI.out]))
    go_ret
    rw [hf.out, hN.out, hI.out]
    exact ⟨rfl, rfl⟩

theorem fin_is {k : FloatKind} {r c : Nat} (h : Is k r c) : finB k r = finB k c := by rw [← h.1, finB_cn]
theorem implFin_any (x : Nat) (w : World) (hx : x < 2 ^ 32) : Calls Try.prog 13 #[.float .f32 x] w fun e w' => e = .returned (.bool (finB .f32 x)) ∧ ∃ n, w' = w.drewN n := by
  go_enter Try.func13, Try.ntmps13
  go_wp2_with (first | (refine up_wide (by rw [Try.underlying22]; rfl) Try.underlying29 ?_; intro r n hr) | (go_at_call 27; refine (fin64_any _ _ (And.right (by assumption))).mono ?_; rintro e w' ⟨rfl, rfl⟩; rw [fin_is (by assumption), finB_wi]))
  go_ret
  exact ⟨rfl, _, rfl⟩
theorem specFin_any (x : Nat) (w : World) (hx : x < 2 ^ 32) : Calls Try.prog 26 #[.float .f32 x] w fun e w' => e = .returned (.bool (finB .f32 x)) ∧ ∃ n, w' = w.drewN n := by
  go_enter Try.func26, Try.ntmps26
  go_wp2_with (refine up_ar rfl ?_; intro r n hr)
  go_ret
  refine ⟨?_, _, rfl⟩
  rw [← sub_self .f32 x, ← order_is_l hr]
  rfl
end Go.Proofs.Ytcncobafpifimaa
