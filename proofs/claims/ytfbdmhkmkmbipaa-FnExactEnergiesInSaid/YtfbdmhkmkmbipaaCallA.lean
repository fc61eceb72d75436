/-
  Contracts: math.IsNaN, math.Abs, math.IsInf, the finite numbers of both sides, and the law's own sameFloat.
-/
import Derived.Test.YtfbdmhkmkmbipaaChecked
import Derived.Test.YtfbdmhkmkmbipaaFloMore
import Derived.Handy
import Derived.Lib.Hide
namespace Go.Proofs.Ytfbdmhkmkmbipaa
open Go.RowKit Fl
set_option linter.unusedVariables false

theorem isnan_any (x : Nat) (w : World) : Calls Try.prog 153 #[.float .f64 x] w fun e w' => e = .returned (.bool (isN .f64 x)) ∧ w = w' := by
  have hs := neq_self .f64 x
  go_enter Try.func153, Try.ntmps153
  go_wp2
  go_ret
  exact ⟨rfl, rfl⟩

theorem row_bits64 (x : Nat) (w : World) : (callFunc 152 #[.float .f64 x]).run Try.prog w = .ok (.value (.int .u64 x)) w := by
  rw [run_callFunc_extern Try.func152 rfl rfl rfl rfl]; rfl
theorem row_from64 (n : Int) (w : World) : (callFunc 151 #[.int .u64 n]).run Try.prog w = .ok (.value (.float .f64 n.toNat)) w := by
  rw [run_callFunc_extern Try.func151 rfl rfl rfl rfl]; rfl

theorem abs_any (x : Nat) (w : World) (hx : x < 2 ^ 64) : Calls Try.prog 137 #[.float .f64 x] w fun e w' => e = .returned (.float .f64 (x % 2 ^ 63)) ∧ w = w' := by
  have h1 := row_bits64 x
  have h2 := row_from64
  go_enter Try.func137, Try.ntmps137
  go_wp2_with fail
  go_ret
  exact ⟨by rw [← abs_bits x hx]; rfl, rfl⟩

theorem isinf_any (x : Nat) (w : World) (hx : x < 2 ^ 64) : Calls Try.prog 154 #[.float .f64 x, .int .i64 0] w fun e w' => e = .returned (.bool (infB x)) ∧ w = w' := by
  have h := gt_max' x
  go_enter Try.func154, Try.ntmps154
  go_wp2_with (go_at_call 137; refine (abs_any _ _ hx).mono ?_; rintro e w' ⟨rfl, rfl⟩)
  go_ret
  exact ⟨rfl, rfl⟩

theorem fin64_any (x : Nat) (w : World) (hx : x < 2 ^ 64) : Calls Try.prog 140 #[.float .f64 x] w fun e w' => e = .returned (.bool (finB .f64 x)) ∧ w = w' := by
  have hf := Lib.hid (fin_parts x)
  cases hn : isN .f64 x <;> cases hi : infB x
  all_goals
    have hN := Lib.hid hn
    have hI := Lib.hid hi
    clear hn hi
    go_enter Try.func140, Try.ntmps140
    go_wp2_with (first | (go_at_call 153; refine (isnan_any _ _).mono ?_; rintro e w' ⟨rfl, rfl⟩; rw [hN.out]) | (go_at_call 154; refine (isinf_any _ _ hx).mono ?_; rintro e w' ⟨rfl, rfl⟩; rw [hI.out]))
    go_ret
    rw [hf.out, hN.out, hI.out]
    exact ⟨rfl, rfl⟩

set_option maxRecDepth 100000 in
theorem implFin_any (x : Nat) (w : World) (hx : x < 2 ^ 32) : Calls Try.prog 118 #[.float .f32 x] w fun e w' => e = .returned (.bool (finB .f32 x)) ∧ ∃ n, w' = w.drewN n := by
  go_enter Try.func118, Try.ntmps118
  go_wp2_with (first | (refine up_wide (by rw [Try.underlying23]; rfl) Try.underlying72 ?_; intro r n hr) | (go_at_call 140; refine (fin64_any _ _ (And.right (by assumption))).mono ?_; rintro e w' ⟨rfl, rfl⟩; rw [fin_is (by assumption), finB_wi]))
  go_ret
  exact ⟨rfl, _, rfl⟩
theorem specFin_any (x : Nat) (w : World) (hx : x < 2 ^ 32) : Calls Try.prog 122 #[.float .f32 x] w fun e w' => e = .returned (.bool (finB .f32 x)) ∧ ∃ n, w' = w.drewN n := by
  go_enter Try.func122, Try.ntmps122
  go_wp2_with (refine up_ar rfl ?_; intro r n hr)
  go_ret
  refine ⟨?_, _, rfl⟩
  rw [← sub_self .f32 x, ← order_is_l hr]
  rfl
set_option maxHeartbeats 800000 in
theorem same_any (a b : Nat) (w : World) (h : cn .f64 a = cn .f64 b) : Calls Try.prog 55 #[.float .f64 a, .float .f64 b] w fun e w' => e = .returned (.bool true) ∧ ∃ n, w' = w.drewN n := by
  have hab : isN .f64 a = isN .f64 b := by rw [← isN_cn .f64 a, h, isN_cn]
  cases hn : isN .f64 a with
  | true =>
    have ha : (FloatKind.f64.format.order a a != some .eq) = true := by rw [neq_self, hn]
    have hb : (FloatKind.f64.format.order b b != some .eq) = true := by rw [neq_self, ← hab, hn]
    clear h hab hn
    go_enter Try.func55, Try.ntmps55
    go_wp2
    go_ret
    exact ⟨rfl, 0, rfl⟩
  | false =>
    have hba : a = b := by
      rw [cn_of_not hn, cn_of_not (hab ▸ hn)] at h
      exact h
    subst hba
    have ha : (FloatKind.f64.format.order a a != some .eq) = false := by rw [neq_self, hn]
    have he : (FloatKind.f64.format.order a a == some .eq) = true := by rw [order_self, hn]; rfl
    clear h hab hn
    cases hz : FloatKind.f64.format.order a 0 == some .eq with
    | false =>
      go_enter Try.func55, Try.ntmps55
      go_wp2
      go_ret
      exact ⟨rfl, 0, rfl⟩
    | true =>
      go_enter Try.func55, Try.ntmps55
      go_wp2_with (refine up_ar rfl ?_; intro r n hr)
      go_ret
      refine ⟨?_, _, rfl⟩
      go_tidy
      rename_i r1 n1 hr1
      have e1 := order_is_l hr1 0
      have e2 := order_is_l hr 0
      have e3 : FloatKind.f64.format.order r1 0 = FloatKind.f64.format.order r 0 := by rw [e1, e2]
      show Ending.returned (.bool ((FloatKind.f64.format.order r1 0 == some .gt) == (FloatKind.f64.format.order r 0 == some .gt))) = _
      rw [e3]
      simp
theorem same_wi {x y : Nat} (a b : Nat) (w : World) (ha : Is .f64 a (wi x)) (hb : Is .f64 b (wi y)) (h : cn .f32 x = cn .f32 y) :
    Calls Try.prog 55 #[.float .f64 a, .float .f64 b] w fun e w' => e = .returned (.bool true) ∧ ∃ n, w' = w.drewN n :=
  same_any a b w (by rw [ha.1, hb.1, ← wi_cn x, h, wi_cn])
end Go.Proofs.Ytfbdmhkmkmbipaa
