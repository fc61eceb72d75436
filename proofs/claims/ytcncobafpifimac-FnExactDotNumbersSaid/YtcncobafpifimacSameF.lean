/-
  The law's own comparison of floats: true wherever both are worth the same.
-/
import Derived.Test.YtcncobafpifimacChecked
import Derived.Test.YtcncobafpifimacFloMore
import Derived.Handy
import Derived.Lib.Hide
namespace Go.Proofs.Ytcncobafpifimac
open Go.RowKit Fl
set_option linter.unusedVariables false

set_option maxHeartbeats 800000 in
theorem same_any (a b : Nat) (w : World) (h : cn .f64 a = cn .f64 b) : Calls Try.prog 10 #[.float .f64 a, .float .f64 b] w fun e w' => e = .returned (.bool true) ∧ ∃ n, w' = w.drewN n := by
  have hab : isN .f64 a = isN .f64 b := by rw [← isN_cn .f64 a, h, isN_cn]
  cases hn : isN .f64 a with
  | true =>
    have ha : (FloatKind.f64.format.order a a != some .eq) = true := by rw [neq_self, hn]
    have hb : (FloatKind.f64.format.order b b != some .eq) = true := by rw [neq_self, ← hab, hn]
    clear h hab hn
    go_enter Try.func10, Try.ntmps10
    go_wp2
    go_ret
    exact ⟨rfl, 0, rfl⟩
  | false =>
    have hba : a = b := by
      rw [cn_of_not hn, cn_of_not (hab ▸ hn)] at h
      exact h
    subst hba
    have ha : (FloatKind.f64.format.order a a != some .eq) = false := by rw [neq_self, hn]
    have he : (FloatKind.f64.format.order a a == some .eq) = true := by rw [order_self, hn]; rfl
    clear h hab hn
    cases hz : FloatKind.f64.format.order a 0 == some .eq with
    | false =>
      go_enter Try.func10, Try.ntmps10
      go_wp2
      go_ret
      exact ⟨rfl, 0, rfl⟩
    | true =>
      go_enter Try.func10, Try.ntmps10
      go_wp2_with (refine up_ar rfl ?_; intro r n hr)
      go_ret
      refine ⟨?_, _, rfl⟩
      go_tidy
      rename_i r1 n1 hr1
      have e1 := order_is_l hr1 0
      have e2 := order_is_l hr 0
      have e3 : FloatKind.f64.format.order r1 0 = FloatKind.f64.format.order r 0 := by rw [e1, e2]
      show Ending.returned (.bool ((FloatKind.f64.format.order r1 0 == some .gt) == (FloatKind.f64.format.order r 0 == some .gt))) = _
      rw [e3]
      simp
theorem same_wi {x y : Nat} (a b : Nat) (w : World) (ha : Is .f64 a (wi x)) (hb : Is .f64 b (wi y)) (h : cn .f32 x = cn .f32 y) :
    Calls Try.prog 10 #[.float .f64 a, .float .f64 b] w fun e w' => e = .returned (.bool true) ∧ ∃ n, w' = w.drewN n :=
  same_any a b w (by rw [ha.1, hb.1, ← wi_cn x, h, wi_cn])
end Go.Proofs.Ytcncobafpifimac
