/-
  Contracts of small functions on bits.
-/
import Derived.Test.YtcncobafpifimaaChecked
import Derived.Test.YtcncobafpifimaaFlo
import Derived.Handy
import Derived.Lib.Hide
namespace Go.Proofs.Ytcncobafpifimaa
open Go.RowKit Fl

theorem neq_self (k : FloatKind) (x : Nat) : (k.format.order x x != some .eq) = isN k x := by
  rw [order_self]; cases isN k x <;> rfl

theorem row_bits (x : Nat) (w : World) : (callFunc 30 #[.float .f32 x]).run Try.prog w = .ok (.value (.int .u32 x)) w := by
  rw [run_callFunc_extern Try.func30 rfl rfl rfl rfl]; rfl
set_option maxHeartbeats 400000 in
theorem bits_any (x : Nat) (w : World) (hx : x < 2 ^ 32) : Calls Try.prog 28 #[.float .f32 x] w fun e w' => e = .returned (.int .i64 (cn .f32 x)) ∧ w = w' := by
  have hr := row_bits x
  have hs := neq_self .f32 x
  cases hn : isN .f32 x with
  | true =>
    rw [hn] at hs
    have hc := Lib.hid (cn_of_nan hn)
    clear hn
    go_enter Try.func28, Try.ntmps28
    go_wp2
    go_ret
    rw [hc.out]
    exact ⟨rfl, rfl⟩
  | false =>
    rw [hn] at hs
    have hc := Lib.hid (cn_of_not hn)
    clear hn
    go_enter Try.func28, Try.ntmps28
    go_wp2
    go_ret
    rw [hc.out]
    exact ⟨rfl, rfl⟩
end Go.Proofs.Ytcncobafpifimaa
