/-
  Contracts: math.IsNaN, math.Abs, the law's own sameFloat; BitsOf; the two SameNumbers.
-/
import Derived.Test.YtcncobafpifimaaBasA
namespace Go.Proofs.Ytcncobafpifimaa
open Go.RowKit Fl

theorem grown_drewN {W w : World} (h : Grown W w) (n : Nat) : Grown W (w.drewN n) := h
theorem isN_of_is {k : FloatKind} {r c : Nat} (h : Is k r c) : isN k r = isN k c := by rw [← h.1, isN_cn]
theorem order_is_l {k : FloatKind} {r c : Nat} (h : Is k r c) (y : Nat) : k.format.order r y = k.format.order c y := by rw [← h.1, order_cn_l]
theorem order_is_r {k : FloatKind} {r c : Nat} (h : Is k r c) (y : Nat) : k.format.order y r = k.format.order y c := by rw [← h.1, order_cn_r]

theorem isnan_any (x : Nat) (w : World) : Calls Try.prog 29 #[.float .f64 x] w fun e w' => e = .returned (.bool (isN .f64 x)) ∧ w = w' := by
  have hs := neq_self .f64 x
  go_enter Try.func29, Try.ntmps29
  go_wp2
  go_ret
  exact ⟨rfl, rfl⟩

set_option maxHeartbeats 400000 in
theorem implBits_any (x : Nat) (w : World) (hx : x < 2 ^ 32) : Calls Try.prog 15 #[.float .f32 x] w fun e w' => e = .returned (.int .i64 (cn .f32 x)) ∧ ∃ n, w' = w.drewN n := by
  have hr := row_bits x
  cases hn : isN .f32 x with
  | true =>
    have hc := Lib.hid (cn_of_nan hn)
    have hN := Lib.hid hn
    clear hn
    go_enter Try.func15, Try.ntmps15
    go_wp2_with (first | (refine up_wide (by rw [Try.underlying22]; rfl) Try.underlying29 ?_; intro r n hr) | (go_at_call 29; refine (isnan_any _ _).mono ?_; rintro e w' ⟨rfl, rfl⟩; rw [isN_of_is (by assumption), isN_wi, hN.out]))
    go_ret
    rw [hc.out]
    exact ⟨rfl, _, rfl⟩
  | false =>
    have hc := Lib.hid (cn_of_not hn)
    have hN := Lib.hid hn
    clear hn
    go_enter Try.func15, Try.ntmps15
    go_wp2_with (first | (refine up_wide (by rw [Try.underlying22]; rfl) Try.underlying29 ?_; intro r n hr) | (go_at_call 29; refine (isnan_any _ _).mono ?_; rintro e w' ⟨rfl, rfl⟩; rw [isN_of_is (by assumption), isN_wi, hN.out]))
    go_ret
    rw [hc.out]
    exact ⟨rfl, _, rfl⟩
end Go.Proofs.Ytcncobafpifimaa
