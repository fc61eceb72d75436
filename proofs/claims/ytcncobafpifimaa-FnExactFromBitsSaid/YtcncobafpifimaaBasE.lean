/-
  Contracts: FromBits, IsSubnormal and FlushNumber of both sides.
-/
import Derived.Test.YtcncobafpifimaaBasC
import Derived.Test.YtcncobafpifimaaFloSub
namespace Go.Proofs.Ytcncobafpifimaa
open Go.RowKit Fl
set_option linter.unusedVariables false

theorem row_from (n : Int) (w : World) : (callFunc 33 #[.int .u32 n]).run Try.prog w = .ok (.value (.float .f32 n.toNat)) w := by
  rw [run_callFunc_extern Try.func33 rfl rfl rfl rfl]; rfl
theorem l01From_any (n : Int) (w : World) (h0 : 0 ≤ n) (h1 : n ≤ 4294967295) : Calls Try.prog 32 #[.int .i64 n] w fun e w' => e = .returned (.float .f32 n.toNat) ∧ w = w' := by
  have h := row_from
  go_enter Try.func32, Try.ntmps32
  go_wp2_with fail
  go_ret
  exact ⟨rfl, rfl⟩

theorem sub_cn (x : Nat) (hx : x < 2 ^ 32) : (bits .and .i64 ((cn .f32 x : Nat) : Int) 2139095040 == 0) = subB x := by
  have hb : cn .f32 x < 2 ^ 32 := by
    unfold cn; split
    · decide
    · exact hx
  have hB : (2 : Nat) ^ 63 = 9223372036854775808 := by decide
  have hC : (2 : Nat) ^ 32 = 4294967296 := by decide
  have h := i64_and_nat (cn .f32 x) 2139095040 (by omega) (by decide)
  have h' : bits .and .i64 ((cn .f32 x : Nat) : Int) 2139095040 = ((cn .f32 x &&& 2139095040 : Nat) : Int) := h
  rw [h']
  unfold subB
  have hm := expmask (cn .f32 x) hb
  cases hn : isN .f32 x with
  | true =>
    have h1 := nan_not_sub x hn
    have h2 : ¬ cn .f32 x % 2 ^ 31 < 2 ^ 23 := by rw [cn_of_nan hn]; decide
    rw [decide_eq_false h1]
    have : ¬ (cn .f32 x &&& 2139095040 = 0) := fun h => h2 (hm.1 h)
    simp only [beq_eq_false_iff_ne, ne_eq]
    omega
  | false =>
    rw [cn_of_not hn] at hm ⊢
    by_cases h1 : x % 2 ^ 31 < 2 ^ 23
    · rw [decide_eq_true h1, hm.2 h1]; rfl
    · rw [decide_eq_false h1]
      have : ¬ (x &&& 2139095040 = 0) := fun h => h1 (hm.1 h)
      simp only [beq_eq_false_iff_ne, ne_eq]
      omega

def isSub (x : Nat) : Bool := !decide (x % 2 ^ 31 = 0) && subB x
theorem neq_zero (x : Nat) : (FloatKind.f32.format.order x 0 != some .eq) = !decide (x % 2 ^ 31 = 0) := by
  have h : (FloatKind.f32.format.order x 0 == some .eq) = decide (x % 2 ^ 31 = 0) := zero_rung x
  rw [← h]; rfl

theorem specSub_any (x : Nat) (w : World) (hx : x < 2 ^ 32) : Calls Try.prog 21 #[.float .f32 x] w fun e w' => e = .returned (.bool (isSub x)) ∧ w = w' := by
  have h1 := neq_zero x
  have h2 := Lib.hid (sub_cn x hx)
  unfold isSub
  cases hz : decide (x % 2 ^ 31 = 0)
  all_goals
    rw [hz] at h1
    clear hz
    go_enter Try.func21, Try.ntmps21
    go_wp2_with (go_at_call 28; refine (bits_any _ _ hx).mono ?_; rintro e w' ⟨rfl, rfl⟩)
    go_ret
    try rw [← h2.out]
    exact ⟨rfl, rfl⟩
theorem below' (x r : Nat) (hr : Is .f64 r (wi x)) : (FloatKind.f64.format.order (r % 2 ^ 63) 4039728865751334912 == some .lt) = subB x := by
  by_cases hn : isN .f64 r
  · have h1 : isN .f32 x = true := by rw [← isN_wi, ← hr.1, isN_cn]; exact hn
    rw [order_nan_l (by rw [isN_mod]; exact hn)]
    unfold subB
    rw [decide_eq_false (nan_not_sub x h1)]; rfl
  · have : r = wi x := by rw [← hr.1, cn_of_not (by simpa using hn)]
    exact below_least x r this
theorem implSub_any (x : Nat) (w : World) (hx : x < 2 ^ 32) : Calls Try.prog 22 #[.float .f32 x] w fun e w' => e = .returned (.bool (isSub x)) ∧ ∃ n, w' = w.drewN n := by
  have h1 := neq_zero x
  unfold isSub
  cases hz : decide (x % 2 ^ 31 = 0)
  all_goals
    rw [hz] at h1
    clear hz
    go_enter Try.func22, Try.ntmps22
    go_wp2_with (first | (refine up_wide (by rw [Try.underlying22]; rfl) Try.underlying29 ?_; intro r n hr) | (go_at_call 35; refine (abs_any _ _ (And.right (by assumption))).mono ?_; rintro e w' ⟨rfl, rfl⟩))
    go_ret
    first
      | exact ⟨rfl, _, rfl⟩
      | (rw [← below' x _ (by assumption)]; exact ⟨rfl, _, rfl⟩)
      | exact ⟨rfl, 0, rfl⟩
end Go.Proofs.Ytcncobafpifimaa
