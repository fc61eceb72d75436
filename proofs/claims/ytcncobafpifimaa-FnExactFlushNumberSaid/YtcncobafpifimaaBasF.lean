/-
  Contracts: FlushNumber of both sides.
-/
import Derived.Test.YtcncobafpifimaaBasE
namespace Go.Proofs.Ytcncobafpifimaa
open Go.RowKit Fl
set_option linter.unusedVariables false

/-- A number, but a zero of its sign if the exponent's field is 0. -/
def flush (x : Nat) : Nat := if subB x then x / 2 ^ 31 * 2 ^ 31 else x
theorem mask_sign (x : Nat) (hx : x < 2 ^ 32) (hs : subB x = true) : bits .and .i64 ((cn .f32 x : Nat) : Int) 2147483648 = ((x / 2 ^ 31 * 2 ^ 31 : Nat) : Int) := by
  have hn : isN .f32 x = false := by
    cases h : isN .f32 x with
    | true => exact absurd (of_decide_eq_true hs) (nan_not_sub x h)
    | false => rfl
  rw [cn_of_not hn]
  have hB : (2 : Nat) ^ 63 = 9223372036854775808 := by decide
  have hC : (2 : Nat) ^ 32 = 4294967296 := by decide
  have h : bits .and .i64 (x : Int) 2147483648 = ((x &&& 2147483648 : Nat) : Int) := i64_and_nat x 2147483648 (by omega) (by decide)
  rw [h, signmask x hx]
theorem specFlush_any (x : Nat) (w : World) (hx : x < 2 ^ 32) : Calls Try.prog 36 #[.float .f32 x] w fun e w' => e = .returned (.float .f32 (flush x)) ∧ w = w' := by
  have hsc := sub_cn x hx
  unfold flush
  cases hs : subB x with
  | true =>
    rw [hs] at hsc
    have hm := mask_sign x hx hs
    clear hs
    have hq : x / 2 ^ 31 * 2 ^ 31 < 4294967296 := by omega
    show Calls _ _ _ _ fun e w' => e = .returned (.float .f32 (x / 2 ^ 31 * 2 ^ 31)) ∧ w = w'
    generalize x / 2 ^ 31 * 2 ^ 31 = v at hm hq ⊢
    go_enter Try.func36, Try.ntmps36
    go_wp2_with (first | (go_at_call 28; refine (bits_any _ _ hx).mono ?_; rintro e w' ⟨rfl, rfl⟩) | (go_at_call 32; refine (l01From_any _ _ (by omega) (by omega)).mono ?_; rintro e w' ⟨rfl, rfl⟩))
    go_ret
    exact ⟨rfl, rfl⟩
  | false =>
    rw [hs] at hsc
    clear hs
    go_enter Try.func36, Try.ntmps36
    go_wp2_with (go_at_call 28; refine (bits_any _ _ hx).mono ?_; rintro e w' ⟨rfl, rfl⟩)
    go_ret
    exact ⟨rfl, rfl⟩
theorem copysign_any (r : Nat) (w : World) (hr : r < 2 ^ 64) : Calls Try.prog 37 #[.float .f64 0, .float .f64 r] w fun e w' => e = .returned (.float .f64 (r / 2 ^ 63 * 2 ^ 63)) ∧ w = w' := by
  have h0 := row_bits64 0
  have h1 := row_bits64 r
  have h2 := row_from64
  go_enter Try.func37, Try.ntmps37
  go_wp2_with fail
  go_ret
  exact ⟨by rw [← copysign_bits r hr]; rfl, rfl⟩
theorem not_isSub (x : Nat) (hx : x < 2 ^ 32) (h : isSub x = false) : flush x = x := by
  unfold isSub at h
  unfold flush
  cases hs : subB x with
  | false => rfl
  | true =>
    rw [hs, Bool.and_true] at h
    have hz : x % 2 ^ 31 = 0 := by simpa using h
    show x / 2 ^ 31 * 2 ^ 31 = x
    omega
theorem implFlush_any (x : Nat) (w : World) (hx : x < 2 ^ 32) : Calls Try.prog 24 #[.float .f32 x] w fun e w' => ∃ r, e = .returned (.float .f32 r) ∧ cn .f32 r = cn .f32 (flush x) ∧ ∃ n, w' = w.drewN n := by
  cases hs : isSub x with
  | true =>
    have hS := Lib.hid hs
    have hsub : subB x = true := by unfold isSub at hs; cases h : subB x <;> simp_all
    have hx1 : x % 2 ^ 31 < 2 ^ 23 := of_decide_eq_true hsub
    have hfl : flush x = x / 2 ^ 31 * 2 ^ 31 := by unfold flush; rw [hsub]; rfl
    have hF := Lib.hid hfl
    have hq : x / 2 ^ 31 < 2 := by omega
    have hnn : isN .f64 (wi x) = false := by
      rw [isN_wi]
      cases h : isN .f32 x with
      | true => exact absurd hx1 (nan_not_sub x h)
      | false => rfl
    have hkey : ∀ r, Is .f64 r (wi x) → r / 2 ^ 63 * 2 ^ 63 = x / 2 ^ 31 * 2 ^ 63 := by
      intro r hr
      have hrn : isN .f64 r = false := by rw [← isN_cn, hr.1]; exact hnn
      have he : r = wi x := by rw [← hr.1, cn_of_not hrn]
      have hlt : wi x < 2 ^ 64 := he ▸ hr.2
      rw [he, sign_wi x hx1 hx hlt]
    have hK := Lib.hid hkey
    have hz := na_zeros _ hq
    clear hs hsub hfl hnn hkey
    go_enter Try.func24, Try.ntmps24
    go_wp2_with (first
      | (go_at_call 22; refine (implSub_any _ _ hx).mono ?_; rintro e w' ⟨rfl, n, rfl⟩; rw [hS.out])
      | (refine up_wide (by rw [Try.underlying22]; rfl) Try.underlying29 ?_; intro r n hr)
      | (go_at_call 37; refine (copysign_any _ _ (And.right (by assumption))).mono ?_; rintro e w' ⟨rfl, rfl⟩; rw [hK.out _ (by assumption)])
      | (refine up_narrow (by rw [Try.underlying29]; rfl) Try.underlying22 hz.1 ?_; intro r n hr2))
    go_ret
    refine ⟨_, rfl, ?_, _, rfl⟩
    rw [hr2.1, hz.2, hF.out]
    rcases (show x / 2 ^ 31 = 0 ∨ x / 2 ^ 31 = 1 by omega) with h | h <;> rw [h] <;> decide
  | false =>
    have hS := Lib.hid hs
    have hF := Lib.hid (not_isSub x hx hs)
    clear hs
    go_enter Try.func24, Try.ntmps24
    go_wp2_with (go_at_call 22; refine (implSub_any _ _ hx).mono ?_; rintro e w' ⟨rfl, n, rfl⟩; rw [hS.out])
    go_ret
    exact ⟨_, rfl, by rw [hF.out], _, rfl⟩
end Go.Proofs.Ytcncobafpifimaa
