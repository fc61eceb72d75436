/-
  Subnormal numbers, signs, masks (no program in it).
-/
import Derived.Test.YtpckljkhmaghmaaFlo
namespace Go.Proofs.Ytpckljkhmaghmaa.Fl
open Ieee
theorem wraps_i64 (n : Int) (h₀ : 0 ≤ n) (h₁ : n < 2 ^ 63) : IntKind.i64.wrap n = n := by
  have : (2 : Int) ^ 63 = 9223372036854775808 := by decide
  rw [IntKind.wrap_i64]; omega
theorem i64_and_nat (a b : Nat) (ha : a < 2 ^ 63) (hb : b < 2 ^ 63) : bits .and .i64 (a : Int) (b : Int) = ((a &&& b : Nat) : Int) :=
  (bits_nat .i64 63 (by decide) wraps_i64 a b ha hb).1
theorem expmask (r : Nat) (_hr : r < 2 ^ 32) : (r &&& 2139095040 = 0) ↔ r % 2 ^ 31 < 2 ^ 23 := by
  have h : r &&& 2139095040 = ((r / 2 ^ 23) % 2 ^ 8) * 2 ^ 23 := by
    have e : (2139095040 : Nat) = (2 ^ 8 - 1) <<< 23 := by decide
    apply Nat.eq_of_testBit_eq
    intro i
    rw [Nat.testBit_and, e, Nat.testBit_shiftLeft, Nat.testBit_two_pow_sub_one, ← Nat.shiftLeft_eq, Nat.testBit_shiftLeft, Nat.testBit_mod_two_pow, Nat.testBit_div_two_pow]
    by_cases h1 : i ≥ 23
    · have : 23 + (i - 23) = i := by omega
      simp [h1]
      rw [Bool.and_comm]
      try rw [this]
    · simp [h1]
  rw [h]
  omega
theorem signmask (r : Nat) (hr : r < 2 ^ 32) : r &&& 2147483648 = r / 2 ^ 31 * 2 ^ 31 := by
  have e : (2147483648 : Nat) = (2 ^ 1 - 1) <<< 31 := by decide
  have h : r &&& 2147483648 = ((r / 2 ^ 31) % 2 ^ 1) * 2 ^ 31 := by
    apply Nat.eq_of_testBit_eq
    intro i
    rw [Nat.testBit_and, e, Nat.testBit_shiftLeft, Nat.testBit_two_pow_sub_one, ← Nat.shiftLeft_eq, Nat.testBit_shiftLeft, Nat.testBit_mod_two_pow, Nat.testBit_div_two_pow]
    by_cases h1 : i ≥ 31
    · have : 31 + (i - 31) = i := by omega
      simp [h1]
      rw [Bool.and_comm]
      try rw [this]
    · simp [h1]
  rw [h]
  omega
/-- Subnormal or a zero: the exponent's field is 0. -/
def subB (r : Nat) : Bool := decide (r % 2 ^ 31 < 2 ^ 23)

theorem read_sub (r : Nat) (h : r % 2 ^ 31 < 2 ^ 23) : single.read r = .number (r / 2 ^ 31 % 2 == 1) (r % 2 ^ 31) (-149) := by
  unfold Format.read
  rw [sgl_sw, sgl_bi, sgl_lp]
  simp only []
  rw [if_pos h]
theorem nan_not_sub (r : Nat) (h : isN .f32 r = true) : ¬ r % 2 ^ 31 < 2 ^ 23 := by
  intro hs
  unfold isN at h
  have e : FloatKind.f32.format.read r = _ := read_sub r hs
  rw [e] at h
  cases h
theorem zero_rung (x : Nat) : (single.order x 0 == some .eq) = decide (x % 2 ^ 31 = 0) := by
  have h0 : single.read 0 = .number false 0 (-149) := by decide
  unfold Format.order
  rw [h0]
  by_cases hs : x % 2 ^ 31 < 2 ^ 23
  · rw [read_sub x hs, order_base _ _ _ _ _ _ (-149) (by omega) (by omega)]
    have e0 : ((-149 : Int) - -149).toNat = 0 := by decide
    rw [e0]
    generalize x % 2 ^ 31 = m
    cases hm : decide (m = 0) with
    | true => rw [of_decide_eq_true hm]; cases (x / 2 ^ 31 % 2 == 1) <;> rfl
    | false =>
      have hne := of_decide_eq_false hm
      unfold signed
      simp only [Nat.shiftLeft_zero]
      generalize (x / 2 ^ 31 % 2 == 1) = s
      cases s <;> simp only [compare, compareOfLessAndEq] <;> simp <;> (try split) <;> simp <;> omega
  · have hne : decide (x % 2 ^ 31 = 0) = false := by simp; omega
    rw [hne]
    rcases read_single x with ⟨s, m, e, hr, _, _, _⟩ | ⟨s, hr⟩ | ⟨s, t, hr⟩
    · rw [hr]
      have hm : m ≠ 0 ∧ -149 ≤ e := by
        unfold Format.read at hr
        rw [sgl_sw, sgl_bi, sgl_inf, sgl_lp] at hr
        simp only [] at hr
        rw [if_neg hs] at hr
        split at hr
        · simp only [Datum.number.injEq] at hr
          exact ⟨by omega, by omega⟩
        · split at hr <;> cases hr
      rw [order_base _ _ _ _ _ _ (-149) hm.2 (by omega)]
      have hp : 0 < m * 2 ^ (e - -149).toNat := Nat.mul_pos (by omega) (Nat.pow_pos (by decide))
      rw [signed_zero]
      unfold signed
      rw [Nat.shiftLeft_eq]
      generalize m * 2 ^ (e - -149).toNat = M at hp
      cases s <;> simp only [compare, compareOfLessAndEq] <;> simp <;> (try split) <;> simp <;> omega
    · rw [hr]; cases s <;> rfl
    · rw [hr]; rfl
/-- What comes of a word and its absolute value, widened: below 2 ^ -126 just where the exponent's field is 0. -/
theorem below_least (x r : Nat) (hr : r = wi x) : (double.order (r % 2 ^ 63) 4039728865751334912 == some .lt) = subB x := by
  subst hr
  have hc : double.read 4039728865751334912 = .number false 4503599627370496 (-178) := by decide
  have hs := wi_same x
  unfold Format.order
  rw [hc, read_mod]
  unfold subB
  by_cases hx : x % 2 ^ 31 < 2 ^ 23
  · rw [decide_eq_true hx]
    rw [read_sub x hx] at hs
    generalize double.read (wi x) = d at hs
    have hB : (2 : Nat) ^ 23 = 8388608 := by decide
    rw [hB] at hx
    generalize x % 2 ^ 31 = m at hs hx
    have key : ∀ k : Nat, Datum.order (.number false (m <<< k) (-149 - k)) (.number false 4503599627370496 (-178)) = some .lt := by
      intro k
      have hk := order_shift false false m 4503599627370496 (-149) (-178) k 0
      rw [show ((-178 : Int) - ((0 : Nat) : Int)) = -178 by omega, Nat.shiftLeft_zero] at hk
      rw [hk, order_base _ _ _ _ _ _ (-178) (by omega) (by omega)]
      have e1 : ((-149 : Int) - -178).toNat = 29 := by decide
      have e2 : ((-178 : Int) - -178).toNat = 0 := by decide
      rw [e1, e2]
      unfold signed
      simp only [Bool.false_eq_true, if_false, Nat.shiftLeft_eq, Nat.pow_zero, Nat.mul_one]
      have hlt : m * 2 ^ 29 < 4503599627370496 := by omega
      generalize m * 2 ^ 29 = M at hlt
      simp only [compare, compareOfLessAndEq]
      rw [if_pos (by omega)]
    cases hs with
    | num _ _ _ k => simp only []; rw [key k]; rfl
    | zero _ _ j =>
      simp only []
      rw [order_zero_l false false _ j (-149 - (0 : Nat)) _]
      have := key 0
      simp only [Nat.zero_shiftLeft] at this
      rw [this]; rfl
  · rw [decide_eq_false hx]
    rcases read_single x with ⟨s, m, e, hr, _, _, _⟩ | ⟨s, hr⟩ | ⟨s, t, hr⟩
    · rw [hr] at hs
      have hm : 8388608 ≤ m ∧ -149 ≤ e := by
        unfold Format.read at hr
        rw [sgl_sw, sgl_bi, sgl_inf, sgl_lp] at hr
        simp only [] at hr
        rw [if_neg hx] at hr
        split at hr
        · simp only [Datum.number.injEq] at hr
          exact ⟨by omega, by omega⟩
        · split at hr <;> cases hr
      generalize double.read (wi x) = d at hs
      cases hs with
      | num _ _ _ k =>
        simp only []
        have hk := order_shift false false m 4503599627370496 e (-178) k 0
        rw [show ((-178 : Int) - ((0 : Nat) : Int)) = -178 by omega, Nat.shiftLeft_zero] at hk
        rw [hk, order_base _ _ _ _ _ _ (-178) (by omega) (by omega)]
        have e2 : ((-178 : Int) - -178).toNat = 0 := by decide
        obtain ⟨u, hu⟩ : ∃ u : Nat, (e - -178).toNat = 29 + u := ⟨(e - -178).toNat - 29, by omega⟩
        rw [e2, hu]
        unfold signed
        simp only [Bool.false_eq_true, if_false, Nat.shiftLeft_eq, Nat.pow_zero, Nat.mul_one]
        have h1 : 1 ≤ 2 ^ u := Nat.pow_pos (by decide)
        have hge : 4503599627370496 ≤ m * 2 ^ (29 + u) := by
          rw [Nat.pow_add]
          calc 4503599627370496 = 8388608 * (2 ^ 29 * 1) := by decide
            _ ≤ m * (2 ^ 29 * 2 ^ u) := Nat.mul_le_mul hm.1 (Nat.mul_le_mul_left _ h1)
        generalize m * 2 ^ (29 + u) = M at hge
        simp only [compare, compareOfLessAndEq]
        rw [if_neg (by omega)]
        split <;> rfl
      | zero _ _ j => omega
    · rw [hr] at hs
      generalize double.read (wi x) = d at hs
      cases hs; rfl
    · rw [hr] at hs
      generalize double.read (wi x) = d at hs
      cases hs; rfl

theorem read_sign (f : Format) (b : Nat) (s : Bool) (m : Nat) (e : Int) (h : f.read b = .number s m e) : (b / f.signWeight % 2 == 1) = s := by
  unfold Format.read at h
  simp only [] at h
  split at h
  · simp only [Datum.number.injEq] at h; exact h.1
  · split at h
    · simp only [Datum.number.injEq] at h; exact h.1
    · split at h <;> cases h
theorem sign_wi (x : Nat) (h : x % 2 ^ 31 < 2 ^ 23) (hx : x < 2 ^ 32) (hw : wi x < 2 ^ 64) : wi x / 2 ^ 63 = x / 2 ^ 31 := by
  have hs := wi_same x
  rw [read_sub x h] at hs
  generalize x % 2 ^ 31 = m0 at hs
  have key : (wi x / 2 ^ 63 % 2 == 1) = (x / 2 ^ 31 % 2 == 1) := by
    cases hd : double.read (wi x) with
    | number s m e =>
      rw [hd] at hs
      have hsg := read_sign double (wi x) s m e hd
      rw [dbl_sw] at hsg
      rw [hsg]
      generalize (x / 2 ^ 31 % 2 == 1) = t at hs
      cases hs <;> rfl
    | infinity s => rw [hd] at hs; cases hs
    | nan s t => rw [hd] at hs; cases hs
  generalize wi x = r at key hw
  rw [Bool.eq_iff_iff] at key
  simp only [beq_iff_eq] at key
  omega
theorem copysign_bits (r : Nat) (hr : r < 2 ^ 64) : (bits .or .u64 (bits .andNot .u64 0 9223372036854775808) (bits .and .u64 (r : Int) 9223372036854775808)).toNat = r / 2 ^ 63 * 2 ^ 63 := by
  have h1 : bits .andNot .u64 0 9223372036854775808 = ((0 : Nat) : Int) := by decide
  have h2 : bits .and .u64 (r : Int) 9223372036854775808 = ((r &&& 9223372036854775808 : Nat) : Int) := u64_and_nat r 9223372036854775808 (by simpa using hr) (by decide)
  have e : (9223372036854775808 : Nat) = (2 ^ 1 - 1) <<< 63 := by decide
  have h3 : r &&& 9223372036854775808 = ((r / 2 ^ 63) % 2 ^ 1) * 2 ^ 63 := by
    apply Nat.eq_of_testBit_eq
    intro i
    rw [Nat.testBit_and, e, Nat.testBit_shiftLeft, Nat.testBit_two_pow_sub_one, ← Nat.shiftLeft_eq, Nat.testBit_shiftLeft, Nat.testBit_mod_two_pow, Nat.testBit_div_two_pow]
    by_cases h1 : i ≥ 63
    · have : 63 + (i - 63) = i := by omega
      simp [h1]
      rw [Bool.and_comm]
      try rw [this]
    · simp [h1]
  have h4 : r &&& 9223372036854775808 = r / 2 ^ 63 * 2 ^ 63 := by rw [h3]; omega
  rw [h1, h2, h4]
  have h5 := u64_or_nat 0 (r / 2 ^ 63 * 2 ^ 63) (by decide) (by omega)
  rw [h5, Int.toNat_natCast, Nat.zero_or]
theorem na_zeros (q : Nat) (hq : q < 2) : naOk (q * 2 ^ 63) = true ∧ na (q * 2 ^ 63) = q * 2 ^ 31 := by
  have : q = 0 ∨ q = 1 := by omega
  rcases this with rfl | rfl <;> decide
end Go.Proofs.Ytpckljkhmaghmaa.Fl
