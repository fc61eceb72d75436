/-
  Subnormal numbers, signs, masks (no program in it).
  How small a number can be; quotients of at most 1 (no program in it).
  Angles as a plain function, and their bound (no program in it).
  Halving and doubling; logarithms as a plain function, and their bound (no program in it).
-/
import Derived.Test.YthkklilfignmpaaFlo
import Derived.Test.YthkklilfignmpaaFloQuart
namespace Go.Proofs.Ythkklilfignmpaa.Fl
open Ieee
theorem wraps_i64 (n : Int) (h₀ : 0 ≤ n) (h₁ : n < 2 ^ 63) : IntKind.i64.wrap n = n := by
  have : (2 : Int) ^ 63 = 9223372036854775808 := by decide
  rw [IntKind.wrap_i64]; omega
theorem i64_and_nat (a b : Nat) (ha : a < 2 ^ 63) (hb : b < 2 ^ 63) : bits .and .i64 (a : Int) (b : Int) = ((a &&& b : Nat) : Int) :=
  (bits_nat .i64 63 (by decide) wraps_i64 a b ha hb).1
theorem expmask (r : Nat) (_hr : r < 2 ^ 32) : (r &&& 2139095040 = 0) ↔ r % 2 ^ 31 < 2 ^ 23 := by
  have h : r &&& 2139095040 = ((r / 2 ^ 23) % 2 ^ 8) * 2 ^ 23 := by
    have e : (2139095040 : Nat) = (2 ^ 8 - 1) <<< 23 := by decide
    apply Nat.eq_of_testBit_eq
    intro i
    rw [Nat.testBit_and, e, Nat.testBit_shiftLeft, Nat.testBit_two_pow_sub_one, ← Nat.shiftLeft_eq, Nat.testBit_shiftLeft, Nat.testBit_mod_two_pow, Nat.testBit_div_two_pow]
    by_cases h1 : i ≥ 23
    · have : 23 + (i - 23) = i := by omega
      simp [h1]
      rw [Bool.and_comm]
      try rw [this]
    · simp [h1]
  rw [h]
  omega
theorem signmask (r : Nat) (hr : r < 2 ^ 32) : r &&& 2147483648 = r / 2 ^ 31 * 2 ^ 31 := by
  have e : (2147483648 : Nat) = (2 ^ 1 - 1) <<< 31 := by decide
  have h : r &&& 2147483648 = ((r / 2 ^ 31) % 2 ^ 1) * 2 ^ 31 := by
    apply Nat.eq_of_testBit_eq
    intro i
    rw [Nat.testBit_and, e, Nat.testBit_shiftLeft, Nat.testBit_two_pow_sub_one, ← Nat.shiftLeft_eq, Nat.testBit_shiftLeft, Nat.testBit_mod_two_pow, Nat.testBit_div_two_pow]
    by_cases h1 : i ≥ 31
    · have : 31 + (i - 31) = i := by omega
      simp [h1]
      rw [Bool.and_comm]
      try rw [this]
    · simp [h1]
  rw [h]
  omega
/-- Subnormal or a zero: the exponent's field is 0. -/
def subB (r : Nat) : Bool := decide (r % 2 ^ 31 < 2 ^ 23)

theorem read_sub (r : Nat) (h : r % 2 ^ 31 < 2 ^ 23) : single.read r = .number (r / 2 ^ 31 % 2 == 1) (r % 2 ^ 31) (-149) := by
  unfold Format.read
  rw [sgl_sw, sgl_bi, sgl_lp]
  simp only []
  rw [if_pos h]
theorem nan_not_sub (r : Nat) (h : isN .f32 r = true) : ¬ r % 2 ^ 31 < 2 ^ 23 := by
  intro hs
  unfold isN at h
  have e : FloatKind.f32.format.read r = _ := read_sub r hs
  rw [e] at h
  cases h
theorem zero_rung (x : Nat) : (single.order x 0 == some .eq) = decide (x % 2 ^ 31 = 0) := by
  have h0 : single.read 0 = .number false 0 (-149) := by decide
  unfold Format.order
  rw [h0]
  by_cases hs : x % 2 ^ 31 < 2 ^ 23
  · rw [read_sub x hs, order_base _ _ _ _ _ _ (-149) (by omega) (by omega)]
    have e0 : ((-149 : Int) - -149).toNat = 0 := by decide
    rw [e0]
    generalize x % 2 ^ 31 = m
    cases hm : decide (m = 0) with
    | true => rw [of_decide_eq_true hm]; cases (x / 2 ^ 31 % 2 == 1) <;> rfl
    | false =>
      have hne := of_decide_eq_false hm
      unfold signed
      simp only [Nat.shiftLeft_zero]
      generalize (x / 2 ^ 31 % 2 == 1) = s
      cases s <;> simp only [compare, compareOfLessAndEq] <;> simp <;> (try split) <;> simp <;> omega
  · have hne : decide (x % 2 ^ 31 = 0) = false := by simp; omega
    rw [hne]
    rcases read_single x with ⟨s, m, e, hr, _, _, _⟩ | ⟨s, hr⟩ | ⟨s, t, hr⟩
    · rw [hr]
      have hm : m ≠ 0 ∧ -149 ≤ e := by
        unfold Format.read at hr
        rw [sgl_sw, sgl_bi, sgl_inf, sgl_lp] at hr
        simp only [] at hr
        rw [if_neg hs] at hr
        split at hr
        · simp only [Datum.number.injEq] at hr
          exact ⟨by omega, by omega⟩
        · split at hr <;> cases hr
      rw [order_base _ _ _ _ _ _ (-149) hm.2 (by omega)]
      have hp : 0 < m * 2 ^ (e - -149).toNat := Nat.mul_pos (by omega) (Nat.pow_pos (by decide))
      rw [signed_zero]
      unfold signed
      rw [Nat.shiftLeft_eq]
      generalize m * 2 ^ (e - -149).toNat = M at hp
      cases s <;> simp only [compare, compareOfLessAndEq] <;> simp <;> (try split) <;> simp <;> omega
    · rw [hr]; cases s <;> rfl
    · rw [hr]; rfl
/-- What comes of a word and its absolute value, widened: below 2 ^ -126 just where the exponent's field is 0. -/
theorem below_least (x r : Nat) (hr : r = wi x) : (double.order (r % 2 ^ 63) 4039728865751334912 == some .lt) = subB x := by
  subst hr
  have hc : double.read 4039728865751334912 = .number false 4503599627370496 (-178) := by decide
  have hs := wi_same x
  unfold Format.order
  rw [hc, read_mod]
  unfold subB
  by_cases hx : x % 2 ^ 31 < 2 ^ 23
  · rw [decide_eq_true hx]
    rw [read_sub x hx] at hs
    generalize double.read (wi x) = d at hs
    have hB : (2 : Nat) ^ 23 = 8388608 := by decide
    rw [hB] at hx
    generalize x % 2 ^ 31 = m at hs hx
    have key : ∀ k : Nat, Datum.order (.number false (m <<< k) (-149 - k)) (.number false 4503599627370496 (-178)) = some .lt := by
      intro k
      have hk := order_shift false false m 4503599627370496 (-149) (-178) k 0
      rw [show ((-178 : Int) - ((0 : Nat) : Int)) = -178 by omega, Nat.shiftLeft_zero] at hk
      rw [hk, order_base _ _ _ _ _ _ (-178) (by omega) (by omega)]
      have e1 : ((-149 : Int) - -178).toNat = 29 := by decide
      have e2 : ((-178 : Int) - -178).toNat = 0 := by decide
      rw [e1, e2]
      unfold signed
      simp only [Bool.false_eq_true, if_false, Nat.shiftLeft_eq, Nat.pow_zero, Nat.mul_one]
      have hlt : m * 2 ^ 29 < 4503599627370496 := by omega
      generalize m * 2 ^ 29 = M at hlt
      simp only [compare, compareOfLessAndEq]
      rw [if_pos (by omega)]
    cases hs with
    | num _ _ _ k => simp only []; rw [key k]; rfl
    | zero _ _ j =>
      simp only []
      rw [order_zero_l false false _ j (-149 - (0 : Nat)) _]
      have := key 0
      simp only [Nat.zero_shiftLeft] at this
      rw [this]; rfl
  · rw [decide_eq_false hx]
    rcases read_single x with ⟨s, m, e, hr, _, _, _⟩ | ⟨s, hr⟩ | ⟨s, t, hr⟩
    · rw [hr] at hs
      have hm : 8388608 ≤ m ∧ -149 ≤ e := by
        unfold Format.read at hr
        rw [sgl_sw, sgl_bi, sgl_inf, sgl_lp] at hr
        simp only [] at hr
        rw [if_neg hx] at hr
        split at hr
        · simp only [Datum.number.injEq] at hr
          exact ⟨by omega, by omega⟩
        · split at hr <;> cases hr
      generalize double.read (wi x) = d at hs
      cases hs with
      | num _ _ _ k =>
        simp only []
        have hk := order_shift false false m 4503599627370496 e (-178) k 0
        rw [show ((-178 : Int) - ((0 : Nat) : Int)) = -178 by omega, Nat.shiftLeft_zero] at hk
        rw [hk, order_base _ _ _ _ _ _ (-178) (by omega) (by omega)]
        have e2 : ((-178 : Int) - -178).toNat = 0 := by decide
        obtain ⟨u, hu⟩ : ∃ u : Nat, (e - -178).toNat = 29 + u := ⟨(e - -178).toNat - 29, by omega⟩
        rw [e2, hu]
        unfold signed
        simp only [Bool.false_eq_true, if_false, Nat.shiftLeft_eq, Nat.pow_zero, Nat.mul_one]
        have h1 : 1 ≤ 2 ^ u := Nat.pow_pos (by decide)
        have hge : 4503599627370496 ≤ m * 2 ^ (29 + u) := by
          rw [Nat.pow_add]
          calc 4503599627370496 = 8388608 * (2 ^ 29 * 1) := by decide
            _ ≤ m * (2 ^ 29 * 2 ^ u) := Nat.mul_le_mul hm.1 (Nat.mul_le_mul_left _ h1)
        generalize m * 2 ^ (29 + u) = M at hge
        simp only [compare, compareOfLessAndEq]
        rw [if_neg (by omega)]
        split <;> rfl
      | zero _ _ j => omega
    · rw [hr] at hs
      generalize double.read (wi x) = d at hs
      cases hs; rfl
    · rw [hr] at hs
      generalize double.read (wi x) = d at hs
      cases hs; rfl

theorem read_sign (f : Format) (b : Nat) (s : Bool) (m : Nat) (e : Int) (h : f.read b = .number s m e) : (b / f.signWeight % 2 == 1) = s := by
  unfold Format.read at h
  simp only [] at h
  split at h
  · simp only [Datum.number.injEq] at h; exact h.1
  · split at h
    · simp only [Datum.number.injEq] at h; exact h.1
    · split at h <;> cases h
theorem sign_wi (x : Nat) (h : x % 2 ^ 31 < 2 ^ 23) (hx : x < 2 ^ 32) (hw : wi x < 2 ^ 64) : wi x / 2 ^ 63 = x / 2 ^ 31 := by
  have hs := wi_same x
  rw [read_sub x h] at hs
  generalize x % 2 ^ 31 = m0 at hs
  have key : (wi x / 2 ^ 63 % 2 == 1) = (x / 2 ^ 31 % 2 == 1) := by
    cases hd : double.read (wi x) with
    | number s m e =>
      rw [hd] at hs
      have hsg := read_sign double (wi x) s m e hd
      rw [dbl_sw] at hsg
      rw [hsg]
      generalize (x / 2 ^ 31 % 2 == 1) = t at hs
      cases hs <;> rfl
    | infinity s => rw [hd] at hs; cases hs
    | nan s t => rw [hd] at hs; cases hs
  generalize wi x = r at key hw
  rw [Bool.eq_iff_iff] at key
  simp only [beq_iff_eq] at key
  omega
theorem copysign_bits (r : Nat) (hr : r < 2 ^ 64) : (bits .or .u64 (bits .andNot .u64 0 9223372036854775808) (bits .and .u64 (r : Int) 9223372036854775808)).toNat = r / 2 ^ 63 * 2 ^ 63 := by
  have h1 : bits .andNot .u64 0 9223372036854775808 = ((0 : Nat) : Int) := by decide
  have h2 : bits .and .u64 (r : Int) 9223372036854775808 = ((r &&& 9223372036854775808 : Nat) : Int) := u64_and_nat r 9223372036854775808 (by simpa using hr) (by decide)
  have e : (9223372036854775808 : Nat) = (2 ^ 1 - 1) <<< 63 := by decide
  have h3 : r &&& 9223372036854775808 = ((r / 2 ^ 63) % 2 ^ 1) * 2 ^ 63 := by
    apply Nat.eq_of_testBit_eq
    intro i
    rw [Nat.testBit_and, e, Nat.testBit_shiftLeft, Nat.testBit_two_pow_sub_one, ← Nat.shiftLeft_eq, Nat.testBit_shiftLeft, Nat.testBit_mod_two_pow, Nat.testBit_div_two_pow]
    by_cases h1 : i ≥ 63
    · have : 63 + (i - 63) = i := by omega
      simp [h1]
      rw [Bool.and_comm]
      try rw [this]
    · simp [h1]
  have h4 : r &&& 9223372036854775808 = r / 2 ^ 63 * 2 ^ 63 := by rw [h3]; omega
  rw [h1, h2, h4]
  have h5 := u64_or_nat 0 (r / 2 ^ 63 * 2 ^ 63) (by decide) (by omega)
  rw [h5, Int.toNat_natCast, Nat.zero_or]
theorem na_zeros (q : Nat) (hq : q < 2) : naOk (q * 2 ^ 63) = true ∧ na (q * 2 ^ 63) = q * 2 ^ 31 := by
  have : q = 0 ∨ q = 1 := by omega
  rcases this with rfl | rfl <;> decide
end Go.Proofs.Ythkklilfignmpaa.Fl
namespace Go.Proofs.Ythkklilfignmpaa.Fl
open Ieee
/-! ### how small a number can be -/
theorem cut_ge {n drop C : Nat} (s : Bool) (h : C * 2 ^ drop ≤ n) : C ≤ Toward.even.cut s n drop := by
  unfold Toward.cut
  simp only [Nat.one_shiftLeft]
  refine Nat.le_trans ?_ (Nat.le_add_right _ _)
  by_cases hd : drop ≤ n.log2 + 2
  · rw [Nat.min_eq_left hd]
    exact (Nat.le_div_iff_mul_le (Nat.pow_pos (by decide))).2 h
  · have hn := log2_pow_lt n
    have h2 : n < 2 ^ drop := Nat.lt_of_lt_of_le hn (Nat.pow_le_pow_right (by decide) (by omega))
    have hC : C = 0 := by
      rcases Nat.eq_zero_or_pos C with h0 | h0
      · exact h0
      · have : 1 * 2 ^ drop ≤ C * 2 ^ drop := Nat.mul_le_mul_right _ h0
        omega
    rw [hC]; exact Nat.zero_le _
theorem nearest_rung_ge (s : Bool) (M : Nat) (p n : Int) (h : ∃ c : Int, c ≤ p ∧ c ≤ n ∧ 2 ^ (n - c).toNat ≤ M * 2 ^ (p - c).toNat) (h1 : -1022 ≤ n) (h2 : n ≤ 1023) :
    top double n ≤ double.nearest s M p % double.signWeight := by
  have hinf := double.infRung_lt
  have htop := highest_lt .f64 (n := n) h2
  replace htop : top double n < double.infRung := htop
  obtain ⟨c, c1, c2, hc⟩ := h
  have h0 : M ≠ 0 := by
    rintro rfl
    rw [Nat.zero_mul] at hc
    have : 0 < 2 ^ (n - c).toNat := Nat.pow_pos (by decide)
    omega
  have hlo : 2 ^ M.log2 ≤ M := Nat.log2_self_le h0
  have hhi := log2_pow_lt M
  have hL : n ≤ p + M.log2 := by
    refine Int.not_lt.1 fun hlt => ?_
    have h3 : M * 2 ^ (p - c).toNat < 2 ^ (M.log2 + 1) * 2 ^ (p - c).toNat := Nat.mul_lt_mul_of_pos_right hhi (Nat.pow_pos (by decide))
    rw [← Nat.pow_add] at h3
    have h4 := Nat.lt_of_le_of_lt hc h3
    have h5 := (Nat.pow_lt_pow_iff_right (a := 2) (by decide)).1 h4
    omega
  unfold Format.nearest
  rw [if_neg h0]
  simp only []
  have hF : (double.fractionBits : Int) = 52 := rfl
  rw [dbl_lp, dbl_bi, hF]
  have hlast : max (p + (M.log2 : Int) - 52) (-1074) = p + M.log2 - 52 := by omega
  rw [hlast]
  generalize hk : Toward.even.cut s (M <<< (p - (p + (M.log2 : Int) - 52)).toNat) (p + (M.log2 : Int) - 52 - p).toNat = kept
  rw [(word_rung double s _ (Nat.lt_of_le_of_lt (Nat.min_le_right _ _) hinf)).1]
  have hkept : 2 ^ 52 ≤ kept := by
    rw [← hk]
    refine cut_ge s ?_
    rw [Nat.shiftLeft_eq, ← Nat.pow_add]
    calc 2 ^ (52 + (p + (M.log2 : Int) - 52 - p).toNat) = 2 ^ (M.log2 + (p - (p + (M.log2 : Int) - 52)).toNat) := by congr 1; omega
      _ = 2 ^ M.log2 * 2 ^ (p - (p + (M.log2 : Int) - 52)).toNat := by rw [Nat.pow_add]
      _ ≤ _ := Nat.mul_le_mul_right _ hlo
  refine Nat.le_min.2 ⟨?_, Nat.le_of_lt htop⟩
  unfold top
  rw [dbl_lp, dbl_bi, hF]
  obtain ⟨d, hd⟩ : ∃ d : Nat, (p + (M.log2 : Int) - 52 - -1074).toNat + 1 = (n - -1074 - 52 + 1).toNat + d := ⟨(p + (M.log2 : Int) - 52 - -1074).toNat + 1 - (n - -1074 - 52 + 1).toNat, by omega⟩
  have h3 : ((p + (M.log2 : Int) - 52 - -1074).toNat + 1) * 2 ^ 52 = ((n - -1074 - 52 + 1).toNat + d) * 2 ^ 52 := by rw [hd]
  rw [Nat.add_mul, Nat.add_mul, Nat.one_mul] at h3
  generalize (2 : Nat) ^ 52 = B at *
  generalize (n - -1074 - 52 + 1).toNat * B = X at *
  generalize (p + (M.log2 : Int) - 52 - -1074).toNat * B = Y at *
  generalize d * B = Z at *
  omega
theorem read_ge {b : Nat} {n : Int} {s : Bool} {m : Nat} {e : Int} (h : top double n ≤ b % double.signWeight) (hr : double.read b = .number s m e) (h1 : -1022 ≤ n) : ∃ c : Int, c ≤ e ∧ c ≤ n ∧ 2 ^ (n - c).toNat ≤ m * 2 ^ (e - c).toNat := by
  unfold Format.read at hr
  simp only [] at hr
  unfold top at h
  have hF : (double.fractionBits : Int) = 52 := rfl
  rw [dbl_lp, dbl_bi, hF, dbl_sw] at h
  rw [dbl_sw, dbl_bi, dbl_inf, dbl_lp] at hr
  generalize b % 2 ^ 63 = r at h hr
  generalize hT : (n - -1074 - 52 + 1).toNat = T at h
  have hBp : 0 < (2 : Nat) ^ 52 := Nat.pow_pos (by decide)
  have hT1 : 1 ≤ T := by omega
  have hrB : 1 * 2 ^ 52 ≤ T * 2 ^ 52 := Nat.mul_le_mul_right _ hT1
  rw [if_neg (by omega)] at hr
  split at hr
  · simp only [Datum.number.injEq] at hr
    obtain ⟨_, rfl, rfl⟩ := hr
    have hq : T ≤ r / 2 ^ 52 := (Nat.le_div_iff_mul_le hBp).2 h
    refine ⟨-1074, by omega, by omega, ?_⟩
    have e1 : (-1074 + ((r / 2 ^ 52 - 1 : Nat) : Int) - -1074).toNat = r / 2 ^ 52 - 1 := by omega
    have e2 : (n - -1074).toNat = 52 + (T - 1) := by omega
    rw [e1, e2, Nat.pow_add]
    exact Nat.mul_le_mul (Nat.le_add_right _ _) (Nat.pow_le_pow_right (by decide) (by omega))
  · split at hr <;> cases hr
theorem nearest_false_lt (f : Format) (m : Nat) (p : Int) : f.nearest false m p < f.signWeight := by
  have hinf := f.infRung_lt
  have hw : ∀ r, f.word false r = r := fun r => by unfold Format.word; simp
  unfold Format.nearest
  split
  · rw [hw]; omega
  · simp only []
    rw [hw]
    exact Nat.lt_of_le_of_lt (Nat.min_le_right _ _) hinf
theorem sign_of_lt {f : Format} {b : Nat} (h : b < f.signWeight) : (b / f.signWeight % 2 == 1) = false := by
  rw [Nat.div_eq_of_lt h]; rfl
/-- Not less than nothing. -/
def NN (b : Nat) : Prop := ∃ s m, ∃ e : Int, double.read b = .number s m e ∧ (s = false ∨ m = 0)
theorem nn_mod {b : Nat} (h : finB .f64 b = true) : NN (b % 2 ^ 63) := by
  unfold finB at h
  cases hr : FloatKind.f64.format.read b with
  | number s m e => exact ⟨false, m, e, by rw [read_mod, show double.read b = .number s m e from hr], .inl rfl⟩
  | infinity s => rw [hr] at h; cases h
  | nan s t => rw [hr] at h; cases h
theorem one_plus {y : Nat} (hy : NN y) (hb : Bd .f64 y 1000) : Lo .f64 (ar .add .f64 one y) 0 ∧ NN (ar .add .f64 one y) := by
  obtain ⟨t, n, j, hr, hs⟩ := hy
  have hone : double.read one = .number false 4503599627370496 (-52) := by decide
  have hbd := Bd.add (bd_one.mono (by decide : (0 : Int) ≤ 1000)) hb (by decide) (by decide)
  have hnn : signed t n (j - min (-52) j).toNat = ((n * 2 ^ (j - min (-52) j).toNat : Nat) : Int) := by
    rcases hs with rfl | rfl
    · unfold signed; simp only [Bool.false_eq_true, if_false, Nat.shiftLeft_eq]
    · rw [signed_zero]; simp
  have hT : signed false 4503599627370496 (-52 - min (-52) j).toNat + signed t n (j - min (-52) j).toNat = ((4503599627370496 * 2 ^ (-52 - min (-52) j).toNat + n * 2 ^ (j - min (-52) j).toNat : Nat) : Int) := by
    rw [hnn]; unfold signed; simp only [Bool.false_eq_true, if_false, Nat.shiftLeft_eq]; omega
  have hbits : floatBits .add .f64 one y = some (double.nearest false (4503599627370496 * 2 ^ (-52 - min (-52) j).toNat + n * 2 ^ (j - min (-52) j).toNat) (min (-52) j)) := by
    show double.add one y = _
    unfold Format.add
    rw [hone, hr]
    show some (double.write (.number (if signed false 4503599627370496 (-52 - min (-52) j).toNat + signed t n (j - min (-52) j).toNat = 0 then false && t else decide (signed false 4503599627370496 (-52 - min (-52) j).toNat + signed t n (j - min (-52) j).toNat < 0)) (signed false 4503599627370496 (-52 - min (-52) j).toNat + signed t n (j - min (-52) j).toNat).natAbs (min (-52) j))) = _
    rw [hT]
    have hp : 0 < 2 ^ (-52 - min (-52) j).toNat := Nat.pow_pos (by decide)
    rw [if_neg (by omega), decide_eq_false (by omega), Int.natAbs_natCast]; rfl
  rw [ar_some hbits] at hbd ⊢
  have hge := nearest_rung_ge false (4503599627370496 * 2 ^ (-52 - min (-52) j).toNat + n * 2 ^ (j - min (-52) j).toNat) (min (-52) j) 0
    ⟨min (-52) j, by omega, by omega, by
      have e1 : (min (-52) j - min (-52) j).toNat = 0 := by omega
      have e2 : (0 - min (-52) j).toNat = 52 + (-52 - min (-52) j).toNat := by omega
      have hC : (2 : Nat) ^ 52 = 4503599627370496 := by decide
      rw [e1, e2, Nat.pow_zero, Nat.mul_one, Nat.pow_add, hC]; omega⟩ (by decide) (by decide)
  obtain ⟨s', m', e', hr', _⟩ := hbd
  replace hr' : double.read _ = .number s' m' e' := hr'
  have hsg := read_sign double _ s' m' e' hr'
  have hsf : s' = false := by
    rw [← hsg]
    exact sign_of_lt (nearest_false_lt _ _ _)
  exact ⟨⟨s', m', e', hr', read_ge hge hr' (by decide)⟩, ⟨s', m', e', hr', .inl hsf⟩⟩
theorem nn_sq {x r : Nat} (h : double.sqrt x = some r) (hf : finB .f64 r = true) : NN r := by
  unfold Format.sqrt at h
  simp only [Option.map_eq_some_iff] at h
  obtain ⟨d, hd, rfl⟩ := h
  unfold Datum.root at hd
  have hz : ∀ (s : Bool) (m : Nat) (e : Int), m = 0 ∨ s = false → NN (double.write (.number s m e)) ∨ finB .f64 (double.write (.number s m e)) = false := by
    intro s m e hsm
    cases hfb : finB .f64 (double.write (.number s m e)) with
    | false => exact .inr rfl
    | true =>
      refine .inl ?_
      unfold finB at hfb
      cases hrr : double.read (double.write (.number s m e)) with
      | number s' m' e' =>
        refine ⟨s', m', e', hrr, ?_⟩
        rcases hsm with rfl | rfl
        · have := read_zero64 s e
          rw [show double.write (.number s 0 e) = double.nearest s 0 e from rfl, this] at hrr
          simp only [Datum.number.injEq] at hrr
          exact .inr hrr.2.1.symm
        · refine .inl ?_
          have hsg := read_sign double _ s' m' e' hrr
          rw [← hsg]
          exact sign_of_lt (nearest_false_lt _ _ _)
      | infinity s' => rw [show FloatKind.f64.format.read _ = _ from hrr] at hfb; cases hfb
      | nan s' t => rw [show FloatKind.f64.format.read _ = _ from hrr] at hfb; cases hfb
  have fin : ∀ (s : Bool) (m : Nat) (e : Int), m = 0 ∨ s = false → finB .f64 (double.write (.number s m e)) = true → NN (double.write (.number s m e)) := by
    intro s m e h1 h2
    rcases hz s m e h1 with h | h
    · exact h
    · rw [h] at h2; cases h2
  cases hx : double.read x with
  | nan s t => rw [hx] at hd; cases hd
  | infinity s =>
    rw [hx] at hd
    cases s with
    | true => cases hd
    | false =>
      cases hd
      have : finB .f64 (double.write (.infinity false)) = false := by decide
      rw [this] at hf; cases hf
  | number s m i =>
    rw [hx] at hd
    simp only [] at hd
    by_cases h0 : m = 0
    · rw [if_pos h0] at hd
      cases hd
      exact fin s m i (.inl h0) hf
    · rw [if_neg h0] at hd
      cases s with
      | true => simp at hd
      | false =>
        simp only [Bool.false_eq_true, if_false, Option.some.injEq] at hd
        subst hd
        exact fin false _ _ (.inr rfl) hf
/-- The lesser over the greater: at most 1. -/
theorem quo_one {x y : Nat} {s t : Bool} {m n : Nat} {i j : Int} (hx : double.read x = .number s m i) (hy : double.read y = .number t n j) (hn : n ≠ 0) (hle : m * 2 ^ (i - min i j).toNat ≤ n * 2 ^ (j - min i j).toNat) :
    Bd .f64 (ar .quo .f64 x y) 0 := by
  generalize hmore : (double.fractionBits + 2) + n.log2 - m.log2 = more
  have hw : floatBits .quo .f64 x y = some (double.write (.number (s ^^ t) (2 * ((m <<< more) / n) + ((m <<< more) % n != 0).toNat) (i - j - more - 1))) := by
    show double.div x y = _
    unfold Format.div
    rw [hx, hy]
    show Option.map double.write (if n = 0 then _ else _) = _
    rw [if_neg hn]
    simp only [hmore, Option.map_some]
  rw [ar_some hw]
  refine Bd.write (k := .f64) ?_ (by decide) (by decide)
  rw [Nat.shiftLeft_eq]
  by_cases hneg : 0 ≤ j - i + more
  · have hX : m * 2 ^ more ≤ 2 ^ (j - i + more).toNat * n := by
      have hp : 0 < 2 ^ (i - min i j).toNat := Nat.pow_pos (by decide)
      refine Nat.le_of_mul_le_mul_right ?_ hp
      calc m * 2 ^ more * 2 ^ (i - min i j).toNat = (m * 2 ^ (i - min i j).toNat) * 2 ^ more := by ac_rfl
        _ ≤ n * 2 ^ (j - min i j).toNat * 2 ^ more := Nat.mul_le_mul_right _ hle
        _ = n * 2 ^ ((j - min i j).toNat + more) := by rw [Nat.mul_assoc, ← Nat.pow_add]
        _ = n * 2 ^ ((j - i + more).toNat + (i - min i j).toNat) := by congr 2; omega
        _ = _ := by rw [Nat.pow_add]; ac_rfl
    have hq := quo_le (by omega) hX
    refine ⟨min (i - j - more - 1) 0, by omega, by omega, ?_⟩
    refine Nat.le_trans (Nat.mul_le_mul_right _ hq) ?_
    have h22 : 2 * 2 ^ (j - i + more).toNat = 2 ^ ((j - i + more).toNat + 1) := by rw [Nat.pow_succ]; omega
    rw [h22, ← Nat.pow_add]
    exact Nat.pow_le_pow_right (by decide) (by omega)
  · by_cases hm : m = 0
    · subst hm
      simp only [Nat.zero_mul, Nat.zero_div, Nat.zero_mod]
      exact V.zero _ _
    · exfalso
      have hlo : 2 ^ m.log2 ≤ m := Nat.log2_self_le hm
      have hhi := log2_pow_lt n
      have e1 : min i j = j := by omega
      have e2 : (j - j).toNat = 0 := by omega
      rw [e1, e2, Nat.pow_zero, Nat.mul_one] at hle
      have h3 : 2 ^ (m.log2 + (i - j).toNat) ≤ m * 2 ^ (i - j).toNat := by rw [Nat.pow_add]; exact Nat.mul_le_mul_right _ hlo
      have h4 : 2 ^ (m.log2 + (i - j).toNat) < 2 ^ (n.log2 + 1) := by omega
      have h5 := (Nat.pow_lt_pow_iff_right (a := 2) (by decide)).1 h4
      omega
end Go.Proofs.Ythkklilfignmpaa.Fl
namespace Go.Proofs.Ythkklilfignmpaa.Fl
open Ieee
/-! ### angles -/
def eight : Nat := 4620693217682128896
def thF (t : Nat) : Nat → Nat
  | 0 => t
  | j + 1 => ar .quo .f64 (thF t j) (ar .add .f64 one (sq (ar .add .f64 one (ar .mul .f64 (thF t j) (thF t j)))))
def polA (u : Nat) : Nat → Nat
  | 0 => 0
  | j + 1 => ar .sub .f64 (ar .quo .f64 one (floatOfInt .f64 (15 - 2 * (j : Int)))) (ar .mul .f64 u (polA u j))
def slopeF (t : Nat) : Nat := ar .quo .f64 (ar .mul .f64 eight (ar .mul .f64 (thF t 3) (polA (ar .mul .f64 (thF t 3) (thF t 3)) 8))) round
def overB (a b : Nat) : Bool := FloatKind.f64.format.order a b == some .gt
def angT (a b : Nat) : Nat := if overB a b then ar .quo .f64 b a else ar .quo .f64 a b
def ang2 (a b : Nat) : Nat := if overB a b then ar .sub .f64 quarter (slopeF (angT a b)) else slopeF (angT a b)
def ang3 (a b x : Nat) : Nat := if ltB x 0 then ar .sub .f64 half (ang2 a b) else ang2 a b
def ang4 (a b y x : Nat) : Nat := if ltB y 0 then ng (ang3 a b x) else ang3 a b x
/-- The angle of a point of 32-bit numbers, in 64 bits. -/
def angW (y x : Nat) : Nat := ang4 (wi y % 2 ^ 63) (wi x % 2 ^ 63) (wi y) (wi x)
theorem nn_mul_self {t : Nat} {q : Int} (h : Bd .f64 t q) (h1 : -1022 ≤ q + q) (h2 : q + q ≤ 1023) : NN (ar .mul .f64 t t) := by
  have hb := Bd.mul h h h1 h2
  obtain ⟨s, m, i, hr, hv⟩ := h
  have hbits : floatBits .mul .f64 t t = some (double.nearest false (m * m) (i + i)) := by
    show double.mul t t = _
    unfold Format.mul
    rw [show double.read t = .number s m i from hr]
    show some (double.write (.number (s ^^ s) (m * m) (i + i))) = _
    rw [Bool.xor_self]; rfl
  rw [ar_some hbits] at hb ⊢
  obtain ⟨s', m', e', hr', _⟩ := hb
  replace hr' : double.read _ = .number s' m' e' := hr'
  have hsg := read_sign double _ s' m' e' hr'
  exact ⟨s', m', e', hr', .inl (by rw [← hsg]; exact sign_of_lt (nearest_false_lt _ _ _))⟩
theorem sq_some {x : Nat} (h : NN x) : ∃ r, double.sqrt x = some r := by
  obtain ⟨s, m, e, hr, hs⟩ := h
  unfold Format.sqrt
  rw [hr]
  unfold Datum.root
  simp only []
  by_cases h0 : m = 0
  · rw [if_pos h0]; exact ⟨_, rfl⟩
  · rw [if_neg h0]
    rcases hs with rfl | h
    · simp
    · exact absurd h h0
theorem step_bd {t : Nat} (h : Bd .f64 t 0) : Bd .f64 (ar .quo .f64 t (ar .add .f64 one (sq (ar .add .f64 one (ar .mul .f64 t t))))) 0 := by
  have h1 := nn_mul_self h (by decide) (by decide)
  have h2 : Bd .f64 (ar .mul .f64 t t) 0 := Bd.mul h h (by decide) (by decide)
  obtain ⟨_, h3⟩ := one_plus h1 (h2.mono (by decide))
  have h4 : Bd .f64 (ar .add .f64 one (ar .mul .f64 t t)) 1 := Bd.add bd_one h2 (by decide) (by decide)
  obtain ⟨r, hr⟩ := sq_some h3
  have hsq : sq (ar .add .f64 one (ar .mul .f64 t t)) = r := by
    unfold sq; rw [sqrt_cn, hr]; rfl
  have h5 : Bd .f64 r 1 := Bd.sqrt (q := 1) (h4.mono (by decide)) hr (by decide) (by decide)
  rw [hsq]
  have h6 := nn_sq hr h5.fin
  obtain ⟨h7, _⟩ := one_plus h6 (h5.mono (by decide))
  exact Bd.quo h h7 (by decide) (by decide)
theorem thF_bd {t : Nat} (h : Bd .f64 t 0) : ∀ j, Bd .f64 (thF t j) 0
  | 0 => h
  | j + 1 => step_bd (thF_bd h j)
theorem polA_bd {u : Nat} (hu : Bd .f64 u 0) : ∀ j : Nat, j ≤ 8 → Bd .f64 (polA u j) (j : Int)
  | 0, _ => bd_zero 0 (by decide) (by decide)
  | j + 1, hj => by
    have ih := polA_bd hu j (by omega)
    have hd : Lo .f64 (floatOfInt .f64 (15 - 2 * (j : Int))) 0 := by
      rcases (show j = 0 ∨ j = 1 ∨ j = 2 ∨ j = 3 ∨ j = 4 ∨ j = 5 ∨ j = 6 ∨ j = 7 by omega) with rfl | rfl | rfl | rfl | rfl | rfl | rfl | rfl
      · exact ⟨false, 8444249301319680, -49, by decide, -49, by decide, by decide, by decide⟩
      · exact ⟨false, 7318349394477056, -49, by decide, -49, by decide, by decide, by decide⟩
      · exact ⟨false, 6192449487634432, -49, by decide, -49, by decide, by decide, by decide⟩
      · exact ⟨false, 5066549580791808, -49, by decide, -49, by decide, by decide, by decide⟩
      · exact ⟨false, 7881299347898368, -50, by decide, -50, by decide, by decide, by decide⟩
      · exact ⟨false, 5629499534213120, -50, by decide, -50, by decide, by decide, by decide⟩
      · exact ⟨false, 6755399441055744, -51, by decide, -51, by decide, by decide, by decide⟩
      · exact ⟨false, 4503599627370496, -52, by decide, -52, by decide, by decide, by decide⟩
    have h1 : Bd .f64 _ 0 := Bd.quo bd_one hd (by decide) (by decide)
    have h2 := Bd.mul hu ih (by show (-1022 : Int) ≤ _; omega) (by show _ ≤ (1023 : Int); omega)
    have h3 := Bd.sub (h1.mono (by omega : (0 : Int) ≤ 0 + j)) h2 (by show (-1022 : Int) ≤ _; omega) (by show _ ≤ (1023 : Int); omega)
    exact Bd.mono h3 (by omega)
theorem slopeF_bd {t : Nat} (h : Bd .f64 t 0) : Bd .f64 (slopeF t) 9 := by
  have h1 := thF_bd h 3
  have h2 : Bd .f64 _ 0 := Bd.mul h1 h1 (by decide) (by decide)
  have h3 := polA_bd h2 8 (by decide)
  have h4 : Bd .f64 _ 8 := Bd.mul h1 h3 (by decide) (by decide)
  have h8 : Bd .f64 eight 3 := Bd.ofRung (by decide) (by decide) (by decide)
  have h5 : Bd .f64 _ 11 := Bd.mul h8 h4 (by decide) (by decide)
  have hr : Lo .f64 round 2 := ⟨false, 7074237752028440, -50, by decide, -50, by decide, by decide, by decide⟩
  exact Bd.quo h5 hr (by decide) (by decide)
theorem number_of_fin {b : Nat} (h : finB .f64 b = true) : ∃ s m, ∃ e : Int, double.read b = .number s m e := by
  unfold finB at h
  cases hr : FloatKind.f64.format.read b with
  | number s m e => exact ⟨s, m, e, hr⟩
  | infinity s => rw [hr] at h; cases h
  | nan s t => rw [hr] at h; cases h
/-- A zero is worth nothing alone. -/
theorem mag_zero {b : Nat} {s : Bool} {m : Nat} {e : Int} (hr : double.read b = .number s m e) (h : (FloatKind.f64.format.order b 0 == some .eq) = false) : m ≠ 0 := by
  rintro rfl
  have hz : double.read 0 = .number false 0 (-1074) := by decide
  have ho : FloatKind.f64.format.order b 0 = Datum.order (.number s 0 e) (.number false 0 (-1074)) := by
    show double.order b 0 = _
    unfold Format.order; rw [hr, hz]
  rw [ho, order_base _ _ _ _ _ _ (min e (-1074)) (by omega) (by omega), signed_zero, signed_zero, cmp_eq rfl] at h
  cases h
theorem angT_bd {y x : Nat} (hy : finB .f64 y = true) (hx : finB .f64 x = true) (hz : (FloatKind.f64.format.order y 0 == some .eq && FloatKind.f64.format.order x 0 == some .eq) = false) : Bd .f64 (angT (y % 2 ^ 63) (x % 2 ^ 63)) 0 := by
  obtain ⟨s, m, i, hr⟩ := number_of_fin hy
  obtain ⟨t, n, j, hr'⟩ := number_of_fin hx
  have ha : double.read (y % 2 ^ 63) = .number false m i := by rw [read_mod, hr]
  have hb : double.read (x % 2 ^ 63) = .number false n j := by rw [read_mod, hr']
  have hmn : m ≠ 0 ∨ n ≠ 0 := by
    rw [Bool.and_eq_false_iff] at hz
    rcases hz with h | h
    · exact .inl (mag_zero hr h)
    · exact .inr (mag_zero hr' h)
  have ho : FloatKind.f64.format.order (y % 2 ^ 63) (x % 2 ^ 63) = some (compare ((m * 2 ^ (i - min i j).toNat : Nat) : Int) ((n * 2 ^ (j - min i j).toNat : Nat) : Int)) := by
    show double.order _ _ = _
    unfold Format.order
    rw [ha, hb, order_base false false m n i j (min i j) (by omega) (by omega)]
    unfold signed
    simp only [Bool.false_eq_true, if_false, Nat.shiftLeft_eq]
  have hp1 : 0 < 2 ^ (i - min i j).toNat := Nat.pow_pos (by decide)
  have hp2 : 0 < 2 ^ (j - min i j).toNat := Nat.pow_pos (by decide)
  unfold angT
  cases hov : overB (y % 2 ^ 63) (x % 2 ^ 63) with
  | true =>
    unfold overB at hov
    rw [ho] at hov
    have hlt : n * 2 ^ (j - min i j).toNat < m * 2 ^ (i - min i j).toNat := by
      generalize n * 2 ^ (j - min i j).toNat = A at hov ⊢
      generalize m * 2 ^ (i - min i j).toNat = B at hov ⊢
      rcases Int.lt_trichotomy (B : Int) (A : Int) with h | h | h
      · rw [cmp_lt h] at hov; cases hov
      · rw [cmp_eq h] at hov; cases hov
      · omega
    have hm : m ≠ 0 := by rintro rfl; rw [Nat.zero_mul] at hlt; omega
    have hmin : min j i = min i j := by omega
    exact quo_one hb ha hm (by rw [hmin]; omega)
  | false =>
    unfold overB at hov
    rw [ho] at hov
    have hle : m * 2 ^ (i - min i j).toNat ≤ n * 2 ^ (j - min i j).toNat := by
      generalize n * 2 ^ (j - min i j).toNat = A at hov ⊢
      generalize m * 2 ^ (i - min i j).toNat = B at hov ⊢
      rcases Int.lt_trichotomy (B : Int) (A : Int) with h | h | h
      · omega
      · omega
      · rw [cmp_gt h] at hov; cases hov
    have hn : n ≠ 0 := by
      rintro rfl
      rw [Nat.zero_mul] at hle
      rcases hmn with h | h
      · have := Nat.mul_pos (Nat.pos_of_ne_zero h) hp1; omega
      · exact h rfl
    exact quo_one ha hb hn hle
theorem angW_bd {y x : Nat} (hy : finB .f64 (wi y) = true) (hx : finB .f64 (wi x) = true) (hz : (FloatKind.f64.format.order (wi y) 0 == some .eq && FloatKind.f64.format.order (wi x) 0 == some .eq) = false) : Bd .f64 (angW y x) 11 := by
  have h1 := slopeF_bd (angT_bd hy hx hz)
  have h2 : Bd .f64 (ang2 (wi y % 2 ^ 63) (wi x % 2 ^ 63)) 10 := by
    unfold ang2; split
    · exact Bd.sub (bd_quarter.mono (by decide)) h1 (by decide) (by decide)
    · exact h1.mono (by decide)
  have h3 : Bd .f64 (ang3 (wi y % 2 ^ 63) (wi x % 2 ^ 63) (wi x)) 11 := by
    unfold ang3; split
    · exact Bd.sub (bd_half.mono (by decide)) h2 (by decide) (by decide)
    · exact h2.mono (by decide)
  unfold angW ang4; split
  · exact h3.ng
  · exact h3
/-- The angle of a point, in turns, as a 32-bit number. -/
def angN (y x : Nat) : Nat :=
  if finB .f32 y && finB .f32 x then (if FloatKind.f64.format.order (wi y) 0 == some .eq && FloatKind.f64.format.order (wi x) 0 == some .eq then 0 else na (angW y x)) else qn .f32
theorem order_wi0 (x : Nat) : FloatKind.f64.format.order (wi x) 0 = FloatKind.f32.format.order x 0 := by
  have h0 : wi 0 = 0 := by decide
  have := order_wi x 0
  rw [h0] at this
  exact this
end Go.Proofs.Ythkklilfignmpaa.Fl
namespace Go.Proofs.Ythkklilfignmpaa.Fl
open Ieee
/-! ### logarithms: halving and doubling -/
def two : Nat := 4611686018427387904
def c15 : Nat := 4609434218613702656
def c075 : Nat := 4604930618986332160
/-- A number greater than 0 with all its 53 digits. -/
def Nrm (x m : Nat) (e : Int) : Prop := double.read x = .number false m e ∧ 2 ^ 52 ≤ m ∧ m < 2 ^ 53
theorem log2_full {m : Nat} (h1 : 2 ^ 52 ≤ m) (h2 : m < 2 ^ 53) : m.log2 = 52 := by
  have h0 : m ≠ 0 := by
    have : 0 < 2 ^ 52 := Nat.pow_pos (by decide)
    omega
  have a := (Nat.log2_lt h0 (k := 53)).2 h2
  have b := (Nat.le_log2 h0 (k := 52)).2 h1
  omega
theorem nrm_of_nearest {m : Nat} {e : Int} (h1 : 2 ^ 52 ≤ m) (h2 : m < 2 ^ 53) (h3 : -1000 ≤ e) (h4 : e ≤ 900) : Nrm (double.nearest false m e) m e := by
  have h0 : 0 < m := Nat.lt_of_lt_of_le (Nat.pow_pos (by decide)) h1
  have h := wide_exact false m e h0 h2 h3 h4
  rw [log2_full h1 h2] at h
  have e1 : e - ((52 - 52 : Nat) : Int) = e := by omega
  rw [e1, Nat.sub_self, Nat.shiftLeft_zero] at h
  exact ⟨h, h1, h2⟩
theorem read_two : double.read two = .number false 4503599627370496 (-51) := by decide
theorem read_c15 : double.read c15 = .number false 6755399441055744 (-52) := by decide
theorem read_c075 : double.read c075 = .number false 6755399441055744 (-53) := by decide
theorem nrm_dbl {x m : Nat} {e : Int} (h : Nrm x m e) (h3 : -1000 ≤ e) (h4 : e ≤ 800) : Nrm (ar .mul .f64 x two) m (e + 1) := by
  obtain ⟨hr, h1, h2⟩ := h
  have hw : floatBits .mul .f64 x two = some (double.nearest false (m * 2 ^ 52) (e + -51)) := by
    show double.mul x two = _
    unfold Format.mul
    rw [hr, read_two]
    have hC : (2 : Nat) ^ 52 = 4503599627370496 := by decide
    rw [hC]; rfl
  rw [ar_some hw, nearest_pow]
  have e1 : e + -51 + ((52 : Nat) : Int) = e + 1 := by omega
  rw [e1]
  exact nrm_of_nearest h1 h2 (by omega) (by omega)
theorem div_bits {x y : Nat} {s t : Bool} {m n : Nat} {i j : Int} {more : Nat} (hx : double.read x = .number s m i) (hy : double.read y = .number t n j) (hn : n ≠ 0) (hmore : (double.fractionBits + 2) + n.log2 - m.log2 = more) :
    floatBits .quo .f64 x y = some (double.write (.number (s ^^ t) (2 * ((m <<< more) / n) + ((m <<< more) % n != 0).toNat) (i - j - more - 1))) := by
  show double.div x y = _
  unfold Format.div
  rw [hx, hy]
  show Option.map double.write (if n = 0 then _ else _) = _
  rw [if_neg hn]
  simp only [hmore, Option.map_some]
theorem nrm_hlv {x m : Nat} {e : Int} (h : Nrm x m e) (h3 : -900 ≤ e) (h4 : e ≤ 800) : Nrm (ar .quo .f64 x two) m (e - 1) := by
  obtain ⟨hr, h1, h2⟩ := h
  have hl : (4503599627370496 : Nat).log2 = 52 := log2_full (by decide) (by decide)
  have hmore : (double.fractionBits + 2) + (4503599627370496 : Nat).log2 - m.log2 = 54 := by rw [hl, log2_full h1 h2]; rfl
  have hw := div_bits hr read_two (by decide) hmore
  have hsh : m <<< 54 = m * 4 * 4503599627370496 := by
    rw [Nat.shiftLeft_eq, show (2 : Nat) ^ 54 = 4 * 4503599627370496 by decide, Nat.mul_assoc]
  have hq : (m <<< 54) / 4503599627370496 = m * 4 := by rw [hsh]; exact Nat.mul_div_cancel _ (by decide)
  have hm : (m <<< 54) % 4503599627370496 = 0 := by rw [hsh]; exact Nat.mul_mod_left _ _
  rw [hq, hm] at hw
  have e2 : 2 * (m * 4) + (0 != 0).toNat = m * 2 ^ 3 := by
    show 2 * (m * 4) + 0 = m * 8; omega
  rw [e2] at hw
  have hw' : floatBits .quo .f64 x two = some (double.nearest false (m * 2 ^ 3) (e - -51 - ((54 : Nat) : Int) - 1)) := hw
  rw [ar_some hw', nearest_pow]
  have e1 : e - -51 - ((54 : Nat) : Int) - 1 + ((3 : Nat) : Int) = e - 1 := by omega
  rw [e1]
  exact nrm_of_nearest h1 h2 (by omega) (by omega)
/-- Against a constant with its own place. -/
theorem ord_nrm {x m c n : Nat} {e p : Int} (h : Nrm x m e) (hc : double.read c = .number false n p) (hn1 : 2 ^ 52 ≤ n) (hn2 : n < 2 ^ 53) :
    double.order x c = some (if e < p then .lt else if p < e then .gt else compare (m : Int) (n : Int)) := by
  obtain ⟨hr, h1, h2⟩ := h
  unfold Format.order
  rw [hr, hc, order_base false false m n e p (min e p) (by omega) (by omega)]
  unfold signed
  simp only [Bool.false_eq_true, if_false, Nat.shiftLeft_eq]
  have h53 : (2 : Nat) ^ 53 = 2 * 2 ^ 52 := by decide
  rw [h53] at h2 hn2
  generalize (2 : Nat) ^ 52 = B at *
  by_cases hlt : e < p
  · rw [if_pos hlt]
    obtain ⟨d, hd⟩ : ∃ d : Nat, p = e + ((d + 1 : Nat) : Int) := ⟨(p - e).toNat - 1, by omega⟩
    have e1 : (e - min e p).toNat = 0 := by omega
    have e2 : (p - min e p).toNat = d + 1 := by omega
    rw [e1, e2, Nat.pow_zero, Nat.mul_one, Nat.pow_succ]
    have hp : 1 ≤ 2 ^ d := Nat.pow_pos (by decide)
    have h5 : n * (1 * 2) ≤ n * (2 ^ d * 2) := Nat.mul_le_mul_left _ (Nat.mul_le_mul_right _ hp)
    rw [cmp_lt (by omega)]
  · rw [if_neg hlt]
    by_cases hgt : p < e
    · rw [if_pos hgt]
      obtain ⟨d, hd⟩ : ∃ d : Nat, e = p + ((d + 1 : Nat) : Int) := ⟨(e - p).toNat - 1, by omega⟩
      have e1 : (e - min e p).toNat = d + 1 := by omega
      have e2 : (p - min e p).toNat = 0 := by omega
      rw [e1, e2, Nat.pow_zero, Nat.mul_one, Nat.pow_succ]
      have hp : 1 ≤ 2 ^ d := Nat.pow_pos (by decide)
      have h5 : m * (1 * 2) ≤ m * (2 ^ d * 2) := Nat.mul_le_mul_left _ (Nat.mul_le_mul_right _ hp)
      rw [cmp_gt (by omega)]
    · rw [if_neg hgt]
      have he : e = p := by omega
      subst he
      have e1 : (e - min e e).toNat = 0 := by omega
      rw [e1, Nat.pow_zero, Nat.mul_one, Nat.mul_one]
theorem ge15_nrm {x m : Nat} {e : Int} (h : Nrm x m e) : geB x c15 = (decide (-52 < e) || (decide (e = -52) && decide (6755399441055744 ≤ m))) := by
  unfold geB
  rw [show FloatKind.f64.format.order x c15 = double.order x c15 from rfl, ord_nrm h read_c15 (by decide) (by decide)]
  by_cases h1 : e < -52
  · rw [if_pos h1, decide_eq_false (by omega), decide_eq_false (by omega)]; rfl
  · rw [if_neg h1]
    by_cases h2 : -52 < e
    · rw [if_pos h2, decide_eq_true h2]; rfl
    · rw [if_neg h2, decide_eq_false h2, decide_eq_true (by omega : e = -52)]
      rcases Int.lt_trichotomy (m : Int) (6755399441055744 : Nat) with h3 | h3 | h3
      · rw [cmp_lt h3, decide_eq_false (by omega)]; rfl
      · rw [cmp_eq h3, decide_eq_true (by omega)]; rfl
      · rw [cmp_gt h3, decide_eq_true (by omega)]; rfl
theorem lt075_nrm {x m : Nat} {e : Int} (h : Nrm x m e) : ltB x c075 = (decide (e < -53) || (decide (e = -53) && decide (m < 6755399441055744))) := by
  unfold ltB
  rw [show FloatKind.f64.format.order x c075 = double.order x c075 from rfl, ord_nrm h read_c075 (by decide) (by decide)]
  by_cases h1 : e < -53
  · rw [if_pos h1, decide_eq_true h1]; rfl
  · rw [if_neg h1, decide_eq_false h1]
    by_cases h2 : -53 < e
    · rw [if_pos h2, decide_eq_false (by omega)]; rfl
    · rw [if_neg h2, decide_eq_true (by omega : e = -53)]
      rcases Int.lt_trichotomy (m : Int) (6755399441055744 : Nat) with h3 | h3 | h3
      · rw [cmp_lt h3, decide_eq_true (by omega)]; rfl
      · rw [cmp_eq h3, decide_eq_false (by omega)]; rfl
      · rw [cmp_gt h3, decide_eq_false (by omega)]; rfl
/-- Halved j times. -/
def hF (x : Nat) : Nat → Nat
  | 0 => x
  | j + 1 => ar .quo .f64 (hF x j) two
def hStop (x j : Nat) : Prop := (∀ i, i < j → geB (hF x i) c15 = true) ∧ geB (hF x j) c15 = false
/-- Doubled j times. -/
def dF (x : Nat) : Nat → Nat
  | 0 => x
  | j + 1 => ar .mul .f64 (dF x j) two
def dStop (x j : Nat) : Prop := (∀ i, i < j → ltB (dF x i) c075 = true) ∧ ltB (dF x j) c075 = false
theorem hF_nrm {x m : Nat} {e : Int} (h : Nrm x m e) (h3 : -300 ≤ e) (h4 : e ≤ 300) : ∀ j : Nat, j ≤ 600 → Nrm (hF x j) m (e - j)
  | 0, _ => by rw [Int.natCast_zero, Int.sub_zero]; exact h
  | j + 1, hj => by
    have h5 := nrm_hlv (hF_nrm h h3 h4 j (by omega)) (by omega) (by omega)
    have e1 : e - ((j + 1 : Nat) : Int) = e - (j : Int) - 1 := by omega
    rw [e1]; exact h5
theorem dF_nrm {x m : Nat} {e : Int} (h : Nrm x m e) (h3 : -300 ≤ e) (h4 : e ≤ 150) : ∀ j : Nat, j ≤ 600 → Nrm (dF x j) m (e + j)
  | 0, _ => by rw [Int.natCast_zero, Int.add_zero]; exact h
  | j + 1, hj => by
    have h5 := nrm_dbl (dF_nrm h h3 h4 j (by omega)) (by omega) (by omega)
    have e1 : e + ((j + 1 : Nat) : Int) = e + (j : Int) + 1 := by omega
    rw [e1]; exact h5
theorem first_stop (p : Nat → Bool) : ∀ n, (∃ j, j < n ∧ (∀ i, i < j → p i = true) ∧ p j = false) ∨ ∀ i, i < n → p i = true := by
  intro n
  induction n with
  | zero => exact .inr (fun i hi => by omega)
  | succ n ih =>
    rcases ih with ⟨j, hj, h⟩ | h
    · exact .inl ⟨j, by omega, h⟩
    · cases hg : p n with
      | false => exact .inl ⟨n, by omega, h, hg⟩
      | true => exact .inr (fun i hi => by
          by_cases e : i = n
          · subst e; exact hg
          · exact h i (by omega))
/-- How often halved, how often doubled, and what is left then. -/
theorem log_steps {x m : Nat} {e : Int} (h : Nrm x m e) (h3 : -300 ≤ e) (h4 : e ≤ 150) :
    ∃ j k, hStop x j ∧ dStop (hF x j) k ∧ j ≤ 300 ∧ k ≤ 300 ∧ ∃ e', Nrm (dF (hF x j) k) m e' ∧ -53 ≤ e' ∧ e' ≤ -52 := by
  have hj : ∃ j, hStop x j ∧ j ≤ 300 ∧ e - (j : Int) ≤ -52 ∧ (0 < j → -53 ≤ e - (j : Int)) := by
    rcases first_stop (fun i => geB (hF x i) c15) 301 with ⟨j, hlt, h1, h2⟩ | h1
    · refine ⟨j, ⟨h1, h2⟩, by omega, ?_, ?_⟩
      · have hn := ge15_nrm (hF_nrm h h3 (by omega) j (by omega))
        replace h2 := hn.symm.trans h2
        have := of_decide_eq_false (Bool.or_eq_false_iff.1 h2).1
        omega
      · intro hp
        have h5 := h1 (j - 1) (by omega)
        have hn := ge15_nrm (hF_nrm h h3 (by omega) (j - 1) (by omega))
        replace h5 := hn.symm.trans h5
        rcases Bool.or_eq_true_iff.1 h5 with h6 | h6
        · have := of_decide_eq_true h6; omega
        · have := of_decide_eq_true (Bool.and_eq_true_iff.1 h6).1; omega
    · exfalso
      have h5 := h1 300 (by omega)
      have hn := ge15_nrm (hF_nrm h h3 (by omega) 300 (by omega))
      replace h5 := hn.symm.trans h5
      rcases Bool.or_eq_true_iff.1 h5 with h6 | h6
      · have := of_decide_eq_true h6; omega
      · have := of_decide_eq_true (Bool.and_eq_true_iff.1 h6).1; omega
  obtain ⟨j, hs, hj1, hj2, hj3⟩ := hj
  have hn := hF_nrm h h3 (by omega) j (by omega)
  have hlo : -300 ≤ e - (j : Int) := by
    rcases Nat.eq_zero_or_pos j with h0 | h0
    · subst h0; omega
    · have := hj3 h0; omega
  have hk : ∃ k, dStop (hF x j) k ∧ k ≤ 300 ∧ -53 ≤ e - (j : Int) + (k : Int) ∧ (0 < k → e - (j : Int) + (k : Int) ≤ -52) := by
    rcases first_stop (fun i => ltB (dF (hF x j) i) c075) 301 with ⟨k, hlt, h1, h2⟩ | h1
    · refine ⟨k, ⟨h1, h2⟩, by omega, ?_, ?_⟩
      · have hm := lt075_nrm (dF_nrm hn hlo (by omega) k (by omega))
        replace h2 := hm.symm.trans h2
        have := of_decide_eq_false (Bool.or_eq_false_iff.1 h2).1
        omega
      · intro hp
        have h5 := h1 (k - 1) (by omega)
        have hm := lt075_nrm (dF_nrm hn hlo (by omega) (k - 1) (by omega))
        replace h5 := hm.symm.trans h5
        rcases Bool.or_eq_true_iff.1 h5 with h6 | h6
        · have := of_decide_eq_true h6; omega
        · have := of_decide_eq_true (Bool.and_eq_true_iff.1 h6).1; omega
    · exfalso
      have h5 := h1 300 (by omega)
      have hm := lt075_nrm (dF_nrm hn hlo (by omega) 300 (by omega))
      replace h5 := hm.symm.trans h5
      rcases Bool.or_eq_true_iff.1 h5 with h6 | h6
      · have := of_decide_eq_true h6; omega
      · have := of_decide_eq_true (Bool.and_eq_true_iff.1 h6).1; omega
  obtain ⟨k, hks, hk1, hk2, hk3⟩ := hk
  refine ⟨j, k, hs, hks, hj1, hk1, e - (j : Int) + (k : Int), dF_nrm hn hlo (by omega) k (by omega), hk2, ?_⟩
  rcases Nat.eq_zero_or_pos k with h0 | h0
  · subst h0; omega
  · exact hk3 h0
end Go.Proofs.Ythkklilfignmpaa.Fl
namespace Go.Proofs.Ythkklilfignmpaa.Fl
open Ieee
/-! ### the logarithm -/
def lnc : Nat := 4604418534313441775
def polL (u : Nat) : Nat → Nat
  | 0 => 0
  | j + 1 => ar .add .f64 (ar .quo .f64 one (floatOfInt .f64 (25 - 2 * (j : Int)))) (ar .mul .f64 u (polL u j))
def lgS (z : Nat) : Nat := ar .quo .f64 (ar .sub .f64 z one) (ar .add .f64 z one)
def lgQ (z : Nat) : Nat := ar .mul .f64 two (ar .mul .f64 (lgS z) (polL (ar .mul .f64 (lgS z) (lgS z)) 13))
/-- The logarithm of z, doubled n times. -/
def lgF (z : Nat) (n : Int) : Nat := ar .add .f64 (lgQ z) (ar .mul .f64 (floatOfInt .f64 n) lnc)
theorem plus_one {y : Nat} (hy : NN y) (hb : Bd .f64 y 1000) : Lo .f64 (ar .add .f64 y one) 0 := by
  obtain ⟨t, n, j, hr, hs⟩ := hy
  have hone : double.read one = .number false 4503599627370496 (-52) := by decide
  have hbd := Bd.add hb (bd_one.mono (by decide : (0 : Int) ≤ 1000)) (by decide) (by decide)
  have hnn : signed t n (j - min j (-52)).toNat = ((n * 2 ^ (j - min j (-52)).toNat : Nat) : Int) := by
    rcases hs with rfl | rfl
    · unfold signed; simp only [Bool.false_eq_true, if_false, Nat.shiftLeft_eq]
    · rw [signed_zero]; simp
  have hT : signed t n (j - min j (-52)).toNat + signed false 4503599627370496 (-52 - min j (-52)).toNat = ((4503599627370496 * 2 ^ (-52 - min j (-52)).toNat + n * 2 ^ (j - min j (-52)).toNat : Nat) : Int) := by
    rw [hnn]; unfold signed; simp only [Bool.false_eq_true, if_false, Nat.shiftLeft_eq]; omega
  have hbits : floatBits .add .f64 y one = some (double.nearest false (4503599627370496 * 2 ^ (-52 - min j (-52)).toNat + n * 2 ^ (j - min j (-52)).toNat) (min j (-52))) := by
    show double.add y one = _
    unfold Format.add
    rw [hone, hr]
    show some (double.write (.number (if signed t n (j - min j (-52)).toNat + signed false 4503599627370496 (-52 - min j (-52)).toNat = 0 then t && false else decide (signed t n (j - min j (-52)).toNat + signed false 4503599627370496 (-52 - min j (-52)).toNat < 0)) (signed t n (j - min j (-52)).toNat + signed false 4503599627370496 (-52 - min j (-52)).toNat).natAbs (min j (-52)))) = _
    rw [hT]
    have hp : 0 < 2 ^ (-52 - min j (-52)).toNat := Nat.pow_pos (by decide)
    rw [if_neg (by omega), decide_eq_false (by omega), Int.natAbs_natCast]; rfl
  rw [ar_some hbits] at hbd ⊢
  have hge := nearest_rung_ge false (4503599627370496 * 2 ^ (-52 - min j (-52)).toNat + n * 2 ^ (j - min j (-52)).toNat) (min j (-52)) 0
    ⟨min j (-52), by omega, by omega, by
      have e1 : (min j (-52) - min j (-52)).toNat = 0 := by omega
      have e2 : (0 - min j (-52)).toNat = 52 + (-52 - min j (-52)).toNat := by omega
      have hC : (2 : Nat) ^ 52 = 4503599627370496 := by decide
      rw [e1, e2, Nat.pow_zero, Nat.mul_one, Nat.pow_add, hC]; omega⟩ (by decide) (by decide)
  obtain ⟨s', m', e', hr', _⟩ := hbd
  replace hr' : double.read _ = .number s' m' e' := hr'
  exact ⟨s', m', e', hr', read_ge hge hr' (by decide)⟩
theorem polL_bd {u : Nat} (hu : Bd .f64 u 4) : ∀ j : Nat, j ≤ 13 → Bd .f64 (polL u j) (5 * (j : Int))
  | 0, _ => bd_zero 0 (by decide) (by decide)
  | j + 1, hj => by
    have ih := polL_bd hu j (by omega)
    have hd : Lo .f64 (floatOfInt .f64 (25 - 2 * (j : Int))) 0 := by
      have hx : ∀ n : Nat, 1 ≤ n → n < 26 → Lo .f64 (floatOfInt .f64 (n : Int)) 0 := by
        intro n h1 h2
        have hw := wide_exact false n 0 (by omega) (by have : (26 : Nat) < 2 ^ 53 := by decide
                                                       omega) (by decide) (by decide)
        have hf : floatOfInt .f64 (n : Int) = double.nearest false n 0 := by
          have : decide ((n : Int) < 0) = false := decide_eq_false (by omega)
          show double.nearest (decide ((n : Int) < 0)) (n : Int).natAbs 0 = _
          rw [this, Int.natAbs_natCast]
        rw [hf]
        refine ⟨false, _, _, hw, 0 - ((52 - n.log2 : Nat) : Int), by omega, by omega, ?_⟩
        have e1 : (0 - ((52 - n.log2 : Nat) : Int) - (0 - ((52 - n.log2 : Nat) : Int))).toNat = 0 := by omega
        have e2 : (0 - (0 - ((52 - n.log2 : Nat) : Int))).toNat = 52 - n.log2 := by omega
        rw [e1, e2, Nat.pow_zero, Nat.mul_one, Nat.shiftLeft_eq]
        have := Nat.mul_le_mul_right (2 ^ (52 - n.log2)) h1
        omega
      have e : (25 - 2 * (j : Int)) = ((25 - 2 * j : Nat) : Int) := by omega
      rw [e]; exact hx _ (by omega) (by omega)
    have h1 : Bd .f64 _ 0 := Bd.quo bd_one hd (by decide) (by decide)
    have h2 := Bd.mul hu ih (by show (-1022 : Int) ≤ _; omega) (by show _ ≤ (1023 : Int); omega)
    have h3 := Bd.add (h1.mono (by omega : (0 : Int) ≤ 4 + 5 * j)) h2 (by show (-1022 : Int) ≤ _; omega) (by show _ ≤ (1023 : Int); omega)
    exact Bd.mono h3 (by omega)
theorem nrm_bd {z m : Nat} {e : Int} (h : Nrm z m e) (h2 : e ≤ -52) (h3 : -53 ≤ e) : Bd .f64 z 1 := by
  obtain ⟨hr, _, hm⟩ := h
  refine ⟨false, m, e, hr, e, by omega, by omega, ?_⟩
  have e1 : (e - e).toNat = 0 := by omega
  rw [e1, Nat.pow_zero, Nat.mul_one]
  exact Nat.le_trans (Nat.le_of_lt hm) (Nat.pow_le_pow_right (by decide) (by omega))
theorem int_bd {n : Int} (h : n.natAbs ≤ 1000) : Bd .f64 (floatOfInt .f64 n) 10 := by
  show Bd .f64 (FloatKind.f64.format.write (.number (decide (n < 0)) n.natAbs 0)) 10
  refine Bd.write (k := .f64) ⟨0, by decide, by decide, ?_⟩ (by decide) (by decide)
  have : (2 : Nat) ^ (10 - (0 : Int)).toNat = 1024 := by decide
  rw [this]
  show n.natAbs * 2 ^ 0 ≤ 1024
  omega
theorem lgF_bd {z m : Nat} {e n : Int} (h : Nrm z m e) (h2 : e ≤ -52) (h3 : -53 ≤ e) (hn : n.natAbs ≤ 1000) : Bd .f64 (lgF z n) 70 := by
  have hb := nrm_bd h h2 h3
  have hlo := plus_one ⟨false, m, e, h.1, .inl rfl⟩ (hb.mono (by decide))
  have hsub : Bd .f64 _ 2 := Bd.sub hb (bd_one.mono (by decide : (0 : Int) ≤ 1)) (by decide) (by decide)
  have hs : Bd .f64 (lgS z) 2 := Bd.quo hsub hlo (by decide) (by decide)
  have hu : Bd .f64 _ 4 := Bd.mul hs hs (by decide) (by decide)
  have hp : Bd .f64 _ 65 := polL_bd hu 13 (by decide)
  have h1 : Bd .f64 _ 67 := Bd.mul hs hp (by decide) (by decide)
  have htwo : Bd .f64 two 1 := Bd.ofRung (by decide) (by decide) (by decide)
  have hq : Bd .f64 (lgQ z) 68 := Bd.mul htwo h1 (by decide) (by decide)
  have hl : Bd .f64 lnc 0 := Bd.ofRung (by decide) (by decide) (by decide)
  have hk : Bd .f64 _ 10 := Bd.mul (int_bd hn) hl (by decide) (by decide)
  have h9 : Bd .f64 (lgF z n) 69 := Bd.add hq (hk.mono (by decide)) (by decide) (by decide)
  exact h9.mono (by decide)
end Go.Proofs.Ythkklilfignmpaa.Fl
namespace Go.Proofs.Ythkklilfignmpaa.Fl
open Ieee
theorem nrm_wi {x m : Nat} {e : Int} (hr : single.read x = .number false m e) (hm : m < 2 ^ 24) (h1 : -149 ≤ e) (h2 : e ≤ 104) (h0 : m ≠ 0) : ∃ M E, Nrm (wi x) M E ∧ -300 ≤ E ∧ E ≤ 150 := by
  have h24 : (2 : Nat) ^ 24 < 2 ^ 53 := Nat.pow_lt_pow_right (by decide) (by decide)
  have hm53 : m < 2 ^ 53 := by omega
  have hw := wide_exact false m e (by omega) hm53 (by omega) (by omega)
  have hn : isN .f32 x = false := by show (single.read x).isNaN = false; rw [hr]; rfl
  have hwi : wi x = double.nearest false m e := by
    unfold wi
    rw [cn_of_not hn]
    unfold floatToFloatBits
    rw [if_neg (by decide), show FloatKind.f32.decode x = .number false m e from hr]
    simp only []
    have hw' : FloatKind.f64.decode (FloatKind.f64.encode (.number false m e)) = .number false (m <<< (52 - m.log2)) (e - (52 - m.log2 : Nat)) := hw
    rw [hw']
    rfl
  have hL : m.log2 ≤ 52 := by
    have := (Nat.log2_lt h0 (k := 53)).2 hm53
    omega
  have hlo : 2 ^ m.log2 ≤ m := Nat.log2_self_le h0
  have hhi : m < 2 ^ (m.log2 + 1) := Nat.lt_log2_self
  refine ⟨m <<< (52 - m.log2), e - (52 - m.log2 : Nat), ⟨by rw [hwi]; exact hw, ?_, ?_⟩, by omega, by omega⟩
  · rw [Nat.shiftLeft_eq]
    calc 2 ^ 52 = 2 ^ m.log2 * 2 ^ (52 - m.log2) := by rw [← Nat.pow_add]; congr 1; omega
      _ ≤ _ := Nat.mul_le_mul_right _ hlo
  · rw [Nat.shiftLeft_eq]
    calc m * 2 ^ (52 - m.log2) < 2 ^ (m.log2 + 1) * 2 ^ (52 - m.log2) := Nat.mul_lt_mul_of_pos_right hhi (Nat.pow_pos (by decide))
      _ = 2 ^ 53 := by rw [← Nat.pow_add]; congr 1; omega
theorem nrm_nan {x m : Nat} {e : Int} (h : Nrm x m e) : isN .f64 x = false := by
  show (double.read x).isNaN = false
  rw [h.1]; rfl
theorem nrm_zero {x m : Nat} {e : Int} (h : Nrm x m e) : FloatKind.f64.format.order x 0 = some .gt := by
  obtain ⟨hr, h1, _⟩ := h
  show double.order x 0 = _
  unfold Format.order
  rw [hr, show double.read 0 = .number false 0 (-1074) by decide, order_base false false m 0 e (-1074) (min e (-1074)) (by omega) (by omega)]
  unfold signed
  simp only [Bool.false_eq_true, if_false, Nat.shiftLeft_eq, Nat.zero_mul]
  have hm : 0 < m := Nat.lt_of_lt_of_le (Nat.pow_pos (by decide)) h1
  have := Nat.mul_pos hm (Nat.pow_pos (n := (e - min e (-1074)).toNat) (by decide : 0 < 2))
  rw [cmp_gt (by omega)]
theorem nrm_max {x m : Nat} {e : Int} (h : Nrm x m e) (h2 : e ≤ 900) : FloatKind.f64.format.order x 9218868437227405311 = some .lt := by
  have hm : double.read 9218868437227405311 = .number false 9007199254740991 971 := by decide
  rw [show FloatKind.f64.format.order x 9218868437227405311 = double.order x 9218868437227405311 from rfl, ord_nrm h hm (by decide) (by decide), if_pos (by omega)]
/-- What a 32-bit number can be for a logarithm. -/
theorem log_cases (x : Nat) (hx : x < 2 ^ 32) : isN .f32 x = true ∨ FloatKind.f32.format.order x 0 = some .lt ∨ FloatKind.f32.format.order x 0 = some .eq ∨ x = 2139095040 ∨
    (FloatKind.f32.format.order x 0 = some .gt ∧ finB .f32 x = true ∧ ∃ m e, Nrm (wi x) m e ∧ -300 ≤ e ∧ e ≤ 150) := by
  have hz : single.read 0 = .number false 0 (-149) := by decide
  rcases read_single x with ⟨s, m, e, hr, hm, h1, h2⟩ | ⟨s, hr⟩ | ⟨s, t, hr⟩
  · have ho : FloatKind.f32.format.order x 0 = some (compare (signed s m (e - min e (-149)).toNat) (signed false 0 (-149 - min e (-149)).toNat)) := by
      show single.order x 0 = _
      unfold Format.order
      rw [hr, hz, order_base s false m 0 e (-149) (min e (-149)) (by omega) (by omega)]
    rw [signed_zero] at ho
    by_cases h0 : m = 0
    · subst h0
      rw [signed_zero] at ho
      exact .inr (.inr (.inl ho))
    · have hp : 0 < m * 2 ^ (e - min e (-149)).toNat := Nat.mul_pos (by omega) (Nat.pow_pos (by decide))
      cases s with
      | true =>
        refine .inr (.inl ?_)
        rw [ho]
        unfold signed
        simp only [if_true, Nat.shiftLeft_eq]
        rw [cmp_lt (by omega)]
      | false =>
        refine .inr (.inr (.inr (.inr ⟨?_, ?_, nrm_wi hr hm h1 h2 h0⟩)))
        · rw [ho]
          unfold signed
          simp only [Bool.false_eq_true, if_false, Nat.shiftLeft_eq]
          rw [cmp_gt (by omega)]
        · unfold finB; rw [show FloatKind.f32.format.read x = .number false m e from hr]
  · cases s with
    | true =>
      refine .inr (.inl ?_)
      show single.order x 0 = _
      unfold Format.order
      rw [hr, hz]; rfl
    | false =>
      refine .inr (.inr (.inr (.inl ?_)))
      unfold Format.read at hr
      have e1 : single.signWeight = 2147483648 := by decide
      have e2 : single.infRung = 2139095040 := by decide
      rw [e1, e2] at hr
      simp only [] at hr
      have h32 : (2 : Nat) ^ 32 = 4294967296 := by decide
      rw [h32] at hx
      split at hr
      · cases hr
      · split at hr
        · cases hr
        · split at hr
          · rename_i h3
            have hs : (x / 2147483648 % 2 == 1) = false := by injection hr
            have hs' : ¬ (x / 2147483648 % 2 = 1) := by intro h; rw [h] at hs; cases hs
            first | omega | (have := of_decide_eq_true h3; omega) | (have := eq_of_beq h3; omega)
          · cases hr
  · exact .inl (by show (single.read x).isNaN = true; rw [hr]; rfl)
theorem wi_pinf : wi 2139095040 = 9218868437227405312 := by decide
theorem na_pinf : na 9218868437227405312 = 2139095040 ∧ naOk 9218868437227405312 = true := by decide
theorem na_ninf : na 18442240474082181120 = 4286578688 ∧ naOk 18442240474082181120 = true := by decide
end Go.Proofs.Ythkklilfignmpaa.Fl
