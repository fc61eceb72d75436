/-
  Turns: the integer in a number and what is left of it (no program in it).
-/
import Derived.Test.YtfbdmhkmkmbipaaFloMore
namespace Go.Proofs.Ytfbdmhkmkmbipaa.Fl
open Ieee
theorem read_c52 : double.read 4841369599423283200 = .number false 4503599627370496 0 := by decide
theorem read_n52 : double.read 14064741636278059008 = .number true 4503599627370496 0 := by decide
/-- Too great for turns. -/
def bigB (y : Nat) : Bool := double.order (y % 2 ^ 63) 4841369599423283200 == some .gt || double.order (y % 2 ^ 63) 4841369599423283200 == some .eq

theorem cmp_lt {a b : Int} (h : a < b) : compare a b = .lt := by simp only [compare, compareOfLessAndEq]; rw [if_pos h]
theorem cmp_gt {a b : Int} (h : b < a) : compare a b = .gt := by
  simp only [compare, compareOfLessAndEq]; rw [if_neg (by omega), if_neg (by omega)]
theorem cmp_eq {a b : Int} (h : a = b) : compare a b = .eq := by
  simp only [compare, compareOfLessAndEq]; rw [if_neg (by omega), if_pos h]
theorem cmp_neg (a b : Int) : compare (-a) (-b) = compare b a := by
  rcases Int.lt_trichotomy a b with h | h | h
  · rw [cmp_gt (a := -a) (b := -b) (by omega), cmp_gt h]
  · rw [cmp_eq (a := -a) (b := -b) (by omega), cmp_eq h.symm]
  · rw [cmp_lt (a := -a) (b := -b) (by omega), cmp_lt h]

theorem big_two (y : Nat) : ((double.order y 4841369599423283200 == some .gt || double.order y 4841369599423283200 == some .eq) || (double.order y 14064741636278059008 == some .lt || double.order y 14064741636278059008 == some .eq)) = bigB y := by
  unfold bigB Format.order
  rw [read_c52, read_n52, read_mod]
  cases hr : double.read y with
  | infinity s => cases s <;> rfl
  | nan s t => rfl
  | number s m e =>
    simp only []
    have hb1 : min e 0 ≤ e := by omega
    have hb2 : min e 0 ≤ 0 := by omega
    rw [order_base s false _ _ e 0 (min e 0) hb1 hb2, order_base s true _ _ e 0 (min e 0) hb1 hb2, order_base false false _ _ e 0 (min e 0) hb1 hb2]
    have hC : (0 : Int) < signed false 4503599627370496 (0 - min e 0).toNat := by
      unfold signed
      have : 0 < 4503599627370496 * 2 ^ (0 - min e 0).toNat := Nat.mul_pos (by decide) (Nat.pow_pos (by decide))
      simp only [Bool.false_eq_true, if_false, Nat.shiftLeft_eq]
      omega
    have hneg : ∀ m u, signed true m u = - signed false m u := by intro m u; unfold signed; simp
    have hnn : ∀ m u, 0 ≤ signed false m u := by intro m u; show (0 : Int) ≤ ((m <<< u : Nat) : Int); exact Int.natCast_nonneg _
    rw [hneg]
    generalize hCg : signed false 4503599627370496 (0 - min e 0).toNat = C at hC
    have hM := hnn m (e - min e 0).toNat
    cases s with
    | false =>
      generalize signed false m (e - min e 0).toNat = M at hM
      rw [cmp_gt (a := M) (b := -C) (by omega)]
      generalize compare M C = o
      cases o <;> rfl
    | true =>
      rw [hneg]
      generalize signed false m (e - min e 0).toNat = M at hM
      rw [cmp_lt (a := -M) (b := C) (by omega), cmp_neg]
      rcases Int.lt_trichotomy M C with h | h | h
      · rw [cmp_gt h, cmp_lt h]; rfl
      · rw [cmp_eq h, cmp_eq h.symm]; rfl
      · rw [cmp_gt h, cmp_lt h]; rfl
theorem not_big {y : Nat} (hf : finB .f64 y = true) (hb : bigB y = false) : Bd .f64 y 52 := by
  unfold bigB Format.order at hb
  rw [read_c52, read_mod] at hb
  unfold finB at hf
  cases hr : FloatKind.f64.format.read y with
  | infinity s => rw [hr] at hf; cases hf
  | nan s t => rw [hr] at hf; cases hf
  | number s m e =>
    refine ⟨s, m, e, hr, ?_⟩
    rw [show double.read y = .number s m e from hr] at hb
    simp only [] at hb
    have hb1 : min e 0 ≤ e := by omega
    have hb2 : min e 0 ≤ 0 := by omega
    rw [order_base false false _ _ e 0 (min e 0) hb1 hb2] at hb
    unfold signed at hb
    simp only [Bool.false_eq_true, if_false, Nat.shiftLeft_eq] at hb
    refine ⟨min e 0, hb1, by omega, ?_⟩
    have e1 : (52 - min e 0).toNat = 52 + (0 - min e 0).toNat := by omega
    rw [e1, Nat.pow_add]
    generalize m * 2 ^ (e - min e 0).toNat = M at hb
    have hCC : (2 : Nat) ^ 52 = 4503599627370496 := by decide
    rw [hCC]
    generalize 4503599627370496 * 2 ^ (0 - min e 0).toNat = C at hb
    rcases Int.lt_trichotomy (M : Int) (C : Int) with h | h | h
    · omega
    · rw [cmp_eq h] at hb; cases hb
    · rw [cmp_gt h] at hb; cases hb
theorem Bd.not_big {y : Nat} {n : Int} (h : Bd .f64 y n) (hn : n < 52) : bigB y = false := by
  obtain ⟨s, m, e, hr, hv⟩ := h
  unfold bigB Format.order
  rw [read_c52, read_mod, show double.read y = .number s m e from hr]
  simp only []
  have hlt : m * 2 ^ (e - min e (min n 0)).toNat < 4503599627370496 * 2 ^ (0 - min e (min n 0)).toNat := by
    have h1 := hv.at (c := min e (min n 0)) (by omega) (by omega)
    refine Nat.lt_of_le_of_lt h1 ?_
    have hCC : (4503599627370496 : Nat) = 2 ^ 52 := by decide
    rw [hCC, ← Nat.pow_add]
    exact Nat.pow_lt_pow_right (by decide) (by omega)
  rw [order_base false false _ _ e 0 (min e (min n 0)) (by omega) (by omega)]
  unfold signed
  simp only [Bool.false_eq_true, if_false, Nat.shiftLeft_eq]
  generalize m * 2 ^ (e - min e (min n 0)).toNat = M at hlt
  generalize 4503599627370496 * 2 ^ (0 - min e (min n 0)).toNat = C at hlt
  rw [cmp_lt (by omega)]; rfl
theorem Bd.fin {k : FloatKind} {y : Nat} {n : Int} (h : Bd k y n) : finB k y = true := by
  obtain ⟨s, m, e, hr, _⟩ := h
  unfold finB; rw [hr]

/-! ### the integer in a number -/
def ti (y : Nat) : Int := ((double.read y).toInt .zero).getD 0
theorem cut_trunc (s : Bool) (n drop : Nat) : Toward.zero.cut s n drop = n / 2 ^ drop := by
  unfold Toward.cut
  simp only [Bool.toNat_false, Nat.add_zero, Nat.one_shiftLeft]
  by_cases h : drop ≤ n.log2 + 2
  · rw [Nat.min_eq_left h]
  · rw [Nat.min_eq_right (by omega)]
    have hn := log2_pow_lt n
    have h1 : n < 2 ^ (n.log2 + 2) := Nat.lt_of_lt_of_le hn (Nat.pow_le_pow_right (by decide) (by omega))
    have h2 : n < 2 ^ drop := Nat.lt_of_lt_of_le h1 (Nat.pow_le_pow_right (by decide) (by omega))
    rw [Nat.div_eq_of_lt h1, Nat.div_eq_of_lt h2]
theorem ti_eq {y m : Nat} {s : Bool} {e : Int} (h : double.read y = .number s m e) : (double.read y).toInt .zero = some (signed s (m * 2 ^ e.toNat / 2 ^ (-e).toNat) 0) := by
  rw [h]
  show some (signed s (Toward.zero.cut s (m <<< e.toNat) (-e).toNat) 0) = _
  rw [cut_trunc, Nat.shiftLeft_eq]
theorem ti_le {y : Nat} (h : Bd .f64 y 52) : floatToIntVal .f64 y .i64 = some (ti y) ∧ (ti y).natAbs ≤ 2 ^ 52 := by
  obtain ⟨s, m, e, hr, hv⟩ := h
  have hr' : double.read y = .number s m e := hr
  have ht := ti_eq hr'
  have hle : m * 2 ^ e.toNat / 2 ^ (-e).toNat ≤ 2 ^ 52 := by
    have h1 := hv.at (c := min e 0) (by omega) (by omega)
    have e1 : (e - min e 0).toNat = e.toNat := by omega
    have e2 : (52 - min e 0).toNat = 52 + (-e).toNat := by omega
    rw [e1, e2, Nat.pow_add] at h1
    exact Nat.div_le_of_le_mul (Nat.le_trans h1 (Nat.le_of_eq (Nat.mul_comm _ _)))
  have hti : ti y = signed s (m * 2 ^ e.toNat / 2 ^ (-e).toNat) 0 := by unfold ti; rw [ht]; rfl
  have habs : (ti y).natAbs ≤ 2 ^ 52 := by rw [hti, natAbs_signed]; simpa using hle
  refine ⟨?_, habs⟩
  unfold floatToIntVal
  rw [show (FloatKind.f64.decode y).toInt .zero = some (ti y) by rw [hti]; exact ht]
  simp only []
  have hB : (2 : Nat) ^ 52 = 4503599627370496 := by decide
  rw [hB] at habs
  rw [if_pos]
  have h1 : IntKind.i64.min = -9223372036854775808 := rfl
  have h2 : IntKind.i64.max = 9223372036854775807 := rfl
  rw [h1, h2]
  omega
/-- What is left when the integer is taken away lies between -1 and 1. -/
theorem frac_bound {y : Nat} (h : Bd .f64 y 52) : Bd .f64 (ar .sub .f64 y (floatOfInt .f64 (ti y))) 0 := by
  obtain ⟨_, habs⟩ := ti_le h
  obtain ⟨s, m, e, hr, hv⟩ := h
  have hr' : double.read y = .number s m e := hr
  have hti : ti y = signed s (m * 2 ^ e.toNat / 2 ^ (-e).toNat) 0 := by unfold ti; rw [ti_eq hr']; rfl
  generalize hN : m * 2 ^ e.toNat / 2 ^ (-e).toNat = N at hti
  have hna : (ti y).natAbs = N := by rw [hti, natAbs_signed]; simp
  rw [hna] at habs
  have hpow : (2 : Nat) ^ 52 < 2 ^ 53 := by decide
  -- what is read of the integer
  obtain ⟨t, k, j, hrd, hsg⟩ : ∃ t k, ∃ j : Int, double.read (floatOfInt .f64 (ti y)) = .number t (N <<< k) j ∧ (N = 0 ∨ (j = -k ∧ t = s)) := by
    by_cases h0 : N = 0
    · refine ⟨decide (ti y < 0), 0, -1074, ?_, .inl h0⟩
      show double.read (double.nearest _ (ti y).natAbs 0) = _
      rw [hna, h0, read_zero64]; simp
    · refine ⟨decide (ti y < 0), 52 - N.log2, 0 - ((52 - N.log2 : Nat) : Int), ?_, .inr ⟨by omega, ?_⟩⟩
      · show double.read (double.nearest _ (ti y).natAbs 0) = _
        rw [hna]
        exact wide_exact _ N 0 (by omega) (by omega) (by decide) (by decide)
      · rw [hti]
        unfold signed
        cases s <;> simp <;> omega
  generalize floatOfInt .f64 (ti y) = z at hrd
  have hb : floatBits .sub .f64 y z = some (double.write (.number (if signed s m (e - min e j).toNat + signed (!t) (N <<< k) (j - min e j).toNat = 0 then s && !t else decide (signed s m (e - min e j).toNat + signed (!t) (N <<< k) (j - min e j).toNat < 0)) (signed s m (e - min e j).toNat + signed (!t) (N <<< k) (j - min e j).toNat).natAbs (min e j))) := by
    show double.sub y z = _
    unfold Format.sub; rw [hr', hrd]; rfl
  rw [ar_some hb]
  refine Bd.write (k := .f64) ?_ (by decide) (by decide)
  -- the size of what is left
  have hq : m * 2 ^ e.toNat = N * 2 ^ (-e).toNat + (m * 2 ^ e.toNat) % 2 ^ (-e).toNat := by
    rw [← hN, Nat.mul_comm (_ / _)]; exact (Nat.div_add_mod _ _).symm
  have hlt : (m * 2 ^ e.toNat) % 2 ^ (-e).toNat < 2 ^ (-e).toNat := Nat.mod_lt _ (Nat.pow_pos (by decide))
  generalize (m * 2 ^ e.toNat) % 2 ^ (-e).toNat = R at hq hlt
  have hgoal : (signed s m (e - min e j).toNat + signed (!t) (N <<< k) (j - min e j).toNat).natAbs * 2 ^ (min e j - min (min e j) 0).toNat ≤ 2 ^ (0 - min (min e j) 0).toNat := by
    rcases hsg with h0 | ⟨hj, hts⟩
    · subst h0
      rw [Nat.zero_shiftLeft, signed_zero, Int.add_zero, natAbs_signed, Nat.mul_assoc, ← Nat.pow_add]
      rw [Nat.zero_mul, Nat.zero_add] at hq
      by_cases hm0 : m = 0
      · rw [hm0, Nat.zero_mul]; exact Nat.zero_le _
      · have hen : e < 0 := by
          refine Int.not_le.1 fun hge => ?_
          have e1 : (-e).toNat = 0 := by omega
          rw [e1, Nat.pow_zero] at hlt
          have : 0 < m * 2 ^ e.toNat := Nat.mul_pos (by omega) (Nat.pow_pos (by decide))
          omega
        have e1 : e.toNat = 0 := by omega
        rw [e1, Nat.pow_zero, Nat.mul_one] at hq
        subst hq
        calc m * 2 ^ ((e - min e j).toNat + (min e j - min (min e j) 0).toNat) ≤ 2 ^ (-e).toNat * 2 ^ ((e - min e j).toNat + (min e j - min (min e j) 0).toNat) := Nat.mul_le_mul_right _ (by omega)
          _ = 2 ^ ((-e).toNat + ((e - min e j).toNat + (min e j - min (min e j) 0).toNat)) := by rw [← Nat.pow_add]
          _ ≤ _ := Nat.pow_le_pow_right (by decide) (by omega)
    · subst hts
      rw [signed_shift]
      generalize hb : min e j = b
      have hjk : k + (j - b).toNat = (0 - b).toNat := by omega
      rw [hjk]
      have hnegs : ∀ n u, signed (!t) n u = - signed t n u := by intro n u; unfold signed; cases t <;> simp
      rw [hnegs]
      have hdiff : (signed t m (e - b).toNat + -signed t N (0 - b).toNat).natAbs = ((m * 2 ^ (e - b).toNat : Nat) - (N * 2 ^ (0 - b).toNat : Nat) : Int).natAbs := by
        unfold signed
        simp only [Nat.shiftLeft_eq]
        cases t <;> simp <;> omega
      rw [hdiff]
      have hm' : m * 2 ^ (e - b).toNat = N * 2 ^ (0 - b).toNat + R * 2 ^ ((0 - b).toNat - (-e).toNat) := by
        rcases Int.le_total 0 e with he | he
        · have e1 : (-e).toNat = 0 := by omega
          have e2 : (e - b).toNat = e.toNat + (0 - b).toNat := by omega
          rw [e1, Nat.pow_zero, Nat.mul_one] at hq
          rw [e2, Nat.pow_add, ← Nat.mul_assoc, hq, e1, Nat.sub_zero, Nat.add_mul]
        · have e1 : e.toNat = 0 := by omega
          have e2 : (0 - b).toNat = (-e).toNat + (e - b).toNat := by omega
          rw [e1, Nat.pow_zero, Nat.mul_one] at hq
          rw [e2, Nat.add_sub_cancel_left, Nat.pow_add, hq, Nat.add_mul]; ac_rfl
      rw [hm']
      have hcancel : (((N * 2 ^ (0 - b).toNat + R * 2 ^ ((0 - b).toNat - (-e).toNat) : Nat) : Int) - ((N * 2 ^ (0 - b).toNat : Nat) : Int)).natAbs = R * 2 ^ ((0 - b).toNat - (-e).toNat) := by
        generalize N * 2 ^ (0 - b).toNat = A
        generalize R * 2 ^ ((0 - b).toNat - (-e).toNat) = B
        omega
      rw [hcancel]
      by_cases hR : R = 0
      · rw [hR, Nat.zero_mul, Nat.zero_mul]; exact Nat.zero_le _
      · have hen : e < 0 := by
          refine Int.not_le.1 fun hge => ?_
          have e1 : (-e).toNat = 0 := by omega
          rw [e1, Nat.pow_zero] at hlt
          omega
        calc R * 2 ^ ((0 - b).toNat - (-e).toNat) * 2 ^ (b - min b 0).toNat ≤ 2 ^ (-e).toNat * 2 ^ ((0 - b).toNat - (-e).toNat) * 2 ^ (b - min b 0).toNat := Nat.mul_le_mul_right _ (Nat.mul_le_mul_right _ (by omega))
          _ = 2 ^ ((-e).toNat + ((0 - b).toNat - (-e).toNat) + (b - min b 0).toNat) := by rw [← Nat.pow_add, ← Nat.pow_add]
          _ ≤ _ := Nat.pow_le_pow_right (by decide) (by omega)
  exact ⟨min (min e j) 0, by omega, by omega, hgoal⟩
end Go.Proofs.Ytfbdmhkmkmbipaa.Fl
