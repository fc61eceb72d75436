/-
  Exact differences; quarters of a turn (no program in it).
-/
import Derived.Test.YthkklilfignmpaaFloSine
namespace Go.Proofs.Ythkklilfignmpaa.Fl
open Ieee
/-! ### a number told with one digit more -/
theorem cut_double (s : Bool) (n drop : Nat) (hn : n ≠ 0) : Toward.even.cut s (2 * n) (drop + 1) = Toward.even.cut s n drop := by
  have hlog : (2 * n).log2 = n.log2 + 1 := Nat.log2_two_mul hn
  unfold Toward.cut
  rw [hlog]
  have hmin : min (drop + 1) (n.log2 + 1 + 2) = min drop (n.log2 + 2) + 1 := by omega
  rw [hmin]
  simp only [Nat.one_shiftLeft]
  have hpow : 2 ^ (min drop (n.log2 + 2) + 1) = 2 * 2 ^ min drop (n.log2 + 2) := by rw [Nat.pow_succ]; omega
  rw [hpow]
  have hG : 0 < 2 ^ min drop (n.log2 + 2) := Nat.pow_pos (by decide)
  generalize 2 ^ min drop (n.log2 + 2) = G at hG
  have h1 : 2 * n / (2 * G) = n / G := Nat.mul_div_mul_left n G (by decide)
  have h2 : 2 * n % (2 * G) = 2 * (n % G) := Nat.mul_mod_mul_left 2 n G
  rw [h1, h2]
  have e1 : decide (2 * G < 2 * (2 * (n % G))) = decide (G < 2 * (n % G)) := by rw [decide_eq_decide]; omega
  have e2 : (2 * G == 2 * (2 * (n % G))) = (G == 2 * (n % G)) := by
    rw [Bool.eq_iff_iff]; simp only [beq_iff_eq]; omega
  rw [e1, e2]
theorem nearest_double (f : Format) (s : Bool) (m : Nat) (p : Int) : f.nearest s (2 * m) p = f.nearest s m (p + 1) := by
  by_cases h0 : m = 0
  · subst h0; rw [Nat.mul_zero, nearest_zero, nearest_zero]
  have hlog : (2 * m).log2 = m.log2 + 1 := Nat.log2_two_mul h0
  unfold Format.nearest
  rw [if_neg (by omega), if_neg h0]
  simp only []
  rw [hlog]
  have hl : max (p + ((m.log2 + 1 : Nat) : Int) - f.fractionBits) f.leastPlace = max (p + 1 + (m.log2 : Int) - f.fractionBits) f.leastPlace := by omega
  rw [hl]
  generalize max (p + 1 + (m.log2 : Int) - f.fractionBits) f.leastPlace = last
  have hcut : Toward.even.cut s ((2 * m) <<< (p - last).toNat) (last - p).toNat = Toward.even.cut s (m <<< (p + 1 - last).toNat) (last - (p + 1)).toNat := by
    rcases Int.le_total last p with h | h
    · have e1 : (last - p).toNat = 0 := by omega
      have e2 : (last - (p + 1)).toNat = 0 := by omega
      have e3 : (p + 1 - last).toNat = (p - last).toNat + 1 := by omega
      rw [e1, e2, e3, cut_zero, cut_zero, Nat.shiftLeft_eq, Nat.shiftLeft_eq, Nat.pow_succ]; ac_rfl
    · by_cases he : last = p
      · subst he
        have e1 : (last - last).toNat = 0 := by omega
        have e2 : (last - (last + 1)).toNat = 0 := by omega
        have e3 : (last + 1 - last).toNat = 1 := by omega
        rw [e1, e2, e3, cut_zero, cut_zero, Nat.shiftLeft_eq, Nat.shiftLeft_eq]; omega
      · have e1 : (p - last).toNat = 0 := by omega
        have e2 : (p + 1 - last).toNat = 0 := by omega
        have e3 : (last - p).toNat = (last - (p + 1)).toNat + 1 := by omega
        rw [e1, e2, e3, Nat.shiftLeft_zero, Nat.shiftLeft_zero]
        exact cut_double s m _ h0
  rw [hcut]
theorem nearest_pow (f : Format) (s : Bool) (m : Nat) : ∀ (k : Nat) (p : Int), f.nearest s (m * 2 ^ k) p = f.nearest s m (p + k)
  | 0, p => by rw [Nat.pow_zero, Nat.mul_one, Int.natCast_zero, Int.add_zero]
  | k + 1, p => by
    have e : m * 2 ^ (k + 1) = 2 * (m * 2 ^ k) := by rw [Nat.pow_succ]; ac_rfl
    rw [e, nearest_double, nearest_pow f s m k (p + 1)]
    congr 1; omega

/-! ### quarters of a turn -/
/-- It is just N units of 2 ^ -54, and no less than nothing. -/
def Val (f N : Nat) : Prop := ∃ m, ∃ e : Int, double.read f = .number false m e ∧ ∃ c : Int, c ≤ e ∧ c ≤ -54 ∧ m * 2 ^ (e - c).toNat = N * 2 ^ (-54 - c).toNat
theorem read_quarter : double.read quarter = .number false 4503599627370496 (-54) := by decide
/-- What is at least a quarter, and at most 1, is a number of such units. -/
theorem val_of_ge {f : Nat} (hb : Bd .f64 f 0) (hg : geB f quarter = true) : ∃ N, Val f N ∧ N ≤ 4 * 2 ^ 52 := by
  obtain ⟨s, m, e, hr, hv⟩ := hb
  have hr' : double.read f = .number s m e := hr
  unfold geB at hg
  have ho : FloatKind.f64.format.order f quarter = Datum.order (.number s m e) (.number false 4503599627370496 (-54)) := by
    show double.order f quarter = _
    unfold Format.order; rw [hr', read_quarter]
  rw [ho] at hg
  rw [order_base s false m 4503599627370496 e (-54) (min e (-54)) (by omega) (by omega)] at hg
  have hs : s = false := by
    cases s with
    | false => rfl
    | true =>
      exfalso
      have h1 : signed true m (e - min e (-54)).toNat ≤ 0 := by
        unfold signed; simp only [if_true]
        have : (0 : Int) ≤ ((m <<< (e - min e (-54)).toNat : Nat) : Int) := Int.natCast_nonneg _
        omega
      have h2 : (0 : Int) < signed false 4503599627370496 (-54 - min e (-54)).toNat := by
        have : 0 < 4503599627370496 <<< (-54 - min e (-54)).toNat := by rw [Nat.shiftLeft_eq]; exact Nat.mul_pos (by decide) (Nat.pow_pos (by decide))
        show (0 : Int) < ((4503599627370496 <<< (-54 - min e (-54)).toNat : Nat) : Int)
        omega
      rw [cmp_lt (by omega)] at hg; cases hg
  subst hs
  have hge : 4503599627370496 * 2 ^ (-54 - min e (-54)).toNat ≤ m * 2 ^ (e - min e (-54)).toNat := by
    unfold signed at hg
    simp only [Bool.false_eq_true, if_false, Nat.shiftLeft_eq] at hg
    generalize m * 2 ^ (e - min e (-54)).toNat = M at hg ⊢
    generalize 4503599627370496 * 2 ^ (-54 - min e (-54)).toNat = C at hg ⊢
    rcases Int.lt_trichotomy (M : Int) (C : Int) with h | h | h
    · rw [cmp_lt h] at hg; cases hg
    · omega
    · omega
  -- the word is normal: its digits are 53, so its place is at least -54
  have hm53 : m < 2 ^ 53 ∧ -1074 ≤ e := by
    unfold Format.read at hr'
    rw [dbl_sw, dbl_bi, dbl_inf, dbl_lp] at hr'
    simp only [] at hr'
    generalize f % 2 ^ 63 = r at hr'
    have h53 : (2 : Nat) ^ 53 = 2 * 2 ^ 52 := by decide
    rw [h53]
    generalize (2 : Nat) ^ 52 = B at *
    split at hr'
    · simp only [Datum.number.injEq] at hr'
      obtain ⟨_, rfl, rfl⟩ := hr'
      exact ⟨by omega, by omega⟩
    · split at hr'
      · simp only [Datum.number.injEq] at hr'
        obtain ⟨_, rfl, rfl⟩ := hr'
        rename_i h1 h2 h3
        have hB : 0 < B := by
          rcases Nat.eq_zero_or_pos B with h | h
          · subst h; omega
          · exact h
        have := Nat.mod_lt r hB
        exact ⟨by omega, by omega⟩
      · split at hr' <;> cases hr'
  have he : -54 ≤ e := by
    refine Int.not_lt.1 fun hlt => ?_
    have e1 : min e (-54) = e := by omega
    have e2 : (e - e).toNat = 0 := by omega
    rw [e1, e2, Nat.pow_zero, Nat.mul_one] at hge
    obtain ⟨d, hd⟩ : ∃ d : Nat, (-54 - e).toNat = d + 1 := ⟨(-54 - e).toNat - 1, by omega⟩
    rw [hd, Nat.pow_succ] at hge
    have hp : 1 ≤ 2 ^ d := Nat.pow_pos (by decide)
    have h4 : 4503599627370496 * (1 * 2) ≤ 4503599627370496 * (2 ^ d * 2) := Nat.mul_le_mul_left _ (Nat.mul_le_mul_right _ hp)
    have h53 : (2 : Nat) ^ 53 = 9007199254740992 := by decide
    omega
  refine ⟨m * 2 ^ (e + 54).toNat, ⟨m, e, hr', -54, he, by omega, ?_⟩, ?_⟩
  · have e1 : (e - -54).toNat = (e + 54).toNat := by congr 1
    have e2 : (-54 - (-54 : Int)).toNat = 0 := by decide
    rw [e1, e2, Nat.pow_zero, Nat.mul_one]
  · have h1 := hv.at (c := -54) he (by decide)
    have e1 : (e - -54).toNat = (e + 54).toNat := by congr 1
    have e2 : (0 - (-54 : Int)).toNat = 54 := by decide
    rw [e1, e2] at h1
    have : (2 : Nat) ^ 54 = 4 * 2 ^ 52 := by decide
    omega
end Go.Proofs.Ythkklilfignmpaa.Fl
namespace Go.Proofs.Ythkklilfignmpaa.Fl
open Ieee
theorem read_digits {f : Nat} {s : Bool} {m : Nat} {e : Int} (hr' : double.read f = .number s m e) : m < 2 ^ 53 := by
  unfold Format.read at hr'
  rw [dbl_sw, dbl_bi, dbl_inf, dbl_lp] at hr'
  simp only [] at hr'
  generalize f % 2 ^ 63 = r at hr'
  have h53 : (2 : Nat) ^ 53 = 2 * 2 ^ 52 := by decide
  rw [h53]
  generalize (2 : Nat) ^ 52 = B at *
  split at hr'
  · simp only [Datum.number.injEq] at hr'
    obtain ⟨_, rfl, _⟩ := hr'
    omega
  · split at hr'
    · simp only [Datum.number.injEq] at hr'
      obtain ⟨_, rfl, _⟩ := hr'
      rename_i h1 h2 h3
      have hB : 0 < B := by
        rcases Nat.eq_zero_or_pos B with h | h
        · subst h; omega
        · exact h
      have := Nat.mod_lt r hB
      omega
    · split at hr' <;> cases hr'
theorem Val.at {f N m : Nat} {e : Int} (hr : double.read f = .number false m e) (h : Val f N) {b : Int} (h1 : b ≤ e) (h2 : b ≤ -54) : m * 2 ^ (e - b).toNat = N * 2 ^ (-54 - b).toNat := by
  obtain ⟨m', e', hr', c, c1, c2, hc⟩ := h
  rw [hr] at hr'
  simp only [Datum.number.injEq, true_and] at hr'
  obtain ⟨rfl, rfl⟩ := hr'
  rcases Int.le_total b c with hbc | hbc
  · obtain ⟨d, hd⟩ : ∃ d : Nat, c = b + d := ⟨(c - b).toNat, by omega⟩
    have e1 : (e - b).toNat = (e - c).toNat + d := by omega
    have e2 : (-54 - b).toNat = (-54 - c).toNat + d := by omega
    rw [e1, e2, Nat.pow_add, Nat.pow_add, ← Nat.mul_assoc, ← Nat.mul_assoc, hc]
  · obtain ⟨d, hd⟩ : ∃ d : Nat, b = c + d := ⟨(b - c).toNat, by omega⟩
    have e1 : (e - c).toNat = (e - b).toNat + d := by omega
    have e2 : (-54 - c).toNat = (-54 - b).toNat + d := by omega
    rw [e1, e2, Nat.pow_add, Nat.pow_add, ← Nat.mul_assoc, ← Nat.mul_assoc] at hc
    exact Nat.eq_of_mul_eq_mul_right (Nat.pow_pos (by decide)) hc
theorem val_of_nearest (T : Nat) (h : T < 2 ^ 53) : Val (double.nearest false T (-54)) T := by
  by_cases h0 : T = 0
  · subst h0
    exact ⟨0, -1074, read_zero64 false _, -1074, by decide, by decide, by rw [Nat.zero_mul, Nat.zero_mul]⟩
  · have hw := wide_exact false T (-54) (by omega) h (by decide) (by decide)
    refine ⟨_, _, hw, -54 - ((52 - T.log2 : Nat) : Int), by omega, by omega, ?_⟩
    rw [Nat.shiftLeft_eq]
    have e1 : (-54 - ((52 - T.log2 : Nat) : Int) - (-54 - ((52 - T.log2 : Nat) : Int))).toNat = 0 := by omega
    have e2 : (-54 - (-54 - ((52 - T.log2 : Nat) : Int))).toNat = 52 - T.log2 := by omega
    rw [e1, e2, Nat.pow_zero, Nat.mul_one]
theorem val_of_nearest' (T : Nat) (h : T < 2 ^ 53) : Val (double.nearest false T (-53)) (2 * T) := by
  by_cases h0 : T = 0
  · subst h0
    exact ⟨0, -1074, read_zero64 false _, -1074, by decide, by decide, by rw [Nat.mul_zero, Nat.zero_mul, Nat.zero_mul]⟩
  · have hw := wide_exact false T (-53) (by omega) h (by decide) (by decide)
    refine ⟨_, _, hw, min (-53 - ((52 - T.log2 : Nat) : Int)) (-54), by omega, by omega, ?_⟩
    rw [Nat.shiftLeft_eq]
    generalize hk : 52 - T.log2 = k
    have e2 : 2 * T * 2 ^ (-54 - min (-53 - (k : Int)) (-54)).toNat = T * 2 ^ ((-54 - min (-53 - (k : Int)) (-54)).toNat + 1) := by rw [Nat.pow_succ]; ac_rfl
    rw [e2, Nat.mul_assoc, ← Nat.pow_add]
    congr 2; omega
theorem val_sub {f N : Nat} (h : Val f N) (h1 : 2 ^ 52 ≤ N) (h2 : N ≤ 4 * 2 ^ 52) : Val (ar .sub .f64 f quarter) (N - 2 ^ 52) := by
  obtain ⟨m, e, hr, _⟩ := id h
  have hm := read_digits hr
  have hC : (2 : Nat) ^ 52 = 4503599627370496 := by decide
  have hat := Val.at hr h (b := min e (-54)) (by omega) (by omega)
  have hT : signed false m (e - min e (-54)).toNat + signed (!false) 4503599627370496 (-54 - min e (-54)).toNat = (((N - 2 ^ 52) * 2 ^ (-54 - min e (-54)).toNat : Nat) : Int) := by
    unfold signed
    simp only [Bool.false_eq_true, if_false, Bool.not_false, if_true, Nat.shiftLeft_eq]
    rw [hat, Nat.sub_mul, hC]
    have : 4503599627370496 * 2 ^ (-54 - min e (-54)).toNat ≤ N * 2 ^ (-54 - min e (-54)).toNat := Nat.mul_le_mul_right _ (by omega)
    generalize 4503599627370496 * 2 ^ (-54 - min e (-54)).toNat = A at *
    generalize N * 2 ^ (-54 - min e (-54)).toNat = B at *
    omega
  have hb : floatBits .sub .f64 f quarter = some (double.nearest false (N - 2 ^ 52) (-54)) := by
    show double.sub f quarter = _
    unfold Format.sub
    rw [hr, read_quarter]
    show some (double.write (.number (if signed false m (e - min e (-54)).toNat + signed (!false) 4503599627370496 (-54 - min e (-54)).toNat = 0 then false && !false else decide (signed false m (e - min e (-54)).toNat + signed (!false) 4503599627370496 (-54 - min e (-54)).toNat < 0)) (signed false m (e - min e (-54)).toNat + signed (!false) 4503599627370496 (-54 - min e (-54)).toNat).natAbs (min e (-54)))) = _
    rw [hT]
    have hsg : (if (((N - 2 ^ 52) * 2 ^ (-54 - min e (-54)).toNat : Nat) : Int) = 0 then false && !false else decide ((((N - 2 ^ 52) * 2 ^ (-54 - min e (-54)).toNat : Nat) : Int) < 0)) = false := by
      split
      · rfl
      · have := Int.natCast_nonneg ((N - 2 ^ 52) * 2 ^ (-54 - min e (-54)).toNat)
        exact decide_eq_false (by omega)
    rw [hsg, Int.natAbs_natCast]
    show some (double.nearest false _ _) = _
    rw [nearest_pow]
    congr 2; omega
  rw [ar_some hb]
  by_cases hlt : N - 2 ^ 52 < 2 ^ 53
  · exact val_of_nearest _ hlt
  · have h53 : (2 : Nat) ^ 53 = 9007199254740992 := by decide
    have he : -53 ≤ e := by
      refine Int.not_lt.1 fun hlt' => ?_
      have e1 : min e (-54) = e := by omega
      have e2 : (e - e).toNat = 0 := by omega
      rw [e1, e2, Nat.pow_zero, Nat.mul_one] at hat
      have hp : 1 ≤ 2 ^ (-54 - e).toNat := Nat.pow_pos (by decide)
      have : N * 1 ≤ N * 2 ^ (-54 - e).toNat := Nat.mul_le_mul_left _ hp
      omega
    have hev : ∃ q, N = 2 * q := by
      have e1 : min e (-54) = -54 := by omega
      have e2 : (-54 - (-54 : Int)).toNat = 0 := by decide
      obtain ⟨d, hd⟩ : ∃ d : Nat, (e - -54).toNat = d + 1 := ⟨(e - -54).toNat - 1, by omega⟩
      rw [e1, e2, hd, Nat.pow_zero, Nat.mul_one, Nat.pow_succ] at hat
      exact ⟨m * 2 ^ d, by rw [← hat]; ac_rfl⟩
    obtain ⟨q, rfl⟩ := hev
    rw [hC] at *
    have e3 : 2 * q - 4503599627370496 = 2 * (q - 2251799813685248) := by omega
    rw [e3, nearest_double]
    exact val_of_nearest' _ (by omega)
theorem geB_val {f N : Nat} (h : Val f N) : geB f quarter = decide (2 ^ 52 ≤ N) := by
  obtain ⟨m, e, hr, _⟩ := id h
  have hat := Val.at hr h (b := min e (-54)) (by omega) (by omega)
  unfold geB
  have ho : FloatKind.f64.format.order f quarter = Datum.order (.number false m e) (.number false 4503599627370496 (-54)) := by
    show double.order f quarter = _
    unfold Format.order; rw [hr, read_quarter]
  rw [ho, order_base false false m 4503599627370496 e (-54) (min e (-54)) (by omega) (by omega)]
  unfold signed
  simp only [Bool.false_eq_true, if_false, Nat.shiftLeft_eq]
  have hC : (2 : Nat) ^ 52 = 4503599627370496 := by decide
  rw [hat, hC]
  have hp : 0 < 2 ^ (-54 - min e (-54)).toNat := Nat.pow_pos (by decide)
  by_cases hN : 4503599627370496 ≤ N
  · rw [decide_eq_true hN]
    have : 4503599627370496 * 2 ^ (-54 - min e (-54)).toNat ≤ N * 2 ^ (-54 - min e (-54)).toNat := Nat.mul_le_mul_right _ hN
    generalize 4503599627370496 * 2 ^ (-54 - min e (-54)).toNat = A at *
    generalize N * 2 ^ (-54 - min e (-54)).toNat = B at *
    rcases Nat.lt_or_eq_of_le this with h | h
    · rw [cmp_gt (a := (B : Int)) (b := (A : Int)) (by omega)]; rfl
    · rw [cmp_eq (a := (B : Int)) (b := (A : Int)) (by omega)]; rfl
  · rw [decide_eq_false hN]
    have : N * 2 ^ (-54 - min e (-54)).toNat < 4503599627370496 * 2 ^ (-54 - min e (-54)).toNat := Nat.mul_lt_mul_of_pos_right (by omega) hp
    generalize 4503599627370496 * 2 ^ (-54 - min e (-54)).toNat = A at *
    generalize N * 2 ^ (-54 - min e (-54)).toNat = B at *
    rw [cmp_lt (a := (B : Int)) (b := (A : Int)) (by omega)]; rfl

/-- How often a quarter is taken away. -/
def qF (f : Nat) : Nat → Nat
  | 0 => f
  | j + 1 => ar .sub .f64 (qF f j) quarter
def qStop (f j : Nat) : Prop := (∀ i, i < j → geB (qF f i) quarter = true) ∧ geB (qF f j) quarter = false
theorem qF_val {f N : Nat} (h : Val f N) (hN : N ≤ 4 * 2 ^ 52) : ∀ j, (∀ i, i < j → geB (qF f i) quarter = true) → j * 2 ^ 52 ≤ N ∧ Val (qF f j) (N - j * 2 ^ 52)
  | 0, _ => ⟨by rw [Nat.zero_mul]; exact Nat.zero_le _, by rw [Nat.zero_mul, Nat.sub_zero]; exact h⟩
  | j + 1, hj => by
    obtain ⟨h1, h2⟩ := qF_val h hN j (fun i hi => hj i (by omega))
    have h3 := hj j (by omega)
    rw [geB_val h2] at h3
    have h4 := of_decide_eq_true h3
    have h5 := val_sub h2 h4 (Nat.le_trans (Nat.sub_le _ _) hN)
    have e : N - j * 2 ^ 52 - 2 ^ 52 = N - (j + 1) * 2 ^ 52 := by rw [Nat.succ_mul, Nat.sub_sub]
    rw [e] at h5
    refine ⟨?_, h5⟩
    rw [Nat.succ_mul]
    generalize (2 : Nat) ^ 52 = B at h1 h4 ⊢
    generalize j * B = A at h1 h4 ⊢
    omega
theorem q_le {f : Nat} (hb : Bd .f64 f 0) {j : Nat} (hj : ∀ i, i < j → geB (qF f i) quarter = true) : j ≤ 4 := by
  by_cases h0 : j = 0
  · omega
  · obtain ⟨N, hv, hN⟩ := val_of_ge hb (hj 0 (by omega))
    obtain ⟨h1, _⟩ := qF_val hv hN j hj
    have hC : (2 : Nat) ^ 52 = 4503599627370496 := by decide
    omega
theorem Val.bd {f N : Nat} (h : Val f N) (hN : N ≤ 4 * 2 ^ 52) : Bd .f64 f 0 := by
  obtain ⟨m, e, hr, c, c1, c2, hc⟩ := h
  refine ⟨false, m, e, hr, c, c1, by omega, ?_⟩
  rw [hc]
  have e1 : (0 - c).toNat = 54 + (-54 - c).toNat := by omega
  rw [e1, Nat.pow_add]
  have : (2 : Nat) ^ 54 = 4 * 2 ^ 52 := by decide
  rw [this]
  exact Nat.mul_le_mul_right _ hN
theorem qF_bd {f : Nat} (hb : Bd .f64 f 0) {j : Nat} (hj : ∀ i, i < j → geB (qF f i) quarter = true) : Bd .f64 (qF f j) 0 := by
  by_cases h0 : j = 0
  · subst h0; exact hb
  · obtain ⟨N, hv, hN⟩ := val_of_ge hb (hj 0 (by omega))
    obtain ⟨_, h2⟩ := qF_val hv hN j hj
    exact h2.bd (by omega)
theorem q_uniq {f j k : Nat} (h1 : qStop f j) (h2 : qStop f k) : j = k := by
  rcases Nat.lt_trichotomy j k with h | h | h
  · have := h2.1 j h; rw [h1.2] at this; cases this
  · exact h
  · have := h1.1 k h; rw [h2.2] at this; cases this
/-- Less than nothing, plus 1: no more than 1. -/
theorem partOf_one {y : Nat} (h : Bd .f64 y 52) : Bd .f64 (partOf y) 0 := by
  have h0 := frac_bound h
  unfold partOf
  split
  · rename_i hlt
    unfold ltB at hlt
    obtain ⟨s, m, e, hr, hv⟩ := h0
    replace hr : double.read (fr y) = .number s m e := hr
    have hone : double.read one = .number false 4503599627370496 (-52) := by decide
    have hz : double.read 0 = .number false 0 (-1074) := by decide
    have hs : s = true := by
      cases s with
      | true => rfl
      | false =>
        exfalso
        have ho : FloatKind.f64.format.order (fr y) 0 = Datum.order (.number false m e) (.number false 0 (-1074)) := by
          show double.order (fr y) 0 = _
          unfold Format.order; rw [hr, hz]
        rw [ho, order_base false false m 0 e (-1074) (min e (-1074)) (by omega) (by omega), signed_zero] at hlt
        have : (0 : Int) ≤ signed false m (e - min e (-1074)).toNat := by
          show (0 : Int) ≤ ((m <<< (e - min e (-1074)).toNat : Nat) : Int); exact Int.natCast_nonneg _
        rcases Int.lt_or_eq_of_le this with h | h
        · rw [cmp_gt h] at hlt; cases hlt
        · rw [cmp_eq h.symm] at hlt; cases hlt
    subst hs
    have hb : floatBits .add .f64 (fr y) one = some (double.write (.number (if signed true m (e - min e (-52)).toNat + signed false 4503599627370496 (-52 - min e (-52)).toNat = 0 then true && false else decide (signed true m (e - min e (-52)).toNat + signed false 4503599627370496 (-52 - min e (-52)).toNat < 0)) (signed true m (e - min e (-52)).toNat + signed false 4503599627370496 (-52 - min e (-52)).toNat).natAbs (min e (-52)))) := by
      show double.add (fr y) one = _
      unfold Format.add; rw [hr, hone]; rfl
    rw [ar_some hb]
    refine Bd.write (k := .f64) ?_ (by decide) (by decide)
    have h1 := hv.at (c := min e (-52)) (by omega) (by omega)
    refine ⟨min e (-52), by omega, by omega, ?_⟩
    have e1 : (min e (-52) - min e (-52)).toNat = 0 := by omega
    have e2 : (0 - min e (-52)).toNat = 52 + (-52 - min e (-52)).toNat := by omega
    rw [e1, Nat.pow_zero, Nat.mul_one]
    rw [e2, Nat.pow_add] at h1 ⊢
    have hC : (2 : Nat) ^ 52 = 4503599627370496 := by decide
    rw [hC] at h1 ⊢
    unfold signed
    simp only [if_true, Bool.false_eq_true, if_false, Nat.shiftLeft_eq]
    generalize m * 2 ^ (e - min e (-52)).toNat = M at *
    generalize 4503599627370496 * 2 ^ (-52 - min e (-52)).toNat = C at *
    omega
  · exact h0
end Go.Proofs.Ythkklilfignmpaa.Fl
namespace Go.Proofs.Ythkklilfignmpaa.Fl
theorem q_exists {f : Nat} (hb : Bd .f64 f 0) : ∃ j, qStop f j ∧ j ≤ 4 := by
  have key : ∀ n, (∃ j, j < n ∧ qStop f j) ∨ ∀ i, i < n → geB (qF f i) quarter = true := by
    intro n
    induction n with
    | zero => exact .inr (fun i hi => by omega)
    | succ n ih =>
      rcases ih with ⟨j, hj, h⟩ | h
      · exact .inl ⟨j, by omega, h⟩
      · cases hg : geB (qF f n) quarter with
        | false => exact .inl ⟨n, by omega, h, hg⟩
        | true => exact .inr (fun i hi => by
            by_cases e : i = n
            · subst e; exact hg
            · exact h i (by omega))
  rcases key 5 with ⟨j, hj, h⟩ | h
  · exact ⟨j, h, by omega⟩
  · have := q_le hb h; omega
/-- The cosine and the sine behind j quarters, and what they become. -/
def phC (g : Nat) : Nat := sineF (partOf (ar .sub .f64 quarter g))
def phS (g : Nat) : Nat := sineF (partOf g)
def phRg (g j : Nat) : Nat := if j = 1 then ar .sub .f64 0 (phS g) else if j = 2 then ar .sub .f64 0 (phC g) else if j = 3 then phS g else phC g
def phIg (g j : Nat) : Nat := if j = 1 then phC g else if j = 2 then ar .sub .f64 0 (phS g) else if j = 3 then ar .sub .f64 0 (phC g) else phS g
def phR (f j : Nat) : Nat := phRg (qF f j) j
def phI (f j : Nat) : Nat := phIg (qF f j) j
theorem bd_quarter : Bd .f64 quarter 0 := Bd.ofRung (by decide) (by decide) (by decide)
theorem bd_zero (n : Int) (h1 : lowest .f64 ≤ n) (h2 : n ≤ highest .f64) : Bd .f64 0 n := Bd.ofRung (Nat.zero_le _) h1 h2
theorem naok_of {r c : Nat} (h : Is .f64 r c) (hc : naOk c = true) : naOk r = true := by rw [naOk_is h]; exact hc
structure PhFacts (f j : Nat) : Prop where
  b0 : Bd .f64 (qF f j) 0
  b1 : Bd .f64 (ar .sub .f64 quarter (qF f j)) 1
  c : naOk (phC (qF f j)) = true
  s : naOk (phS (qF f j)) = true
  nc : naOk (ar .sub .f64 0 (phC (qF f j))) = true
  ns : naOk (ar .sub .f64 0 (phS (qF f j))) = true
theorem phFacts {f : Nat} (hb : Bd .f64 f 0) {j : Nat} (hj : ∀ i, i < j → geB (qF f i) quarter = true) : PhFacts f j := by
  have b0 := qF_bd hb hj
  have b1 : Bd .f64 (ar .sub .f64 quarter (qF f j)) 1 := Bd.sub bd_quarter b0 (by decide) (by decide)
  have hc : Bd .f64 (phC (qF f j)) 94 := sineF_bd (partOf_bd (b1.mono (by decide)))
  have hs : Bd .f64 (phS (qF f j)) 94 := sineF_bd (partOf_bd (b0.mono (by decide)))
  exact ⟨b0, b1, (Bd.naOk hc (by decide) (by decide)).1, (Bd.naOk hs (by decide) (by decide)).1,
    (Bd.naOk (Bd.sub (bd_zero 94 (by decide) (by decide)) hc (by decide) (by decide)) (by decide) (by decide)).1,
    (Bd.naOk (Bd.sub (bd_zero 94 (by decide) (by decide)) hs (by decide) (by decide)) (by decide) (by decide)).1⟩
theorem ar_lt (op : BinOp) (k : FloatKind) (x y : Nat) : ar op k x y < 2 ^ k.format.width := by
  unfold ar
  cases h : floatBits op k (cn k x) (cn k y) with
  | none => exact (Is.nan (isN_qn k) (by cases k <;> decide)).2
  | some r => exact wf_lt (floatBits_wf h)
end Go.Proofs.Ythkklilfignmpaa.Fl
namespace Go.Proofs.Ythkklilfignmpaa.Fl
section
variable {P : Program}
theorem run_f2f (x : Nat) (w : World) : ∃ r n, (Conv.floatToFloat .f32 x .f64).run P w = .ok (.float .f64 r) (w.drewN n) ∧ Is .f64 r (wi x) := by
  cases h : isN .f32 x with
  | true =>
    refine ⟨(Question.nanConv .f64 x).cut (w.tape w.drawn (.nanConv .f64 x)), 1, ?_, ?_, (cut_nanConv _ _ _).2⟩
    · obtain ⟨g, t, hr⟩ := read_nan h
      have hr' : FloatKind.f32.decode x = .nan g t := hr
      simp [Conv.floatToFloat, hr', Question.forced]; rfl
    · rw [cn_of_nan (cut_nanConv _ _ _).1]
      unfold wi
      rw [conv_cn (by decide), conv_nan (by decide) h]; rfl
  | false =>
    obtain ⟨r, hr, _⟩ := widen x h
    refine ⟨r, 0, run_floatToFloat _ hr, ?_, f2f_lt (by decide) hr⟩
    rw [cn_of_not (conv_not (by decide) hr)]
    unfold wi
    rw [cn_of_not h, hr]; rfl
theorem up_cwide {o : Oper} {a : Act} {w : World} {K : Act → World → Prop} {Q : Exit → Act → World → Prop} {src dst : TypeId} {x y : Nat} (hs : (P.underlying src).isSome = true) (hd : P.underlying dst = some (.complex .f64))
    (h : ∀ r q n, Is .f64 r (wi x) → Is .f64 q (wi y) → K (a.put o.dst (.complex .f64 r q)) (w.drewN n)) :
    o.upon P a K Q ((Sem.run P (convert src dst (.complex .f32 x y)) w).andThen fun v w' => .ok (.value v) w') := by
  obtain ⟨r, n, hr, hi⟩ := run_f2f (P := P) x w
  obtain ⟨q, m, hq, hj⟩ := run_f2f (P := P) y (w.drewN n)
  obtain ⟨u, hs'⟩ := Option.isSome_iff_exists.1 hs
  have hrun : (convert src dst (.complex .f32 x y)).run P w = .ok (.complex .f64 r q) (w.drewN (n + m)) := by
    cases u <;> simp [convert, run_underlying hs', run_underlying hd, Conv.complexToComplex, hr, hq]
  rw [hrun]
  exact h r q _ hi hj
end
/-- The phasor, worked out. -/
structure IsPh (y c d : Nat) : Prop where
  nan : finB .f64 y = false → c = qn .f32 ∧ d = qn .f32
  big : finB .f64 y = true → bigB y = true → c = 1065353216 ∧ d = 0
  num : finB .f64 y = true → bigB y = false → ∀ j, qStop (partOf y) j → c = na (phR (partOf y) j) ∧ d = na (phI (partOf y) j)
end Go.Proofs.Ythkklilfignmpaa.Fl
