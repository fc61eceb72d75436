/-
  Halving and doubling; logarithms as a plain function, and their bound (no program in it).
-/
import Derived.Test.YtpckljkhmaghmaaFloAng
namespace Go.Proofs.Ytpckljkhmaghmaa.Fl
open Ieee
/-! ### logarithms: halving and doubling -/
def two : Nat := 4611686018427387904
def c15 : Nat := 4609434218613702656
def c075 : Nat := 4604930618986332160
/-- A number greater than 0 with all its 53 digits. -/
def Nrm (x m : Nat) (e : Int) : Prop := double.read x = .number false m e ∧ 2 ^ 52 ≤ m ∧ m < 2 ^ 53
theorem log2_full {m : Nat} (h1 : 2 ^ 52 ≤ m) (h2 : m < 2 ^ 53) : m.log2 = 52 := by
  have h0 : m ≠ 0 := by
    have : 0 < 2 ^ 52 := Nat.pow_pos (by decide)
    omega
  have a := (Nat.log2_lt h0 (k := 53)).2 h2
  have b := (Nat.le_log2 h0 (k := 52)).2 h1
  omega
theorem nrm_of_nearest {m : Nat} {e : Int} (h1 : 2 ^ 52 ≤ m) (h2 : m < 2 ^ 53) (h3 : -1000 ≤ e) (h4 : e ≤ 900) : Nrm (double.nearest false m e) m e := by
  have h0 : 0 < m := Nat.lt_of_lt_of_le (Nat.pow_pos (by decide)) h1
  have h := wide_exact false m e h0 h2 h3 h4
  rw [log2_full h1 h2] at h
  have e1 : e - ((52 - 52 : Nat) : Int) = e := by omega
  rw [e1, Nat.sub_self, Nat.shiftLeft_zero] at h
  exact ⟨h, h1, h2⟩
theorem read_two : double.read two = .number false 4503599627370496 (-51) := by decide
theorem read_c15 : double.read c15 = .number false 6755399441055744 (-52) := by decide
theorem read_c075 : double.read c075 = .number false 6755399441055744 (-53) := by decide
theorem nrm_dbl {x m : Nat} {e : Int} (h : Nrm x m e) (h3 : -1000 ≤ e) (h4 : e ≤ 800) : Nrm (ar .mul .f64 x two) m (e + 1) := by
  obtain ⟨hr, h1, h2⟩ := h
  have hw : floatBits .mul .f64 x two = some (double.nearest false (m * 2 ^ 52) (e + -51)) := by
    show double.mul x two = _
    unfold Format.mul
    rw [hr, read_two]
    have hC : (2 : Nat) ^ 52 = 4503599627370496 := by decide
    rw [hC]; rfl
  rw [ar_some hw, nearest_pow]
  have e1 : e + -51 + ((52 : Nat) : Int) = e + 1 := by omega
  rw [e1]
  exact nrm_of_nearest h1 h2 (by omega) (by omega)
theorem div_bits {x y : Nat} {s t : Bool} {m n : Nat} {i j : Int} {more : Nat} (hx : double.read x = .number s m i) (hy : double.read y = .number t n j) (hn : n ≠ 0) (hmore : (double.fractionBits + 2) + n.log2 - m.log2 = more) :
    floatBits .quo .f64 x y = some (double.write (.number (s ^^ t) (2 * ((m <<< more) / n) + ((m <<< more) % n != 0).toNat) (i - j - more - 1))) := by
  show double.div x y = _
  unfold Format.div
  rw [hx, hy]
  show Option.map double.write (if n = 0 then _ else _) = _
  rw [if_neg hn]
  simp only [hmore, Option.map_some]
theorem nrm_hlv {x m : Nat} {e : Int} (h : Nrm x m e) (h3 : -900 ≤ e) (h4 : e ≤ 800) : Nrm (ar .quo .f64 x two) m (e - 1) := by
  obtain ⟨hr, h1, h2⟩ := h
  have hl : (4503599627370496 : Nat).log2 = 52 := log2_full (by decide) (by decide)
  have hmore : (double.fractionBits + 2) + (4503599627370496 : Nat).log2 - m.log2 = 54 := by rw [hl, log2_full h1 h2]; rfl
  have hw := div_bits hr read_two (by decide) hmore
  have hsh : m <<< 54 = m * 4 * 4503599627370496 := by
    rw [Nat.shiftLeft_eq, show (2 : Nat) ^ 54 = 4 * 4503599627370496 by decide, Nat.mul_assoc]
  have hq : (m <<< 54) / 4503599627370496 = m * 4 := by rw [hsh]; exact Nat.mul_div_cancel _ (by decide)
  have hm : (m <<< 54) % 4503599627370496 = 0 := by rw [hsh]; exact Nat.mul_mod_left _ _
  rw [hq, hm] at hw
  have e2 : 2 * (m * 4) + (0 != 0).toNat = m * 2 ^ 3 := by
    show 2 * (m * 4) + 0 = m * 8; omega
  rw [e2] at hw
  have hw' : floatBits .quo .f64 x two = some (double.nearest false (m * 2 ^ 3) (e - -51 - ((54 : Nat) : Int) - 1)) := hw
  rw [ar_some hw', nearest_pow]
  have e1 : e - -51 - ((54 : Nat) : Int) - 1 + ((3 : Nat) : Int) = e - 1 := by omega
  rw [e1]
  exact nrm_of_nearest h1 h2 (by omega) (by omega)
/-- Against a constant with its own place. -/
theorem ord_nrm {x m c n : Nat} {e p : Int} (h : Nrm x m e) (hc : double.read c = .number false n p) (hn1 : 2 ^ 52 ≤ n) (hn2 : n < 2 ^ 53) :
    double.order x c = some (if e < p then .lt else if p < e then .gt else compare (m : Int) (n : Int)) := by
  obtain ⟨hr, h1, h2⟩ := h
  unfold Format.order
  rw [hr, hc, order_base false false m n e p (min e p) (by omega) (by omega)]
  unfold signed
  simp only [Bool.false_eq_true, if_false, Nat.shiftLeft_eq]
  have h53 : (2 : Nat) ^ 53 = 2 * 2 ^ 52 := by decide
  rw [h53] at h2 hn2
  generalize (2 : Nat) ^ 52 = B at *
  by_cases hlt : e < p
  · rw [if_pos hlt]
    obtain ⟨d, hd⟩ : ∃ d : Nat, p = e + ((d + 1 : Nat) : Int) := ⟨(p - e).toNat - 1, by omega⟩
    have e1 : (e - min e p).toNat = 0 := by omega
    have e2 : (p - min e p).toNat = d + 1 := by omega
    rw [e1, e2, Nat.pow_zero, Nat.mul_one, Nat.pow_succ]
    have hp : 1 ≤ 2 ^ d := Nat.pow_pos (by decide)
    have h5 : n * (1 * 2) ≤ n * (2 ^ d * 2) := Nat.mul_le_mul_left _ (Nat.mul_le_mul_right _ hp)
    rw [cmp_lt (by omega)]
  · rw [if_neg hlt]
    by_cases hgt : p < e
    · rw [if_pos hgt]
      obtain ⟨d, hd⟩ : ∃ d : Nat, e = p + ((d + 1 : Nat) : Int) := ⟨(e - p).toNat - 1, by omega⟩
      have e1 : (e - min e p).toNat = d + 1 := by omega
      have e2 : (p - min e p).toNat = 0 := by omega
      rw [e1, e2, Nat.pow_zero, Nat.mul_one, Nat.pow_succ]
      have hp : 1 ≤ 2 ^ d := Nat.pow_pos (by decide)
      have h5 : m * (1 * 2) ≤ m * (2 ^ d * 2) := Nat.mul_le_mul_left _ (Nat.mul_le_mul_right _ hp)
      rw [cmp_gt (by omega)]
    · rw [if_neg hgt]
      have he : e = p := by omega
      subst he
      have e1 : (e - min e e).toNat = 0 := by omega
      rw [e1, Nat.pow_zero, Nat.mul_one, Nat.mul_one]
theorem ge15_nrm {x m : Nat} {e : Int} (h : Nrm x m e) : geB x c15 = (decide (-52 < e) || (decide (e = -52) && decide (6755399441055744 ≤ m))) := by
  unfold geB
  rw [show FloatKind.f64.format.order x c15 = double.order x c15 from rfl, ord_nrm h read_c15 (by decide) (by decide)]
  by_cases h1 : e < -52
  · rw [if_pos h1, decide_eq_false (by omega), decide_eq_false (by omega)]; rfl
  · rw [if_neg h1]
    by_cases h2 : -52 < e
    · rw [if_pos h2, decide_eq_true h2]; rfl
    · rw [if_neg h2, decide_eq_false h2, decide_eq_true (by omega : e = -52)]
      rcases Int.lt_trichotomy (m : Int) (6755399441055744 : Nat) with h3 | h3 | h3
      · rw [cmp_lt h3, decide_eq_false (by omega)]; rfl
      · rw [cmp_eq h3, decide_eq_true (by omega)]; rfl
      · rw [cmp_gt h3, decide_eq_true (by omega)]; rfl
theorem lt075_nrm {x m : Nat} {e : Int} (h : Nrm x m e) : ltB x c075 = (decide (e < -53) || (decide (e = -53) && decide (m < 6755399441055744))) := by
  unfold ltB
  rw [show FloatKind.f64.format.order x c075 = double.order x c075 from rfl, ord_nrm h read_c075 (by decide) (by decide)]
  by_cases h1 : e < -53
  · rw [if_pos h1, decide_eq_true h1]; rfl
  · rw [if_neg h1, decide_eq_false h1]
    by_cases h2 : -53 < e
    · rw [if_pos h2, decide_eq_false (by omega)]; rfl
    · rw [if_neg h2, decide_eq_true (by omega : e = -53)]
      rcases Int.lt_trichotomy (m : Int) (6755399441055744 : Nat) with h3 | h3 | h3
      · rw [cmp_lt h3, decide_eq_true (by omega)]; rfl
      · rw [cmp_eq h3, decide_eq_false (by omega)]; rfl
      · rw [cmp_gt h3, decide_eq_false (by omega)]; rfl
/-- Halved j times. -/
def hF (x : Nat) : Nat → Nat
  | 0 => x
  | j + 1 => ar .quo .f64 (hF x j) two
def hStop (x j : Nat) : Prop := (∀ i, i < j → geB (hF x i) c15 = true) ∧ geB (hF x j) c15 = false
/-- Doubled j times. -/
def dF (x : Nat) : Nat → Nat
  | 0 => x
  | j + 1 => ar .mul .f64 (dF x j) two
def dStop (x j : Nat) : Prop := (∀ i, i < j → ltB (dF x i) c075 = true) ∧ ltB (dF x j) c075 = false
theorem hF_nrm {x m : Nat} {e : Int} (h : Nrm x m e) (h3 : -300 ≤ e) (h4 : e ≤ 300) : ∀ j : Nat, j ≤ 600 → Nrm (hF x j) m (e - j)
  | 0, _ => by rw [Int.natCast_zero, Int.sub_zero]; exact h
  | j + 1, hj => by
    have h5 := nrm_hlv (hF_nrm h h3 h4 j (by omega)) (by omega) (by omega)
    have e1 : e - ((j + 1 : Nat) : Int) = e - (j : Int) - 1 := by omega
    rw [e1]; exact h5
theorem dF_nrm {x m : Nat} {e : Int} (h : Nrm x m e) (h3 : -300 ≤ e) (h4 : e ≤ 150) : ∀ j : Nat, j ≤ 600 → Nrm (dF x j) m (e + j)
  | 0, _ => by rw [Int.natCast_zero, Int.add_zero]; exact h
  | j + 1, hj => by
    have h5 := nrm_dbl (dF_nrm h h3 h4 j (by omega)) (by omega) (by omega)
    have e1 : e + ((j + 1 : Nat) : Int) = e + (j : Int) + 1 := by omega
    rw [e1]; exact h5
theorem first_stop (p : Nat → Bool) : ∀ n, (∃ j, j < n ∧ (∀ i, i < j → p i = true) ∧ p j = false) ∨ ∀ i, i < n → p i = true := by
  intro n
  induction n with
  | zero => exact .inr (fun i hi => by omega)
  | succ n ih =>
    rcases ih with ⟨j, hj, h⟩ | h
    · exact .inl ⟨j, by omega, h⟩
    · cases hg : p n with
      | false => exact .inl ⟨n, by omega, h, hg⟩
      | true => exact .inr (fun i hi => by
          by_cases e : i = n
          · subst e; exact hg
          · exact h i (by omega))
/-- How often halved, how often doubled, and what is left then. -/
theorem log_steps {x m : Nat} {e : Int} (h : Nrm x m e) (h3 : -300 ≤ e) (h4 : e ≤ 150) :
    ∃ j k, hStop x j ∧ dStop (hF x j) k ∧ j ≤ 300 ∧ k ≤ 300 ∧ ∃ e', Nrm (dF (hF x j) k) m e' ∧ -53 ≤ e' ∧ e' ≤ -52 := by
  have hj : ∃ j, hStop x j ∧ j ≤ 300 ∧ e - (j : Int) ≤ -52 ∧ (0 < j → -53 ≤ e - (j : Int)) := by
    rcases first_stop (fun i => geB (hF x i) c15) 301 with ⟨j, hlt, h1, h2⟩ | h1
    · refine ⟨j, ⟨h1, h2⟩, by omega, ?_, ?_⟩
      · have hn := ge15_nrm (hF_nrm h h3 (by omega) j (by omega))
        replace h2 := hn.symm.trans h2
        have := of_decide_eq_false (Bool.or_eq_false_iff.1 h2).1
        omega
      · intro hp
        have h5 := h1 (j - 1) (by omega)
        have hn := ge15_nrm (hF_nrm h h3 (by omega) (j - 1) (by omega))
        replace h5 := hn.symm.trans h5
        rcases Bool.or_eq_true_iff.1 h5 with h6 | h6
        · have := of_decide_eq_true h6; omega
        · have := of_decide_eq_true (Bool.and_eq_true_iff.1 h6).1; omega
    · exfalso
      have h5 := h1 300 (by omega)
      have hn := ge15_nrm (hF_nrm h h3 (by omega) 300 (by omega))
      replace h5 := hn.symm.trans h5
      rcases Bool.or_eq_true_iff.1 h5 with h6 | h6
      · have := of_decide_eq_true h6; omega
      · have := of_decide_eq_true (Bool.and_eq_true_iff.1 h6).1; omega
  obtain ⟨j, hs, hj1, hj2, hj3⟩ := hj
  have hn := hF_nrm h h3 (by omega) j (by omega)
  have hlo : -300 ≤ e - (j : Int) := by
    rcases Nat.eq_zero_or_pos j with h0 | h0
    · subst h0; omega
    · have := hj3 h0; omega
  have hk : ∃ k, dStop (hF x j) k ∧ k ≤ 300 ∧ -53 ≤ e - (j : Int) + (k : Int) ∧ (0 < k → e - (j : Int) + (k : Int) ≤ -52) := by
    rcases first_stop (fun i => ltB (dF (hF x j) i) c075) 301 with ⟨k, hlt, h1, h2⟩ | h1
    · refine ⟨k, ⟨h1, h2⟩, by omega, ?_, ?_⟩
      · have hm := lt075_nrm (dF_nrm hn hlo (by omega) k (by omega))
        replace h2 := hm.symm.trans h2
        have := of_decide_eq_false (Bool.or_eq_false_iff.1 h2).1
        omega
      · intro hp
        have h5 := h1 (k - 1) (by omega)
        have hm := lt075_nrm (dF_nrm hn hlo (by omega) (k - 1) (by omega))
        replace h5 := hm.symm.trans h5
        rcases Bool.or_eq_true_iff.1 h5 with h6 | h6
        · have := of_decide_eq_true h6; omega
        · have := of_decide_eq_true (Bool.and_eq_true_iff.1 h6).1; omega
    · exfalso
      have h5 := h1 300 (by omega)
      have hm := lt075_nrm (dF_nrm hn hlo (by omega) 300 (by omega))
      replace h5 := hm.symm.trans h5
      rcases Bool.or_eq_true_iff.1 h5 with h6 | h6
      · have := of_decide_eq_true h6; omega
      · have := of_decide_eq_true (Bool.and_eq_true_iff.1 h6).1; omega
  obtain ⟨k, hks, hk1, hk2, hk3⟩ := hk
  refine ⟨j, k, hs, hks, hj1, hk1, e - (j : Int) + (k : Int), dF_nrm hn hlo (by omega) k (by omega), hk2, ?_⟩
  rcases Nat.eq_zero_or_pos k with h0 | h0
  · subst h0; omega
  · exact hk3 h0
end Go.Proofs.Ytpckljkhmaghmaa.Fl
namespace Go.Proofs.Ytpckljkhmaghmaa.Fl
open Ieee
/-! ### the logarithm -/
def lnc : Nat := 4604418534313441775
def polL (u : Nat) : Nat → Nat
  | 0 => 0
  | j + 1 => ar .add .f64 (ar .quo .f64 one (floatOfInt .f64 (25 - 2 * (j : Int)))) (ar .mul .f64 u (polL u j))
def lgS (z : Nat) : Nat := ar .quo .f64 (ar .sub .f64 z one) (ar .add .f64 z one)
def lgQ (z : Nat) : Nat := ar .mul .f64 two (ar .mul .f64 (lgS z) (polL (ar .mul .f64 (lgS z) (lgS z)) 13))
/-- The logarithm of z, doubled n times. -/
def lgF (z : Nat) (n : Int) : Nat := ar .add .f64 (lgQ z) (ar .mul .f64 (floatOfInt .f64 n) lnc)
theorem plus_one {y : Nat} (hy : NN y) (hb : Bd .f64 y 1000) : Lo .f64 (ar .add .f64 y one) 0 := by
  obtain ⟨t, n, j, hr, hs⟩ := hy
  have hone : double.read one = .number false 4503599627370496 (-52) := by decide
  have hbd := Bd.add hb (bd_one.mono (by decide : (0 : Int) ≤ 1000)) (by decide) (by decide)
  have hnn : signed t n (j - min j (-52)).toNat = ((n * 2 ^ (j - min j (-52)).toNat : Nat) : Int) := by
    rcases hs with rfl | rfl
    · unfold signed; simp only [Bool.false_eq_true, if_false, Nat.shiftLeft_eq]
    · rw [signed_zero]; simp
  have hT : signed t n (j - min j (-52)).toNat + signed false 4503599627370496 (-52 - min j (-52)).toNat = ((4503599627370496 * 2 ^ (-52 - min j (-52)).toNat + n * 2 ^ (j - min j (-52)).toNat : Nat) : Int) := by
    rw [hnn]; unfold signed; simp only [Bool.false_eq_true, if_false, Nat.shiftLeft_eq]; omega
  have hbits : floatBits .add .f64 y one = some (double.nearest false (4503599627370496 * 2 ^ (-52 - min j (-52)).toNat + n * 2 ^ (j - min j (-52)).toNat) (min j (-52))) := by
    show double.add y one = _
    unfold Format.add
    rw [hone, hr]
    show some (double.write (.number (if signed t n (j - min j (-52)).toNat + signed false 4503599627370496 (-52 - min j (-52)).toNat = 0 then t && false else decide (signed t n (j - min j (-52)).toNat + signed false 4503599627370496 (-52 - min j (-52)).toNat < 0)) (signed t n (j - min j (-52)).toNat + signed false 4503599627370496 (-52 - min j (-52)).toNat).natAbs (min j (-52)))) = _
    rw [hT]
    have hp : 0 < 2 ^ (-52 - min j (-52)).toNat := Nat.pow_pos (by decide)
    rw [if_neg (by omega), decide_eq_false (by omega), Int.natAbs_natCast]; rfl
  rw [ar_some hbits] at hbd ⊢
  have hge := nearest_rung_ge false (4503599627370496 * 2 ^ (-52 - min j (-52)).toNat + n * 2 ^ (j - min j (-52)).toNat) (min j (-52)) 0
    ⟨min j (-52), by omega, by omega, by
      have e1 : (min j (-52) - min j (-52)).toNat = 0 := by omega
      have e2 : (0 - min j (-52)).toNat = 52 + (-52 - min j (-52)).toNat := by omega
      have hC : (2 : Nat) ^ 52 = 4503599627370496 := by decide
      rw [e1, e2, Nat.pow_zero, Nat.mul_one, Nat.pow_add, hC]; omega⟩ (by decide) (by decide)
  obtain ⟨s', m', e', hr', _⟩ := hbd
  replace hr' : double.read _ = .number s' m' e' := hr'
  exact ⟨s', m', e', hr', read_ge hge hr' (by decide)⟩
theorem polL_bd {u : Nat} (hu : Bd .f64 u 4) : ∀ j : Nat, j ≤ 13 → Bd .f64 (polL u j) (5 * (j : Int))
  | 0, _ => bd_zero 0 (by decide) (by decide)
  | j + 1, hj => by
    have ih := polL_bd hu j (by omega)
    have hd : Lo .f64 (floatOfInt .f64 (25 - 2 * (j : Int))) 0 := by
      have hx : ∀ n : Nat, 1 ≤ n → n < 26 → Lo .f64 (floatOfInt .f64 (n : Int)) 0 := by
        intro n h1 h2
        have hw := wide_exact false n 0 (by omega) (by have : (26 : Nat) < 2 ^ 53 := by decide
                                                       omega) (by decide) (by decide)
        have hf : floatOfInt .f64 (n : Int) = double.nearest false n 0 := by
          have : decide ((n : Int) < 0) = false := decide_eq_false (by omega)
          show double.nearest (decide ((n : Int) < 0)) (n : Int).natAbs 0 = _
          rw [this, Int.natAbs_natCast]
        rw [hf]
        refine ⟨false, _, _, hw, 0 - ((52 - n.log2 : Nat) : Int), by omega, by omega, ?_⟩
        have e1 : (0 - ((52 - n.log2 : Nat) : Int) - (0 - ((52 - n.log2 : Nat) : Int))).toNat = 0 := by omega
        have e2 : (0 - (0 - ((52 - n.log2 : Nat) : Int))).toNat = 52 - n.log2 := by omega
        rw [e1, e2, Nat.pow_zero, Nat.mul_one, Nat.shiftLeft_eq]
        have := Nat.mul_le_mul_right (2 ^ (52 - n.log2)) h1
        omega
      have e : (25 - 2 * (j : Int)) = ((25 - 2 * j : Nat) : Int) := by omega
      rw [e]; exact hx _ (by omega) (by omega)
    have h1 : Bd .f64 _ 0 := Bd.quo bd_one hd (by decide) (by decide)
    have h2 := Bd.mul hu ih (by show (-1022 : Int) ≤ _; omega) (by show _ ≤ (1023 : Int); omega)
    have h3 := Bd.add (h1.mono (by omega : (0 : Int) ≤ 4 + 5 * j)) h2 (by show (-1022 : Int) ≤ _; omega) (by show _ ≤ (1023 : Int); omega)
    exact Bd.mono h3 (by omega)
theorem nrm_bd {z m : Nat} {e : Int} (h : Nrm z m e) (h2 : e ≤ -52) (h3 : -53 ≤ e) : Bd .f64 z 1 := by
  obtain ⟨hr, _, hm⟩ := h
  refine ⟨false, m, e, hr, e, by omega, by omega, ?_⟩
  have e1 : (e - e).toNat = 0 := by omega
  rw [e1, Nat.pow_zero, Nat.mul_one]
  exact Nat.le_trans (Nat.le_of_lt hm) (Nat.pow_le_pow_right (by decide) (by omega))
theorem int_bd {n : Int} (h : n.natAbs ≤ 1000) : Bd .f64 (floatOfInt .f64 n) 10 := by
  show Bd .f64 (FloatKind.f64.format.write (.number (decide (n < 0)) n.natAbs 0)) 10
  refine Bd.write (k := .f64) ⟨0, by decide, by decide, ?_⟩ (by decide) (by decide)
  have : (2 : Nat) ^ (10 - (0 : Int)).toNat = 1024 := by decide
  rw [this]
  show n.natAbs * 2 ^ 0 ≤ 1024
  omega
theorem lgF_bd {z m : Nat} {e n : Int} (h : Nrm z m e) (h2 : e ≤ -52) (h3 : -53 ≤ e) (hn : n.natAbs ≤ 1000) : Bd .f64 (lgF z n) 70 := by
  have hb := nrm_bd h h2 h3
  have hlo := plus_one ⟨false, m, e, h.1, .inl rfl⟩ (hb.mono (by decide))
  have hsub : Bd .f64 _ 2 := Bd.sub hb (bd_one.mono (by decide : (0 : Int) ≤ 1)) (by decide) (by decide)
  have hs : Bd .f64 (lgS z) 2 := Bd.quo hsub hlo (by decide) (by decide)
  have hu : Bd .f64 _ 4 := Bd.mul hs hs (by decide) (by decide)
  have hp : Bd .f64 _ 65 := polL_bd hu 13 (by decide)
  have h1 : Bd .f64 _ 67 := Bd.mul hs hp (by decide) (by decide)
  have htwo : Bd .f64 two 1 := Bd.ofRung (by decide) (by decide) (by decide)
  have hq : Bd .f64 (lgQ z) 68 := Bd.mul htwo h1 (by decide) (by decide)
  have hl : Bd .f64 lnc 0 := Bd.ofRung (by decide) (by decide) (by decide)
  have hk : Bd .f64 _ 10 := Bd.mul (int_bd hn) hl (by decide) (by decide)
  have h9 : Bd .f64 (lgF z n) 69 := Bd.add hq (hk.mono (by decide)) (by decide) (by decide)
  exact h9.mono (by decide)
end Go.Proofs.Ytpckljkhmaghmaa.Fl
namespace Go.Proofs.Ytpckljkhmaghmaa.Fl
open Ieee
theorem nrm_wi {x m : Nat} {e : Int} (hr : single.read x = .number false m e) (hm : m < 2 ^ 24) (h1 : -149 ≤ e) (h2 : e ≤ 104) (h0 : m ≠ 0) : ∃ M E, Nrm (wi x) M E ∧ -300 ≤ E ∧ E ≤ 150 := by
  have h24 : (2 : Nat) ^ 24 < 2 ^ 53 := Nat.pow_lt_pow_right (by decide) (by decide)
  have hm53 : m < 2 ^ 53 := by omega
  have hw := wide_exact false m e (by omega) hm53 (by omega) (by omega)
  have hn : isN .f32 x = false := by show (single.read x).isNaN = false; rw [hr]; rfl
  have hwi : wi x = double.nearest false m e := by
    unfold wi
    rw [cn_of_not hn]
    unfold floatToFloatBits
    rw [if_neg (by decide), show FloatKind.f32.decode x = .number false m e from hr]
    simp only []
    have hw' : FloatKind.f64.decode (FloatKind.f64.encode (.number false m e)) = .number false (m <<< (52 - m.log2)) (e - (52 - m.log2 : Nat)) := hw
    rw [hw']
    rfl
  have hL : m.log2 ≤ 52 := by
    have := (Nat.log2_lt h0 (k := 53)).2 hm53
    omega
  have hlo : 2 ^ m.log2 ≤ m := Nat.log2_self_le h0
  have hhi : m < 2 ^ (m.log2 + 1) := Nat.lt_log2_self
  refine ⟨m <<< (52 - m.log2), e - (52 - m.log2 : Nat), ⟨by rw [hwi]; exact hw, ?_, ?_⟩, by omega, by omega⟩
  · rw [Nat.shiftLeft_eq]
    calc 2 ^ 52 = 2 ^ m.log2 * 2 ^ (52 - m.log2) := by rw [← Nat.pow_add]; congr 1; omega
      _ ≤ _ := Nat.mul_le_mul_right _ hlo
  · rw [Nat.shiftLeft_eq]
    calc m * 2 ^ (52 - m.log2) < 2 ^ (m.log2 + 1) * 2 ^ (52 - m.log2) := Nat.mul_lt_mul_of_pos_right hhi (Nat.pow_pos (by decide))
      _ = 2 ^ 53 := by rw [← Nat.pow_add]; congr 1; omega
theorem nrm_nan {x m : Nat} {e : Int} (h : Nrm x m e) : isN .f64 x = false := by
  show (double.read x).isNaN = false
  rw [h.1]; rfl
theorem nrm_zero {x m : Nat} {e : Int} (h : Nrm x m e) : FloatKind.f64.format.order x 0 = some .gt := by
  obtain ⟨hr, h1, _⟩ := h
  show double.order x 0 = _
  unfold Format.order
  rw [hr, show double.read 0 = .number false 0 (-1074) by decide, order_base false false m 0 e (-1074) (min e (-1074)) (by omega) (by omega)]
  unfold signed
  simp only [Bool.false_eq_true, if_false, Nat.shiftLeft_eq, Nat.zero_mul]
  have hm : 0 < m := Nat.lt_of_lt_of_le (Nat.pow_pos (by decide)) h1
  have := Nat.mul_pos hm (Nat.pow_pos (n := (e - min e (-1074)).toNat) (by decide : 0 < 2))
  rw [cmp_gt (by omega)]
theorem nrm_max {x m : Nat} {e : Int} (h : Nrm x m e) (h2 : e ≤ 900) : FloatKind.f64.format.order x 9218868437227405311 = some .lt := by
  have hm : double.read 9218868437227405311 = .number false 9007199254740991 971 := by decide
  rw [show FloatKind.f64.format.order x 9218868437227405311 = double.order x 9218868437227405311 from rfl, ord_nrm h hm (by decide) (by decide), if_pos (by omega)]
/-- What a 32-bit number can be for a logarithm. -/
theorem log_cases (x : Nat) (hx : x < 2 ^ 32) : isN .f32 x = true ∨ FloatKind.f32.format.order x 0 = some .lt ∨ FloatKind.f32.format.order x 0 = some .eq ∨ x = 2139095040 ∨
    (FloatKind.f32.format.order x 0 = some .gt ∧ finB .f32 x = true ∧ ∃ m e, Nrm (wi x) m e ∧ -300 ≤ e ∧ e ≤ 150) := by
  have hz : single.read 0 = .number false 0 (-149) := by decide
  rcases read_single x with ⟨s, m, e, hr, hm, h1, h2⟩ | ⟨s, hr⟩ | ⟨s, t, hr⟩
  · have ho : FloatKind.f32.format.order x 0 = some (compare (signed s m (e - min e (-149)).toNat) (signed false 0 (-149 - min e (-149)).toNat)) := by
      show single.order x 0 = _
      unfold Format.order
      rw [hr, hz, order_base s false m 0 e (-149) (min e (-149)) (by omega) (by omega)]
    rw [signed_zero] at ho
    by_cases h0 : m = 0
    · subst h0
      rw [signed_zero] at ho
      exact .inr (.inr (.inl ho))
    · have hp : 0 < m * 2 ^ (e - min e (-149)).toNat := Nat.mul_pos (by omega) (Nat.pow_pos (by decide))
      cases s with
      | true =>
        refine .inr (.inl ?_)
        rw [ho]
        unfold signed
        simp only [if_true, Nat.shiftLeft_eq]
        rw [cmp_lt (by omega)]
      | false =>
        refine .inr (.inr (.inr (.inr ⟨?_, ?_, nrm_wi hr hm h1 h2 h0⟩)))
        · rw [ho]
          unfold signed
          simp only [Bool.false_eq_true, if_false, Nat.shiftLeft_eq]
          rw [cmp_gt (by omega)]
        · unfold finB; rw [show FloatKind.f32.format.read x = .number false m e from hr]
  · cases s with
    | true =>
      refine .inr (.inl ?_)
      show single.order x 0 = _
      unfold Format.order
      rw [hr, hz]; rfl
    | false =>
      refine .inr (.inr (.inr (.inl ?_)))
      unfold Format.read at hr
      have e1 : single.signWeight = 2147483648 := by decide
      have e2 : single.infRung = 2139095040 := by decide
      rw [e1, e2] at hr
      simp only [] at hr
      have h32 : (2 : Nat) ^ 32 = 4294967296 := by decide
      rw [h32] at hx
      split at hr
      · cases hr
      · split at hr
        · cases hr
        · split at hr
          · rename_i h3
            have hs : (x / 2147483648 % 2 == 1) = false := by injection hr
            have hs' : ¬ (x / 2147483648 % 2 = 1) := by intro h; rw [h] at hs; cases hs
            first | omega | (have := of_decide_eq_true h3; omega) | (have := eq_of_beq h3; omega)
          · cases hr
  · exact .inl (by show (single.read x).isNaN = true; rw [hr]; rfl)
theorem wi_pinf : wi 2139095040 = 9218868437227405312 := by decide
theorem na_pinf : na 9218868437227405312 = 2139095040 ∧ naOk 9218868437227405312 = true := by decide
theorem na_ninf : na 18442240474082181120 = 4286578688 ∧ naOk 18442240474082181120 = true := by decide
end Go.Proofs.Ytpckljkhmaghmaa.Fl
