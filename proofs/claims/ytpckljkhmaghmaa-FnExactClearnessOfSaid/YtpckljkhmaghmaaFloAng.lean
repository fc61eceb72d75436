/-
  Angles as a plain function, and their bound (no program in it).
-/
import Derived.Test.YtpckljkhmaghmaaFloLow
namespace Go.Proofs.Ytpckljkhmaghmaa.Fl
open Ieee
/-! ### angles -/
def eight : Nat := 4620693217682128896
def thF (t : Nat) : Nat → Nat
  | 0 => t
  | j + 1 => ar .quo .f64 (thF t j) (ar .add .f64 one (sq (ar .add .f64 one (ar .mul .f64 (thF t j) (thF t j)))))
def polA (u : Nat) : Nat → Nat
  | 0 => 0
  | j + 1 => ar .sub .f64 (ar .quo .f64 one (floatOfInt .f64 (15 - 2 * (j : Int)))) (ar .mul .f64 u (polA u j))
def slopeF (t : Nat) : Nat := ar .quo .f64 (ar .mul .f64 eight (ar .mul .f64 (thF t 3) (polA (ar .mul .f64 (thF t 3) (thF t 3)) 8))) round
def overB (a b : Nat) : Bool := FloatKind.f64.format.order a b == some .gt
def angT (a b : Nat) : Nat := if overB a b then ar .quo .f64 b a else ar .quo .f64 a b
def ang2 (a b : Nat) : Nat := if overB a b then ar .sub .f64 quarter (slopeF (angT a b)) else slopeF (angT a b)
def ang3 (a b x : Nat) : Nat := if ltB x 0 then ar .sub .f64 half (ang2 a b) else ang2 a b
def ang4 (a b y x : Nat) : Nat := if ltB y 0 then ng (ang3 a b x) else ang3 a b x
/-- The angle of a point of 32-bit numbers, in 64 bits. -/
def angW (y x : Nat) : Nat := ang4 (wi y % 2 ^ 63) (wi x % 2 ^ 63) (wi y) (wi x)
theorem nn_mul_self {t : Nat} {q : Int} (h : Bd .f64 t q) (h1 : -1022 ≤ q + q) (h2 : q + q ≤ 1023) : NN (ar .mul .f64 t t) := by
  have hb := Bd.mul h h h1 h2
  obtain ⟨s, m, i, hr, hv⟩ := h
  have hbits : floatBits .mul .f64 t t = some (double.nearest false (m * m) (i + i)) := by
    show double.mul t t = _
    unfold Format.mul
    rw [show double.read t = .number s m i from hr]
    show some (double.write (.number (s ^^ s) (m * m) (i + i))) = _
    rw [Bool.xor_self]; rfl
  rw [ar_some hbits] at hb ⊢
  obtain ⟨s', m', e', hr', _⟩ := hb
  replace hr' : double.read _ = .number s' m' e' := hr'
  have hsg := read_sign double _ s' m' e' hr'
  exact ⟨s', m', e', hr', .inl (by rw [← hsg]; exact sign_of_lt (nearest_false_lt _ _ _))⟩
theorem sq_some {x : Nat} (h : NN x) : ∃ r, double.sqrt x = some r := by
  obtain ⟨s, m, e, hr, hs⟩ := h
  unfold Format.sqrt
  rw [hr]
  unfold Datum.root
  simp only []
  by_cases h0 : m = 0
  · rw [if_pos h0]; exact ⟨_, rfl⟩
  · rw [if_neg h0]
    rcases hs with rfl | h
    · simp
    · exact absurd h h0
theorem step_bd {t : Nat} (h : Bd .f64 t 0) : Bd .f64 (ar .quo .f64 t (ar .add .f64 one (sq (ar .add .f64 one (ar .mul .f64 t t))))) 0 := by
  have h1 := nn_mul_self h (by decide) (by decide)
  have h2 : Bd .f64 (ar .mul .f64 t t) 0 := Bd.mul h h (by decide) (by decide)
  obtain ⟨_, h3⟩ := one_plus h1 (h2.mono (by decide))
  have h4 : Bd .f64 (ar .add .f64 one (ar .mul .f64 t t)) 1 := Bd.add bd_one h2 (by decide) (by decide)
  obtain ⟨r, hr⟩ := sq_some h3
  have hsq : sq (ar .add .f64 one (ar .mul .f64 t t)) = r := by
    unfold sq; rw [sqrt_cn, hr]; rfl
  have h5 : Bd .f64 r 1 := Bd.sqrt (q := 1) (h4.mono (by decide)) hr (by decide) (by decide)
  rw [hsq]
  have h6 := nn_sq hr h5.fin
  obtain ⟨h7, _⟩ := one_plus h6 (h5.mono (by decide))
  exact Bd.quo h h7 (by decide) (by decide)
theorem thF_bd {t : Nat} (h : Bd .f64 t 0) : ∀ j, Bd .f64 (thF t j) 0
  | 0 => h
  | j + 1 => step_bd (thF_bd h j)
theorem polA_bd {u : Nat} (hu : Bd .f64 u 0) : ∀ j : Nat, j ≤ 8 → Bd .f64 (polA u j) (j : Int)
  | 0, _ => bd_zero 0 (by decide) (by decide)
  | j + 1, hj => by
    have ih := polA_bd hu j (by omega)
    have hd : Lo .f64 (floatOfInt .f64 (15 - 2 * (j : Int))) 0 := by
      rcases (show j = 0 ∨ j = 1 ∨ j = 2 ∨ j = 3 ∨ j = 4 ∨ j = 5 ∨ j = 6 ∨ j = 7 by omega) with rfl | rfl | rfl | rfl | rfl | rfl | rfl | rfl
      · exact ⟨false, 8444249301319680, -49, by decide, -49, by decide, by decide, by decide⟩
      · exact ⟨false, 7318349394477056, -49, by decide, -49, by decide, by decide, by decide⟩
      · exact ⟨false, 6192449487634432, -49, by decide, -49, by decide, by decide, by decide⟩
      · exact ⟨false, 5066549580791808, -49, by decide, -49, by decide, by decide, by decide⟩
      · exact ⟨false, 7881299347898368, -50, by decide, -50, by decide, by decide, by decide⟩
      · exact ⟨false, 5629499534213120, -50, by decide, -50, by decide, by decide, by decide⟩
      · exact ⟨false, 6755399441055744, -51, by decide, -51, by decide, by decide, by decide⟩
      · exact ⟨false, 4503599627370496, -52, by decide, -52, by decide, by decide, by decide⟩
    have h1 : Bd .f64 _ 0 := Bd.quo bd_one hd (by decide) (by decide)
    have h2 := Bd.mul hu ih (by show (-1022 : Int) ≤ _; omega) (by show _ ≤ (1023 : Int); omega)
    have h3 := Bd.sub (h1.mono (by omega : (0 : Int) ≤ 0 + j)) h2 (by show (-1022 : Int) ≤ _; omega) (by show _ ≤ (1023 : Int); omega)
    exact Bd.mono h3 (by omega)
theorem slopeF_bd {t : Nat} (h : Bd .f64 t 0) : Bd .f64 (slopeF t) 9 := by
  have h1 := thF_bd h 3
  have h2 : Bd .f64 _ 0 := Bd.mul h1 h1 (by decide) (by decide)
  have h3 := polA_bd h2 8 (by decide)
  have h4 : Bd .f64 _ 8 := Bd.mul h1 h3 (by decide) (by decide)
  have h8 : Bd .f64 eight 3 := Bd.ofRung (by decide) (by decide) (by decide)
  have h5 : Bd .f64 _ 11 := Bd.mul h8 h4 (by decide) (by decide)
  have hr : Lo .f64 round 2 := ⟨false, 7074237752028440, -50, by decide, -50, by decide, by decide, by decide⟩
  exact Bd.quo h5 hr (by decide) (by decide)
theorem number_of_fin {b : Nat} (h : finB .f64 b = true) : ∃ s m, ∃ e : Int, double.read b = .number s m e := by
  unfold finB at h
  cases hr : FloatKind.f64.format.read b with
  | number s m e => exact ⟨s, m, e, hr⟩
  | infinity s => rw [hr] at h; cases h
  | nan s t => rw [hr] at h; cases h
/-- A zero is worth nothing alone. -/
theorem mag_zero {b : Nat} {s : Bool} {m : Nat} {e : Int} (hr : double.read b = .number s m e) (h : (FloatKind.f64.format.order b 0 == some .eq) = false) : m ≠ 0 := by
  rintro rfl
  have hz : double.read 0 = .number false 0 (-1074) := by decide
  have ho : FloatKind.f64.format.order b 0 = Datum.order (.number s 0 e) (.number false 0 (-1074)) := by
    show double.order b 0 = _
    unfold Format.order; rw [hr, hz]
  rw [ho, order_base _ _ _ _ _ _ (min e (-1074)) (by omega) (by omega), signed_zero, signed_zero, cmp_eq rfl] at h
  cases h
theorem angT_bd {y x : Nat} (hy : finB .f64 y = true) (hx : finB .f64 x = true) (hz : (FloatKind.f64.format.order y 0 == some .eq && FloatKind.f64.format.order x 0 == some .eq) = false) : Bd .f64 (angT (y % 2 ^ 63) (x % 2 ^ 63)) 0 := by
  obtain ⟨s, m, i, hr⟩ := number_of_fin hy
  obtain ⟨t, n, j, hr'⟩ := number_of_fin hx
  have ha : double.read (y % 2 ^ 63) = .number false m i := by rw [read_mod, hr]
  have hb : double.read (x % 2 ^ 63) = .number false n j := by rw [read_mod, hr']
  have hmn : m ≠ 0 ∨ n ≠ 0 := by
    rw [Bool.and_eq_false_iff] at hz
    rcases hz with h | h
    · exact .inl (mag_zero hr h)
    · exact .inr (mag_zero hr' h)
  have ho : FloatKind.f64.format.order (y % 2 ^ 63) (x % 2 ^ 63) = some (compare ((m * 2 ^ (i - min i j).toNat : Nat) : Int) ((n * 2 ^ (j - min i j).toNat : Nat) : Int)) := by
    show double.order _ _ = _
    unfold Format.order
    rw [ha, hb, order_base false false m n i j (min i j) (by omega) (by omega)]
    unfold signed
    simp only [Bool.false_eq_true, if_false, Nat.shiftLeft_eq]
  have hp1 : 0 < 2 ^ (i - min i j).toNat := Nat.pow_pos (by decide)
  have hp2 : 0 < 2 ^ (j - min i j).toNat := Nat.pow_pos (by decide)
  unfold angT
  cases hov : overB (y % 2 ^ 63) (x % 2 ^ 63) with
  | true =>
    unfold overB at hov
    rw [ho] at hov
    have hlt : n * 2 ^ (j - min i j).toNat < m * 2 ^ (i - min i j).toNat := by
      generalize n * 2 ^ (j - min i j).toNat = A at hov ⊢
      generalize m * 2 ^ (i - min i j).toNat = B at hov ⊢
      rcases Int.lt_trichotomy (B : Int) (A : Int) with h | h | h
      · rw [cmp_lt h] at hov; cases hov
      · rw [cmp_eq h] at hov; cases hov
      · omega
    have hm : m ≠ 0 := by rintro rfl; rw [Nat.zero_mul] at hlt; omega
    have hmin : min j i = min i j := by omega
    exact quo_one hb ha hm (by rw [hmin]; omega)
  | false =>
    unfold overB at hov
    rw [ho] at hov
    have hle : m * 2 ^ (i - min i j).toNat ≤ n * 2 ^ (j - min i j).toNat := by
      generalize n * 2 ^ (j - min i j).toNat = A at hov ⊢
      generalize m * 2 ^ (i - min i j).toNat = B at hov ⊢
      rcases Int.lt_trichotomy (B : Int) (A : Int) with h | h | h
      · omega
      · omega
      · rw [cmp_gt h] at hov; cases hov
    have hn : n ≠ 0 := by
      rintro rfl
      rw [Nat.zero_mul] at hle
      rcases hmn with h | h
      · have := Nat.mul_pos (Nat.pos_of_ne_zero h) hp1; omega
      · exact h rfl
    exact quo_one ha hb hn hle
theorem angW_bd {y x : Nat} (hy : finB .f64 (wi y) = true) (hx : finB .f64 (wi x) = true) (hz : (FloatKind.f64.format.order (wi y) 0 == some .eq && FloatKind.f64.format.order (wi x) 0 == some .eq) = false) : Bd .f64 (angW y x) 11 := by
  have h1 := slopeF_bd (angT_bd hy hx hz)
  have h2 : Bd .f64 (ang2 (wi y % 2 ^ 63) (wi x % 2 ^ 63)) 10 := by
    unfold ang2; split
    · exact Bd.sub (bd_quarter.mono (by decide)) h1 (by decide) (by decide)
    · exact h1.mono (by decide)
  have h3 : Bd .f64 (ang3 (wi y % 2 ^ 63) (wi x % 2 ^ 63) (wi x)) 11 := by
    unfold ang3; split
    · exact Bd.sub (bd_half.mono (by decide)) h2 (by decide) (by decide)
    · exact h2.mono (by decide)
  unfold angW ang4; split
  · exact h3.ng
  · exact h3
/-- The angle of a point, in turns, as a 32-bit number. -/
def angN (y x : Nat) : Nat :=
  if finB .f32 y && finB .f32 x then (if FloatKind.f64.format.order (wi y) 0 == some .eq && FloatKind.f64.format.order (wi x) 0 == some .eq then 0 else na (angW y x)) else qn .f32
theorem order_wi0 (x : Nat) : FloatKind.f64.format.order (wi x) 0 = FloatKind.f32.format.order x 0 := by
  have h0 : wi 0 = 0 := by decide
  have := order_wi x 0
  rw [h0] at this
  exact this
end Go.Proofs.Ytpckljkhmaghmaa.Fl
