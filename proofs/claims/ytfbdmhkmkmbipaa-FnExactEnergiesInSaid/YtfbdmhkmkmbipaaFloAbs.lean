/-
  Absolute values of 32-bit floats, by both roads (no program in it).
-/
import Derived.Test.YtfbdmhkmkmbipaaFloSine
namespace Go.Proofs.Ytfbdmhkmkmbipaa.Fl
open Go.RowKit Ieee
set_option linter.unusedVariables false

theorem log2_shift (m k L : Nat) (h1 : 2 ^ L ≤ m) (h2 : m < 2 ^ (L + 1)) : (m <<< k).log2 = L + k := by
  have hp : 0 < 2 ^ k := Nat.pow_pos (by decide)
  have h0 : 0 < 2 ^ L := Nat.pow_pos (by decide)
  rw [Nat.shiftLeft_eq]
  have a1 : 2 ^ (L + k) ≤ m * 2 ^ k := by rw [Nat.pow_add]; exact Nat.mul_le_mul_right _ h1
  have a2 : m * 2 ^ k < 2 ^ (L + k + 1) := by
    calc m * 2 ^ k < 2 ^ (L + 1) * 2 ^ k := Nat.mul_lt_mul_of_pos_right h2 hp
      _ = 2 ^ (L + k + 1) := by rw [← Nat.pow_add]; congr 1; omega
  have hne : m * 2 ^ k ≠ 0 := by
    have : 0 < 2 ^ (L + k) := Nat.pow_pos (by decide)
    omega
  have b1 : (m * 2 ^ k).log2 < L + k + 1 := (Nat.log2_lt hne).2 a2
  have b2 : ¬ (m * 2 ^ k).log2 < L + k := fun h => by
    have := (Nat.log2_lt hne).1 h
    omega
  omega
theorem log2_shift_lt (m k L : Nat) (h0 : 0 < m) (h2 : m < 2 ^ L) : (m <<< k).log2 < L + k := by
  have hp : 0 < 2 ^ k := Nat.pow_pos (by decide)
  rw [Nat.shiftLeft_eq]
  refine (Nat.log2_lt (by have := Nat.mul_pos h0 hp; omega)).2 ?_
  rw [Nat.pow_add]
  exact Nat.mul_lt_mul_of_pos_right h2 hp
theorem cut_shift (s : Bool) (m k : Nat) (h0 : 0 < m) : Toward.even.cut s (m <<< k) k = m := by
  have hp : 0 < 2 ^ k := Nat.pow_pos (by decide)
  have hk : k ≤ (m <<< k).log2 + 2 := by
    rw [Nat.shiftLeft_eq]
    have hge : 2 ^ k ≤ m * 2 ^ k := Nat.le_mul_of_pos_left _ h0
    have : ¬ (m * 2 ^ k).log2 < k := fun h => by
      have := (Nat.log2_lt (by omega)).1 h
      omega
    omega
  unfold Toward.cut
  simp only [Nat.one_shiftLeft]
  rw [Nat.min_eq_left hk, Nat.shiftLeft_eq]
  generalize 2 ^ k = G at hp
  rw [Nat.mul_div_cancel _ hp, Nat.mul_mod_left]
  have e1 : decide (G < 2 * 0) = false := by simp
  have e2 : (G == 2 * 0) = false := by simp; omega
  rw [e1, e2]
  simp
theorem word_of (x : Nat) (hx : x < 2 ^ 32) (s : Bool) (hs : (x / 2 ^ 31 % 2 == 1) = s) : single.word s (x % 2 ^ 31) = x := by
  unfold Format.word
  rw [sgl_sw]
  cases s
  · have : ¬ x / 2 ^ 31 % 2 = 1 := by simpa using hs
    simp only [Bool.false_eq_true, if_false]
    omega
  · have : x / 2 ^ 31 % 2 = 1 := by simpa using hs
    simp only [if_true]
    omega
theorem read_sign' (f : Format) (b : Nat) (s : Bool) (m : Nat) (e : Int) (h : f.read b = .number s m e) : (b / f.signWeight % 2 == 1) = s := by
  unfold Format.read at h
  simp only [] at h
  split at h
  · simp only [Datum.number.injEq] at h; exact h.1
  · split at h
    · simp only [Datum.number.injEq] at h; exact h.1
    · split at h <;> cases h
/-- A number that was read is written as it was, however far its digits are moved. -/
theorem single_nearest (x : Nat) (hx : x < 2 ^ 32) (s : Bool) (m : Nat) (e : Int) (h : single.read x = .number s m e) (h0 : 0 < m) (k : Nat) : single.nearest s (m <<< k) (e - k) = x := by
  have hm0 : (m <<< k) ≠ 0 := by
    rw [Nat.shiftLeft_eq]; have := Nat.mul_pos h0 (Nat.pow_pos (n := k) (show 0 < 2 by decide)); omega
  have hF : (single.fractionBits : Int) = 23 := rfl
  have hsg : (x / 2 ^ 31 % 2 == 1) = s := by have := read_sign' single x s m e h; rw [sgl_sw] at this; exact this
  have hw := word_of x hx s hsg
  unfold Format.nearest
  rw [if_neg hm0]
  simp only [sgl_lp, sgl_bi, sgl_inf, hF]
  unfold Format.read at h
  rw [sgl_sw, sgl_bi, sgl_inf, sgl_lp] at h
  simp only [] at h
  have hr : x % 2 ^ 31 < 2 ^ 31 := Nat.mod_lt _ (by decide)
  generalize hrg : x % 2 ^ 31 = r at h hr hw
  split at h
  · rename_i hlt
    simp only [Datum.number.injEq] at h
    obtain ⟨_, rfl, rfl⟩ := h
    have hl := log2_shift_lt r k 23 h0 (by omega)
    have hmax : max (-149 - (k : Int) + ((r <<< k).log2 : Int) - 23) (-149) = -149 := by omega
    rw [hmax]
    have hd : ((-149 : Int) - (-149 - (k : Int))).toNat = k := by omega
    have hu : ((-149 : Int) - (k : Int) - -149).toNat = 0 := by omega
    rw [hd, hu, Nat.shiftLeft_zero, cut_shift s r k h0]
    have h1 : ((-149 : Int) - -149).toNat = 0 := by decide
    rw [h1, Nat.zero_mul, Nat.zero_add, Nat.min_eq_left (by omega)]
    exact hw
  · rename_i hge
    split at h
    · rename_i hlt
      simp only [Datum.number.injEq] at h
      obtain ⟨_, rfl, rfl⟩ := h
      have hc : r % 2 ^ 23 < 2 ^ 23 := Nat.mod_lt _ (by decide)
      have hl := log2_shift (2 ^ 23 + r % 2 ^ 23) k 23 (by omega) (by omega)
      rw [hl]
      have hmax : max (-149 + ((r / 2 ^ 23 - 1 : Nat) : Int) - (k : Int) + ((23 + k : Nat) : Int) - 23) (-149) = -149 + ((r / 2 ^ 23 - 1 : Nat) : Int) := by omega
      rw [hmax]
      have hd : (-149 + ((r / 2 ^ 23 - 1 : Nat) : Int) - (-149 + ((r / 2 ^ 23 - 1 : Nat) : Int) - (k : Int))).toNat = k := by omega
      have hu : (-149 + ((r / 2 ^ 23 - 1 : Nat) : Int) - (k : Int) - (-149 + ((r / 2 ^ 23 - 1 : Nat) : Int))).toNat = 0 := by omega
      rw [hd, hu, Nat.shiftLeft_zero, cut_shift s _ k h0]
      have h1 : (-149 + ((r / 2 ^ 23 - 1 : Nat) : Int) - -149).toNat = r / 2 ^ 23 - 1 := by omega
      rw [h1]
      have h2 : (r / 2 ^ 23 - 1) * 2 ^ 23 + (2 ^ 23 + r % 2 ^ 23) = r := by omega
      rw [h2, Nat.min_eq_left (by omega)]
      exact hw
    · split at h <;> cases h
theorem read_mod32 (b : Nat) : (single.read (b % 2 ^ 31)) = match single.read b with
    | .number _ m e => .number false m e | .infinity _ => .infinity false | .nan _ t => .nan false t := by
  have hlt : b % 2 ^ 31 < 2 ^ 31 := Nat.mod_lt _ (by decide)
  have h1 : b % 2 ^ 31 % 2 ^ 31 = b % 2 ^ 31 := Nat.mod_eq_of_lt hlt
  have h2 : b % 2 ^ 31 / 2 ^ 31 = 0 := Nat.div_eq_of_lt hlt
  unfold Format.read
  rw [sgl_sw]
  simp only [h1, h2]
  split
  · rfl
  · split
    · rfl
    · split <;> rfl
theorem isN_mod32 (b : Nat) : isN .f32 (b % 2 ^ 31) = isN .f32 b := by
  show (single.read (b % 2 ^ 31)).isNaN = (single.read b).isNaN
  rw [read_mod32]
  cases single.read b <;> rfl
theorem zero_of_read {x : Nat} {s : Bool} {e : Int} (h : single.read x = .number s 0 e) : x % 2 ^ 31 = 0 := by
  unfold Format.read at h
  rw [sgl_sw, sgl_bi, sgl_inf, sgl_lp] at h
  simp only [] at h
  split at h
  · simp only [Datum.number.injEq] at h
    exact h.2.1
  · split at h
    · simp only [Datum.number.injEq] at h
      omega
    · split at h <;> cases h
theorem inf_of_read {x : Nat} {s : Bool} (h : single.read x = .infinity s) : x % 2 ^ 31 = 255 * 2 ^ 23 := by
  unfold Format.read at h
  rw [sgl_sw, sgl_bi, sgl_inf, sgl_lp] at h
  simp only [] at h
  split at h
  · cases h
  · split at h
    · cases h
    · split at h
      · rename_i hh; exact hh
      · cases h
theorem f2f32 (d : Nat) : floatToFloatBits .f64 d .f32 = (match double.read d with
    | .nan _ _ => none
    | .infinity s => some (FloatKind.f32.encode (.infinity s))
    | .number s m e => if (FloatKind.f32.decode (FloatKind.f32.encode (.number s m e))).isInfinity then none else some (FloatKind.f32.encode (.number s m e))) := by
  unfold floatToFloatBits
  rw [if_neg (by decide)]
  rfl
/-- Absolute values by the 64-bit road. -/
theorem na_abs (x : Nat) (hn : isN .f32 x = false) : naOk (wi x % 2 ^ 63) = true ∧ na (wi x % 2 ^ 63) = x % 2 ^ 31 := by
  have hs := wi_same x
  have hd := read_mod (wi x)
  have hm := read_mod32 x
  have hlt : x % 2 ^ 31 < 2 ^ 32 := Nat.lt_of_lt_of_le (Nat.mod_lt _ (by decide)) (by decide)
  have key : floatToFloatBits .f64 (wi x % 2 ^ 63) .f32 = some (x % 2 ^ 31) := by
    rw [f2f32]
    cases hr : single.read x with
    | nan s t =>
      have : isN .f32 x = true := by show (single.read x).isNaN = true; rw [hr]; rfl
      rw [this] at hn; cases hn
    | infinity s =>
      rw [hr] at hs
      generalize double.read (wi x) = q at hs hd
      cases hs
      simp only [] at hd
      rw [hd]
      simp only []
      rw [inf_of_read hr]
      rfl
    | number s m e =>
      rw [hr] at hs hm
      simp only [] at hm
      have go : ∀ (n : Nat) (i : Int), single.nearest false n i = x % 2 ^ 31 → (match Datum.number false n i with
          | .nan _ _ => none
          | .infinity s => some (FloatKind.f32.encode (.infinity s))
          | .number s m e => if (FloatKind.f32.decode (FloatKind.f32.encode (.number s m e))).isInfinity then none else some (FloatKind.f32.encode (.number s m e))) = some (x % 2 ^ 31) := by
        intro n i hn
        have e1 : FloatKind.f32.encode (.number false n i) = x % 2 ^ 31 := hn
        have e2 : FloatKind.f32.decode (x % 2 ^ 31) = .number false m e := hm
        simp only [e1, e2]
        rfl
      generalize double.read (wi x) = q at hs hd
      cases hs with
      | num _ _ _ k =>
        simp only [] at hd
        rw [hd]
        refine go _ _ ?_
        by_cases h0 : 0 < m
        · exact single_nearest _ hlt false m e hm h0 k
        · obtain rfl : m = 0 := by omega
          rw [shift_zero, nearest_zero, zero_of_read hr]; rfl
      | zero _ _ j =>
        simp only [] at hd
        rw [hd]
        refine go _ _ ?_
        rw [nearest_zero, zero_of_read hr]; rfl
  have hnn : isN .f64 (wi x % 2 ^ 63) = false := by rw [isN_mod, isN_wi]; exact hn
  refine ⟨by unfold naOk; rw [key]; simp, by unfold na; rw [cn_of_not hnn, key]; rfl⟩
/-- The absolute value, NaNs taken for one. -/
def absF (x : Nat) : Nat := if isN .f32 x then qn .f32 else x % 2 ^ 31
theorem absF_lt (x : Nat) : absF x < 2 ^ 32 := by
  unfold absF
  split
  · decide
  · exact Nat.lt_of_lt_of_le (Nat.mod_lt _ (by decide)) (by decide)
theorem absF_cn (x : Nat) : cn .f32 (absF x) = absF x := by
  unfold absF
  cases h : isN .f32 x with
  | true => exact cn_of_nan (isN_qn .f32)
  | false => exact cn_of_not (by show isN .f32 (x % 2 ^ 31) = false; rw [isN_mod32]; exact h)
theorem absF_is {r c : Nat} (h : Is .f32 r c) : absF r = absF c := by
  unfold absF
  rw [isN_of_is h]
  cases hn : isN .f32 c with
  | true => rfl
  | false => rw [is_eq h hn]
theorem mod_is {r c : Nat} (h : Is .f64 r c) : naOk (r % 2 ^ 63) = naOk (c % 2 ^ 63) ∧ na (r % 2 ^ 63) = na (c % 2 ^ 63) := by
  cases hn : isN .f64 c with
  | false => rw [is_eq h hn]; exact ⟨rfl, rfl⟩
  | true =>
    have h1 : isN .f64 (r % 2 ^ 63) = true := by rw [isN_mod, isN_of_is h]; exact hn
    have h2 : isN .f64 (c % 2 ^ 63) = true := by rw [isN_mod]; exact hn
    refine ⟨by rw [naOk_nan h1, naOk_nan h2], ?_⟩
    rw [← na_cn (r % 2 ^ 63), ← na_cn (c % 2 ^ 63), cn_of_nan h1, cn_of_nan h2]
/-- What the 64-bit road makes of a number that was widened. -/
theorem abs_road {r x : Nat} (h : Is .f64 r (wi x)) : naOk (r % 2 ^ 63) = true ∧ na (r % 2 ^ 63) = absF x := by
  rw [(mod_is h).1, (mod_is h).2]
  unfold absF
  cases hn : isN .f32 x with
  | false => exact na_abs x hn
  | true =>
    have h2 : isN .f64 (wi x % 2 ^ 63) = true := by rw [isN_mod, isN_wi]; exact hn
    refine ⟨naOk_nan h2, ?_⟩
    rw [← na_cn, cn_of_nan h2]
    exact na_qn
def leB (x c : Nat) : Bool := FloatKind.f32.format.order x c == some .lt || FloatKind.f32.format.order x c == some .eq
def geB' (x c : Nat) : Bool := FloatKind.f32.format.order x c == some .gt || FloatKind.f32.format.order x c == some .eq
theorem place_le {x : Nat} {s : Bool} {m : Nat} {e : Int} (h : single.read x = .number s m e) : -149 ≤ e := by
  rcases read_single x with ⟨s', m', e', h', _, h1, _⟩ | ⟨s', h'⟩ | ⟨s', t', h'⟩
  · rw [h] at h'; cases h'; exact h1
  · rw [h] at h'; cases h'
  · rw [h] at h'; cases h'
theorem read_0 : single.read 0 = .number false 0 (-149) := by decide
/-- 0 less a number that is not greater than 0. -/
theorem neg_abs (x : Nat) (hx : x < 2 ^ 32) (hf : finB .f32 x = true) (hle : leB x 0 = true) : ar .sub .f32 0 x = x % 2 ^ 31 := by
  have hlt : x % 2 ^ 31 < 2 ^ 32 := Nat.lt_of_lt_of_le (Nat.mod_lt _ (by decide)) (by decide)
  cases hr : single.read x with
  | infinity s => unfold finB at hf; rw [show FloatKind.f32.format.read x = _ from hr] at hf; cases hf
  | nan s t => unfold finB at hf; rw [show FloatKind.f32.format.read x = _ from hr] at hf; cases hf
  | number s m e =>
    have he := place_le hr
    have hm := read_mod32 x
    rw [hr] at hm
    simp only [] at hm
    have hb : floatBits .sub .f32 0 x = Option.map single.write (Datum.sum (.number false 0 (-149)) (.number (!s) m e)) := by
      show single.sub 0 x = _
      unfold Format.sub
      rw [hr, read_0]
      rfl
    have hor : single.order x 0 = some (compare (signed s m (e - -149).toNat) 0) := by
      unfold Format.order
      rw [hr, read_0, order_base s false m 0 e (-149) (-149) he (by omega), signed_zero]
    have hle' : (single.order x 0 == some .lt || single.order x 0 == some .eq) = true := hle
    rw [hor] at hle'
    have hu : m * 2 ^ (e - -149).toNat = m <<< (e - -149).toNat := (Nat.shiftLeft_eq _ _).symm
    have hsum : Datum.sum (.number false 0 (-149)) (.number (!s) m e) = some (.number false (m <<< (e - -149).toNat) (-149)) := by
      unfold Datum.sum
      have hmin : min (-149 : Int) e = -149 := by omega
      simp only [hmin, signed_zero, Int.zero_add]
      by_cases h0 : m = 0
      · subst h0
        rw [signed_zero]
        simp
      · have hs : s = true := by
          cases s with
          | true => rfl
          | false =>
            exfalso
            have hpos : (0 : Int) < signed false m (e - -149).toNat := by
              unfold signed
              have : 0 < m * 2 ^ (e - -149).toNat := Nat.mul_pos (by omega) (Nat.pow_pos (by decide))
              simp only [Bool.false_eq_true, if_false]
              omega
            rw [cmp_gt hpos] at hle'
            simp at hle'
        subst hs
        have hv : signed (!true) m (e - -149).toNat = ((m <<< (e - -149).toNat : Nat) : Int) := by
          unfold signed
          simp only [Bool.not_true, Bool.false_eq_true, if_false, ← hu]
        rw [hv]
        have hp : 0 < m <<< (e - -149).toNat := by rw [← hu]; exact Nat.mul_pos (by omega) (Nat.pow_pos (by decide))
        generalize m <<< (e - -149).toNat = q at hp
        have h2 : ¬ ((q : Int) < 0) := by omega
        simp [h2]
        try omega
    rw [hsum] at hb
    rw [ar_some (r := x % 2 ^ 31)]
    rw [hb]
    simp only [Option.map_some]
    congr 1
    show single.nearest false _ _ = _
    by_cases h0 : 0 < m
    · have := single_nearest _ hlt false m e hm h0 (e - -149).toNat
      rw [show e - (((e - -149).toNat : Nat) : Int) = -149 by omega] at this
      exact this
    · obtain rfl : m = 0 := by omega
      rw [shift_zero, nearest_zero, zero_of_read hr]; rfl
/-- A number that is greater than 0 is its own absolute value. -/
theorem pos_abs (x : Nat) (hx : x < 2 ^ 32) (hf : finB .f32 x = true) (hle : leB x 0 = false) : x % 2 ^ 31 = x := by
  cases hr : single.read x with
  | infinity s => unfold finB at hf; rw [show FloatKind.f32.format.read x = _ from hr] at hf; cases hf
  | nan s t => unfold finB at hf; rw [show FloatKind.f32.format.read x = _ from hr] at hf; cases hf
  | number s m e =>
    have he := place_le hr
    have hsg : (x / 2 ^ 31 % 2 == 1) = s := by have := read_sign' single x s m e hr; rw [sgl_sw] at this; exact this
    have hor : single.order x 0 = some (compare (signed s m (e - -149).toNat) 0) := by
      unfold Format.order
      rw [hr, read_0, order_base s false m 0 e (-149) (-149) he (by omega), signed_zero]
    have hle' : (single.order x 0 == some .lt || single.order x 0 == some .eq) = false := hle
    rw [hor] at hle'
    cases s with
    | false =>
      have : ¬ x / 2 ^ 31 % 2 = 1 := by simpa using hsg
      omega
    | true =>
      exfalso
      have hneg : signed true m (e - -149).toNat ≤ 0 := by
        have hnn : (0 : Int) ≤ (m : Int) * ((2 ^ (e - -149).toNat : Nat) : Int) := Int.mul_nonneg (Int.natCast_nonneg _) (Int.natCast_nonneg _)
        unfold signed
        simp only [if_true]
        omega
      by_cases h0 : signed true m (e - -149).toNat = 0
      · rw [cmp_eq h0] at hle'; simp at hle'
      · rw [cmp_lt (by omega)] at hle'; simp at hle'
theorem absF_fin (x : Nat) (h : finB .f32 x = true) : absF x = x % 2 ^ 31 := by
  unfold absF
  rw [if_neg]
  unfold finB at h
  unfold isN
  cases hr : FloatKind.f32.format.read x <;> rw [hr] at h <;> simp_all [Datum.isNaN]
end Go.Proofs.Ytfbdmhkmkmbipaa.Fl
