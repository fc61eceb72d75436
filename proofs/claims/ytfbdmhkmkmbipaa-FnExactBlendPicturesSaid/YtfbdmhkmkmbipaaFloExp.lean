/-
  Powers of e of what is at most nothing, as plain functions; their bounds (no program in it).
-/
import Derived.Test.YtfbdmhkmkmbipaaFloGn
namespace Go.Proofs.Ytfbdmhkmkmbipaa.Fl
open Ieee
set_option linter.unusedVariables false
/-- A number that is at most 2^n, with this sign, or a zero. -/
def SB (g : Bool) (x : Nat) (n : Int) : Prop := ∃ s m, ∃ e : Int, double.read x = .number s m e ∧ (s = g ∨ m = 0) ∧ V m e n
theorem SB.bd {g : Bool} {x : Nat} {n : Int} (h : SB g x n) : Bd .f64 x n := by
  obtain ⟨s, m, e, hr, _, hv⟩ := h
  exact ⟨s, m, e, hr, hv⟩
theorem near_word64 (s : Bool) (M : Nat) (p : Int) : ∃ r, r < double.signWeight ∧ double.nearest s M p = double.word s r := by
  have hi : double.infRung < double.signWeight := by rw [dbl_inf, dbl_sw]; decide
  unfold Format.nearest
  by_cases h : M = 0
  · rw [if_pos h]; exact ⟨0, by rw [dbl_sw]; decide, rfl⟩
  · rw [if_neg h]; exact ⟨_, Nat.lt_of_le_of_lt (Nat.min_le_right _ _) hi, rfl⟩
theorem near64 (s : Bool) (M : Nat) (p n : Int) (hv : V M p n) (h1 : -1022 ≤ n) (h2 : n ≤ 1023) : SB s (double.nearest s M p) n := by
  obtain ⟨s', m, e, hr, hv'⟩ := (Bd.write (k := .f64) (s := s) hv h1 h2 : Bd .f64 (double.nearest s M p) n)
  replace hr : double.read (double.nearest s M p) = .number s' m e := hr
  obtain ⟨r, hr1, hr2⟩ := near_word64 s M p
  have hs := read_sign' double _ s' m e hr
  rw [hr2, (word_rung double s r hr1).2] at hs
  exact ⟨s', m, e, hr, .inl hs.symm, hv'⟩
theorem near0 (s g : Bool) (p n : Int) : SB g (double.nearest s 0 p) n := by
  rw [nearest_zero]
  refine ⟨s, 0, -1074, ?_, .inr rfl, V.zero _ _⟩
  cases s <;> decide
theorem SB.mul {g k : Bool} {x y : Nat} {q r : Int} (hx : SB g x q) (hy : SB k y r) (h1 : -1022 ≤ q + r) (h2 : q + r ≤ 1023) : SB (g ^^ k) (ar .mul .f64 x y) (q + r) := by
  obtain ⟨s, m, i, hr, hs, hv⟩ := hx
  obtain ⟨t, n, j, hr', ht, hv'⟩ := hy
  have hb : floatBits .mul .f64 x y = some (double.nearest (s ^^ t) (m * n) (i + j)) := by
    show double.mul x y = _
    unfold Format.mul
    rw [hr, hr']
    rfl
  rw [ar_some hb]
  by_cases h0 : m * n = 0
  · rw [h0]; exact near0 _ _ _ _
  · have hm : m ≠ 0 := fun h => h0 (by rw [h, Nat.zero_mul])
    have hn : n ≠ 0 := fun h => h0 (by rw [h, Nat.mul_zero])
    rw [hs.resolve_right hm, ht.resolve_right hn]
    exact near64 _ _ _ _ (hv.product hv') h1 h2
theorem SB.quo {g : Bool} {x y m' : Nat} {j : Int} {q : Int} (hx : SB g x q) (hy : double.read y = .number false m' j) (hm : m' ≠ 0) (hl : Lo .f64 y 0) (h1 : -1022 ≤ q) (h2 : q ≤ 1023) : SB g (ar .quo .f64 x y) q := by
  have hbd := Bd.quo (SB.bd hx) hl (by show (-1022 : Int) ≤ q - 0; omega) (by show q - 0 ≤ (1023 : Int); omega)
  obtain ⟨s, m, i, hr, hs, hv⟩ := hx
  have hq : ∃ M p, floatBits .quo .f64 x y = some (double.nearest s M p) ∧ (m = 0 → M = 0) := by
    show ∃ M p, double.div x y = _ ∧ _
    unfold Format.div
    rw [hr, hy]
    unfold Datum.quotient
    simp only [if_neg hm]
    refine ⟨_, _, by rw [Bool.xor_false]; rfl, fun h => by subst h; simp⟩
  obtain ⟨M, p, hb, h0⟩ := hq
  rw [ar_some hb] at hbd ⊢
  by_cases hM : M = 0
  · rw [hM]; exact near0 _ _ _ _
  · have hm0 : m ≠ 0 := fun h => hM (h0 h)
    obtain ⟨s', m2, e2, hr2, hv2⟩ := hbd
    replace hr2 : double.read (double.nearest s M p) = .number s' m2 e2 := hr2
    obtain ⟨r, hr3, hr4⟩ := near_word64 s M p
    have hsg := read_sign' double _ s' m2 e2 hr2
    rw [hr4, (word_rung double s r hr3).2] at hsg
    exact ⟨s', m2, e2, hr2, .inl (by rw [← hsg]; exact hs.resolve_right hm0), by simpa using hv2⟩
theorem read_one64 : double.read one = .number false 4503599627370496 (-52) := by decide
/-- 1 plus what is from -1 to nothing. -/
theorem one_less {y : Nat} (hy : SB true y 0) : SB false (ar .add .f64 one y) 0 := by
  obtain ⟨s, n, j, hr, hs, hv⟩ := hy
  have hA : (4503599627370496 <<< (-52 - min (-52) j).toNat : Nat) = 2 ^ (0 - min (-52) j).toNat := by
    rw [Nat.shiftLeft_eq, show (4503599627370496 : Nat) = 2 ^ 52 by decide, ← Nat.pow_add]
    congr 1; omega
  have hN := hv.at (c := min (-52) j) (by omega) (by omega)
  rw [← Nat.shiftLeft_eq] at hN
  obtain ⟨T, hT1, hT2⟩ : ∃ T : Nat, signed false 4503599627370496 (-52 - min (-52) j).toNat + signed s n (j - min (-52) j).toNat = (T : Int) ∧ T ≤ 2 ^ (0 - min (-52) j).toNat := by
    rcases hs with rfl | rfl
    · refine ⟨2 ^ (0 - min (-52) j).toNat - n <<< (j - min (-52) j).toNat, ?_, Nat.sub_le _ _⟩
      rw [signed_false, signed_true, hA]
      generalize 2 ^ (0 - min (-52) j).toNat = a at *
      generalize n <<< (j - min (-52) j).toNat = b at *
      omega
    · refine ⟨2 ^ (0 - min (-52) j).toNat, ?_, Nat.le_refl _⟩
      rw [signed_zero, signed_false, hA, Int.add_zero]
  have hb : floatBits .add .f64 one y = some (double.nearest false T (min (-52) j)) := by
    show double.add one y = _
    unfold Format.add
    rw [read_one64, hr]
    show some (double.write (.number (if signed false 4503599627370496 (-52 - min (-52) j).toNat + signed s n (j - min (-52) j).toNat = 0 then false && s else decide (signed false 4503599627370496 (-52 - min (-52) j).toNat + signed s n (j - min (-52) j).toNat < 0)) (signed false 4503599627370496 (-52 - min (-52) j).toNat + signed s n (j - min (-52) j).toNat).natAbs (min (-52) j))) = _
    rw [hT1]
    have h3 : (if (T : Int) = 0 then false && s else decide ((T : Int) < 0)) = false := by
      split
      · rfl
      · exact decide_eq_false (by omega)
    rw [h3, Int.natAbs_natCast]
    rfl
  rw [ar_some hb]
  refine near64 _ _ _ _ ⟨min (-52) j, Int.le_refl _, by omega, ?_⟩ (by decide) (by decide)
  have e0 : (min (-52) j - min (-52) j).toNat = 0 := by omega
  rw [e0, Nat.pow_zero, Nat.mul_one]
  exact hT2
def c256 : Nat := 4643211215818981376
theorem read_256 : double.read c256 = .number false 4503599627370496 (-44) := by decide
theorem lo_256 : Lo .f64 c256 8 := ⟨false, 4503599627370496, -44, read_256, -44, by decide, by decide, by decide⟩
def loK (b : Nat) : Bool := match double.read b with
  | .number false m e => decide (m ≠ 0) && decide (2 ^ (0 - min e 0).toNat ≤ m * 2 ^ (e - min e 0).toNat)
  | _ => false
theorem lo_k : ∀ k : Fin 13, 1 ≤ k.val → loK (floatOfInt .f64 (k.val : Int)) = true := by decide +kernel
theorem lo_int (k : Nat) (h1 : 1 ≤ k) (h2 : k ≤ 12) : Lo .f64 (floatOfInt .f64 (k : Int)) 0 ∧ ∃ m e, double.read (floatOfInt .f64 (k : Int)) = .number false m e ∧ m ≠ 0 := by
  have h := lo_k ⟨k, by omega⟩ h1
  simp only [] at h
  unfold loK at h
  cases hr : double.read (floatOfInt .f64 (k : Int)) with
  | number s m e =>
    rw [hr] at h
    cases s with
    | false =>
      simp only [Bool.and_eq_true, decide_eq_true_eq] at h
      exact ⟨⟨false, m, e, hr, min e 0, by omega, by omega, h.2⟩, m, e, rfl, h.1⟩
    | true => cases h
  | infinity s => rw [hr] at h; cases h
  | nan s t => rw [hr] at h; cases h
def exT (x : Nat) : Nat := ar .quo .f64 (wi x) c256
def polE (t : Nat) : Nat → Nat
  | 0 => one
  | j + 1 => ar .add .f64 one (ar .quo .f64 (ar .mul .f64 t (polE t j)) (floatOfInt .f64 ((12 : Int) - (j : Int))))
def sqE (p : Nat) : Nat → Nat
  | 0 => p
  | i + 1 => ar .mul .f64 (sqE p i) (sqE p i)
def exX (x : Nat) : Nat := if lt32 x 3276275712 then 0 else na (sqE (polE (exT x) 12) 8)
theorem sb_one : SB false one 0 := ⟨false, 4503599627370496, -52, read_one64, .inl rfl, -52, by decide, by decide, by decide⟩
theorem polE_sb {t : Nat} (ht : SB true t 0) : ∀ j, j ≤ 12 → SB false (polE t j) 0
  | 0, _ => sb_one
  | j + 1, h => by
    have ih := polE_sb ht j (by omega)
    have hm : SB true (ar .mul .f64 t (polE t j)) 0 := by
      have := ht.mul ih (by decide) (by decide)
      simpa using this
    obtain ⟨hl, m, e, hr, h0⟩ := lo_int (12 - j) (by omega) (by omega)
    have e1 : ((12 - j : Nat) : Int) = (12 : Int) - (j : Int) := by omega
    rw [e1] at hl hr
    exact one_less (hm.quo hr h0 hl (by decide) (by decide))
theorem sqE_sb {p : Nat} (hp : SB false p 0) : ∀ i, SB false (sqE p i) 0
  | 0 => hp
  | i + 1 => by
    have ih := sqE_sb hp i
    have := ih.mul ih (by decide) (by decide)
    simpa [sqE] using this
theorem read_n200 : double.read (wi 3276275712) = .number true 7036874417766400 (-45) := by decide
/-- What is from -200 to nothing, divided by 256. -/
theorem exT_sb {x : Nat} (hx : isN .f32 x = false) (h1 : gt32 x 0 = false) (h2 : lt32 x 3276275712 = false) : SB true (exT x) 0 := by
  have o1 : (double.order (wi x) (wi 0) == some .gt) = false := by rw [order_wi]; exact h1
  have o2 : (double.order (wi x) (wi 3276275712) == some .lt) = false := by rw [order_wi]; exact h2
  have hn : isN .f64 (wi x) = false := by rw [isN_wi]; exact hx
  have hz : double.read (wi 0) = .number false 0 (-1074) := by decide
  cases hr : double.read (wi x) with
  | nan s t => unfold isN at hn; rw [show FloatKind.f64.format.read (wi x) = _ from hr] at hn; simp [Datum.isNaN] at hn
  | infinity s =>
    exfalso
    unfold Format.order at o1 o2
    rw [hr, hz] at o1
    rw [hr, read_n200] at o2
    cases s
    · exact absurd o1 (by decide)
    · exact absurd o2 (by decide)
  | number s m e =>
    unfold Format.order at o1 o2
    rw [hr, hz] at o1
    rw [hr, read_n200] at o2
    have c1 : (some (compare (signed s m (e - min e (-1074)).toNat) (signed false 0 (-1074 - min e (-1074)).toNat)) == some Ordering.gt) = false := o1
    have c2 : (some (compare (signed s m (e - min e (-45)).toNat) (signed true 7036874417766400 (-45 - min e (-45)).toNat)) == some Ordering.lt) = false := o2
    rw [cmp_gt_iff, signed_zero] at c1
    rw [cmp_lt_iff] at c2
    have hs : s = true ∨ m = 0 := by
      cases s with
      | true => exact .inl rfl
      | false =>
        right
        cases Nat.eq_zero_or_pos m with
        | inl h => exact h
        | inr h => have := sgn_pos m (e - min e (-1074)).toNat h; exact absurd this (of_decide_eq_false c1)
    have hv : V m e 8 := by
      rcases hs with rfl | rfl
      · refine ⟨min e (-45), by omega, by omega, ?_⟩
        have c3 := of_decide_eq_false c2
        rw [sgn_neg, sgn_neg, signed_false, signed_false] at c3
        have c4 : m <<< (e - min e (-45)).toNat ≤ 7036874417766400 <<< (-45 - min e (-45)).toNat := by
          generalize m <<< (e - min e (-45)).toNat = a at *
          generalize (7036874417766400 : Nat) <<< (-45 - min e (-45)).toNat = b at *
          omega
        rw [Nat.shiftLeft_eq, Nat.shiftLeft_eq] at c4
        have e1 : (8 - min e (-45)).toNat = 53 + (-45 - min e (-45)).toNat := by omega
        rw [e1, Nat.pow_add]
        exact Nat.le_trans c4 (Nat.mul_le_mul_right _ (by decide))
      · exact V.zero _ _
    have hbd : Bd .f64 (exT x) 0 := by
      have := Bd.quo (k := .f64) (x := wi x) (y := c256) (q := 8) (r := 8) ⟨s, m, e, hr, hv⟩ lo_256 (by decide) (by decide)
      exact this
    have hq : ∃ M p, floatBits .quo .f64 (wi x) c256 = some (double.nearest s M p) ∧ (m = 0 → M = 0) := by
      show ∃ M p, double.div (wi x) c256 = _ ∧ _
      unfold Format.div
      rw [hr, read_256]
      unfold Datum.quotient
      simp only [if_neg (by decide : ¬ (4503599627370496 : Nat) = 0)]
      exact ⟨_, _, by rw [Bool.xor_false]; rfl, fun h => by subst h; simp⟩
    obtain ⟨M, p, hb, h0⟩ := hq
    unfold exT at hbd ⊢
    rw [ar_some hb] at hbd ⊢
    by_cases hM : M = 0
    · rw [hM]; exact near0 _ _ _ _
    · have hm0 : m ≠ 0 := fun h => hM (h0 h)
      obtain ⟨s', m2, e2, hr2, hv2⟩ := hbd
      replace hr2 : double.read (double.nearest s M p) = .number s' m2 e2 := hr2
      obtain ⟨r, hr3, hr4⟩ := near_word64 s M p
      have hsg := read_sign' double _ s' m2 e2 hr2
      rw [hr4, (word_rung double s r hr3).2] at hsg
      exact ⟨s', m2, e2, hr2, .inl (by rw [← hsg]; exact hs.resolve_right hm0), hv2⟩
theorem exW_ok {x : Nat} (hx : isN .f32 x = false) (h1 : gt32 x 0 = false) (h2 : lt32 x 3276275712 = false) :
    SB false (sqE (polE (exT x) 12) 8) 0 ∧ naOk (sqE (polE (exT x) 12) 8) = true ∧ finB .f32 (na (sqE (polE (exT x) 12) 8)) = true := by
  have h := sqE_sb (polE_sb (exT_sb hx h1 h2) 12 (by decide)) 8
  have h3 := Bd.naOk h.bd (by decide) (by decide)
  exact ⟨h, h3.1, h3.2.fin⟩
theorem exX_fin {x : Nat} (hx : isN .f32 x = false) (h1 : gt32 x 0 = false) : finB .f32 (exX x) = true := by
  unfold exX
  cases h2 : lt32 x 3276275712 with
  | true => rw [if_pos rfl]; decide
  | false => exact (exW_ok hx h1 h2).2.2
/-- The bell's place: -0.5 times u times u. -/
def beX (u : Nat) : Nat := ar .mul .f32 (ar .mul .f32 3204448256 u) u
theorem read_mhalf : single.read 3204448256 = .number true 8388608 (-24) := by decide
theorem neg_gt {x : Nat} (h : (∃ m e, single.read x = .number true m e) ∨ single.read x = .infinity true) : isN .f32 x = false ∧ gt32 x 0 = false := by
  rcases h with ⟨m, e, h⟩ | h
  · refine ⟨nan_fin (num_fin h), ?_⟩
    unfold gt32
    rw [order_num h read_0, cmp_gt_iff, signed_zero, sgn_neg]
    have := sgn_nn m (e - min e (-149)).toNat
    exact decide_eq_false (by omega)
  · refine ⟨by unfold isN; rw [show FloatKind.f32.format.read x = _ from h]; rfl, ?_⟩
    unfold gt32
    show (single.order x 0 == some .gt) = false
    unfold Format.order
    rw [h, read_0]
    decide
theorem ng_near (M : Nat) (p : Int) : (∃ m e, single.read (single.nearest true M p) = .number true m e) ∨ single.read (single.nearest true M p) = .infinity true := by
  rcases near_read true M p with ⟨m, e, h, _⟩ | h
  · exact .inl ⟨m, e, h⟩
  · exact .inr h
theorem beX_le {u : Nat} (hu : isN .f32 u = false) : isN .f32 (beX u) = false ∧ gt32 (beX u) 0 = false := by
  refine neg_gt ?_
  unfold beX
  rcases isN_num hu with ⟨s, n, j, hr⟩ | ⟨s, hr⟩
  · have h : floatBits .mul .f32 3204448256 u = some (single.nearest (true ^^ s) (8388608 * n) (-24 + j)) := by
      rw [mul_bits', read_mhalf, hr]; rfl
    rw [ar_some h]
    rcases near_read (true ^^ s) (8388608 * n) (-24 + j) with ⟨m', e', h1, h2⟩ | h1
    · have h3 : floatBits .mul .f32 (single.nearest (true ^^ s) (8388608 * n) (-24 + j)) u = some (single.nearest true (m' * n) (e' + j)) := by
        rw [mul_bits', h1, hr]
        show Option.map single.write (some (.number ((true ^^ s) ^^ s) (m' * n) (e' + j))) = _
        rw [Bool.xor_assoc, Bool.xor_self, Bool.xor_false]; rfl
      rw [ar_some h3]; exact ng_near _ _
    · have hn : n ≠ 0 := by
        rintro rfl
        rw [Nat.mul_zero, nearest_zero] at h1
        rcases word_read (true ^^ s) 0 (by decide) with ⟨m', e', h2, _⟩ | h2
        · rw [h1] at h2; cases h2
        · cases s <;> exact absurd h2 (by decide)
      have h3 : floatBits .mul .f32 (single.nearest (true ^^ s) (8388608 * n) (-24 + j)) u = some (single.write (.infinity true)) := by
        rw [mul_bits', h1, hr]
        show Option.map single.write (if n = 0 then none else some (.infinity ((true ^^ s) ^^ s))) = _
        rw [if_neg hn, Bool.xor_assoc, Bool.xor_self, Bool.xor_false]; rfl
      rw [ar_some h3]; exact .inr (read_winf true)
  · have h : floatBits .mul .f32 3204448256 u = some (single.write (.infinity (s ^^ true))) := by
      rw [mul_bits', read_mhalf, hr]
      show Option.map single.write (if (8388608 : Nat) = 0 then none else some (.infinity (s ^^ true))) = _
      rw [if_neg (by decide)]; rfl
    rw [ar_some h]
    have h2 : floatBits .mul .f32 (single.write (.infinity (s ^^ true))) u = some (single.write (.infinity true)) := by
      rw [mul_bits', read_winf, hr]
      show Option.map single.write (some (.infinity ((s ^^ true) ^^ s))) = _
      rw [Bool.xor_comm s true, Bool.xor_assoc, Bool.xor_self, Bool.xor_false]; rfl
    rw [ar_some h2]; exact .inr (read_winf true)
theorem ps_read {x : Nat} (h : psB x = true) : ∃ m e, single.read x = .number false m e ∧ m ≠ 0 := by
  unfold psB at h
  rw [Bool.and_eq_true] at h
  obtain ⟨s, m, e, hr⟩ := fin_num h.1
  have h2 := h.2
  unfold gt32 at h2
  rw [order_num hr read_0, cmp_gt_iff, signed_zero] at h2
  have h3 := of_decide_eq_true h2
  cases s with
  | false =>
    refine ⟨m, e, hr, fun h0 => ?_⟩
    subst h0
    rw [signed_zero] at h3
    omega
  | true =>
    rw [sgn_neg] at h3
    have := sgn_nn m (e - min e (-149)).toNat
    omega
theorem quo_ps {s x : Nat} (hs : isN .f32 s = false) (hx : psB x = true) : isN .f32 (ar .quo .f32 s x) = false := by
  obtain ⟨m, e, hr, hm⟩ := ps_read hx
  have hb : floatBits .quo .f32 s x = (Datum.quotient (single.fractionBits + 2) (single.read s) (single.read x)).map single.write := rfl
  rcases isN_num hs with ⟨a, k, j, h⟩ | ⟨a, h⟩
  · have h3 : ∃ d, Datum.quotient (single.fractionBits + 2) (.number a k j) (.number false m e) = some d := by
      unfold Datum.quotient
      simp only [if_neg hm]
      exact ⟨_, rfl⟩
    obtain ⟨d, hd⟩ := h3
    exact some_not (r := single.write d) (by rw [hb, h, hr, hd]; rfl)
  · exact some_not (r := _) (by rw [hb, h, hr]; rfl)
theorem le_0n {a : Nat} (ha : isN .f32 a = false) : (FloatKind.f32.format.order a 0 == some .lt || FloatKind.f32.format.order a 0 == some .eq) = !gt32 a 0 := by
  unfold gt32
  rcases isN_num ha with ⟨s, m, e, hr⟩ | ⟨s, hr⟩
  · rw [order_num hr read_0]
    rcases Int.lt_trichotomy (signed s m (e - min e (-149)).toNat) (signed false 0 (-149 - min e (-149)).toNat) with h | h | h
    · rw [cmp_lt h]; rfl
    · rw [cmp_eq h]; rfl
    · rw [cmp_gt h]; rfl
  · have : FloatKind.f32.format.order a 0 = some (if s then .lt else .gt) := by
      show single.order a 0 = _
      unfold Format.order
      rw [hr, read_0]
      rfl
    rw [this]
    cases s <;> rfl
theorem read_200 : single.read 1128792064 = .number false 13107200 (-16) := by decide
theorem le_200 {x : Nat} (hx : isN .f32 x = false) (h1 : gt32 x 0 = false) : gt32 x 1128792064 = false := by
  unfold gt32 at *
  rcases isN_num hx with ⟨s, m, e, hr⟩ | ⟨s, hr⟩
  · rw [order_num hr read_0, cmp_gt_iff, signed_zero] at h1
    rw [order_num hr read_200, cmp_gt_iff]
    have h2 := of_decide_eq_false h1
    refine decide_eq_false ?_
    have h3 := sgn_nn 13107200 (-16 - min e (-16)).toNat
    cases s with
    | true => rw [sgn_neg]; have := sgn_nn m (e - min e (-16)).toNat; omega
    | false =>
      cases Nat.eq_zero_or_pos m with
      | inl h => subst h; rw [signed_zero]; omega
      | inr h => have := sgn_pos m (e - min e (-149)).toNat h; omega
  · have o1 : (single.order x 0 == some .gt) = false := h1
    show (single.order x 1128792064 == some .gt) = false
    unfold Format.order at *
    rw [hr, read_0] at o1
    rw [hr, read_200]
    cases s
    · exact absurd o1 (by decide)
    · decide
theorem wi_200 : wi 1128792064 = 4641240890982006784 := by decide
theorem wi_n200 : wi 3276275712 = 13864612927836782592 := by decide
end Go.Proofs.Ytfbdmhkmkmbipaa.Fl
