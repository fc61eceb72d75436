/-
  Numbers that are brought nearer to nothing, as plain functions of bits (no program in it).
-/
import Derived.Test.YtfbdmhkmkmbipaaFloAbs
namespace Go.Proofs.Ytfbdmhkmkmbipaa.Fl
open Ieee
set_option linter.unusedVariables false
def gt32 (x c : Nat) : Bool := FloatKind.f32.format.order x c == some .gt
def lt32 (x c : Nat) : Bool := FloatKind.f32.format.order x c == some .lt
/-- Finite and at least nothing; finite and greater than nothing. -/
def lsB (x : Nat) : Bool := finB .f32 x && geB' x 0
def psB (x : Nat) : Bool := finB .f32 x && gt32 x 0
theorem fin_num {x : Nat} (h : finB .f32 x = true) : ∃ s m e, single.read x = .number s m e := by
  unfold finB at h
  cases hr : FloatKind.f32.format.read x with
  | number s m e => exact ⟨s, m, e, hr⟩
  | infinity s => rw [hr] at h; cases h
  | nan s t => rw [hr] at h; cases h
theorem num_fin {x : Nat} {s : Bool} {m : Nat} {e : Int} (h : single.read x = .number s m e) : finB .f32 x = true := by
  unfold finB
  rw [show FloatKind.f32.format.read x = _ from h]
theorem nan_fin {x : Nat} (h : finB .f32 x = true) : isN .f32 x = false := by
  obtain ⟨s, m, e, hr⟩ := fin_num h
  unfold isN
  rw [show FloatKind.f32.format.read x = _ from hr]
  rfl
theorem cn_fin {x : Nat} (h : finB .f32 x = true) : cn .f32 x = x := cn_of_not (nan_fin h)
theorem neg32 (x : Nat) (hx : x < 2 ^ 32) : Op.negFloat .f32 x = if x < 2 ^ 31 then x + 2 ^ 31 else x - 2 ^ 31 := by
  have h1 : (x ^^^ 2 ^ 31) % 2 ^ 31 = x % 2 ^ 31 := by rw [Nat.xor_mod_two_pow, Nat.mod_self, Nat.xor_zero]
  have h2 : (x ^^^ 2 ^ 31) / 2 ^ 31 = (x / 2 ^ 31) ^^^ 1 := by rw [Nat.xor_div_two_pow]
  have h3 : x / 2 ^ 31 = 0 ∨ x / 2 ^ 31 = 1 := by omega
  show x ^^^ 2 ^ 31 = _
  rcases h3 with h3 | h3
  · rw [h3] at h2
    rw [if_pos (by omega)]
    have : (0 ^^^ 1 : Nat) = 1 := by decide
    rw [this] at h2
    omega
  · rw [h3] at h2
    rw [if_neg (by omega)]
    have : (1 ^^^ 1 : Nat) = 0 := by decide
    rw [this] at h2
    omega
theorem read_neg32 (x : Nat) (hx : x < 2 ^ 32) : single.read (Op.negFloat .f32 x) = (single.read x).opposite := by
  rw [neg32 x hx]
  unfold Format.read
  rw [sgl_sw]
  by_cases h : x < 2 ^ 31
  · rw [if_pos h]
    have e1 : (x + 2 ^ 31) % 2 ^ 31 = x % 2 ^ 31 := by omega
    have e2 : (x + 2 ^ 31) / 2 ^ 31 % 2 = 1 := by omega
    have e3 : x / 2 ^ 31 % 2 = 0 := by omega
    simp only [e1, e2, e3]
    split
    · rfl
    · split
      · rfl
      · split <;> rfl
  · rw [if_neg h]
    have e1 : (x - 2 ^ 31) % 2 ^ 31 = x % 2 ^ 31 := by omega
    have e2 : (x - 2 ^ 31) / 2 ^ 31 % 2 = 0 := by omega
    have e3 : x / 2 ^ 31 % 2 = 1 := by omega
    simp only [e1, e2, e3]
    split
    · rfl
    · split
      · rfl
      · split <;> rfl
theorem neg_lt32 (x : Nat) (hx : x < 2 ^ 32) : Op.negFloat .f32 x < 2 ^ 32 := by rw [neg32 x hx]; split <;> omega
theorem neg_nearest (M : Nat) (p : Int) : Op.negFloat .f32 (single.nearest false M p) = single.nearest true M p := by
  have key : ∀ r, r < 2 ^ 31 → Op.negFloat .f32 (single.word false r) = single.word true r := by
    intro r hr
    have e1 : single.word false r = r := rfl
    have e2 : single.word true r = 2 ^ 31 + r := rfl
    rw [e1, e2, neg32 r (by omega), if_pos hr]
    omega
  unfold Format.nearest
  by_cases h : M = 0
  · rw [if_pos h, if_pos h]
    exact key 0 (by decide)
  · rw [if_neg h, if_neg h]
    have hi : single.infRung < 2 ^ 31 := by decide
    exact key _ (Nat.lt_of_le_of_lt (Nat.min_le_right _ _) hi)
theorem signed_not (s : Bool) (m u : Nat) : signed (!s) m u = - signed s m u := by cases s <;> simp [signed]
theorem signed_false (m u : Nat) : signed false m u = ((m <<< u : Nat) : Int) := rfl
theorem signed_true (m u : Nat) : signed true m u = -((m <<< u : Nat) : Int) := rfl
theorem sgn_nn (m u : Nat) : 0 ≤ signed false m u := Int.natCast_nonneg _
theorem sgn_pos (m u : Nat) (h : 0 < m) : 0 < signed false m u := by
  rw [signed_false, Nat.shiftLeft_eq]
  exact Int.natCast_pos.mpr (Nat.mul_pos h (Nat.pow_pos (by decide)))
theorem sgn_neg (m u : Nat) : signed true m u = - signed false m u := rfl
theorem order_num {x y : Nat} {s t : Bool} {m n : Nat} {i j : Int} (hx : single.read x = .number s m i) (hy : single.read y = .number t n j) :
    FloatKind.f32.format.order x y = some (compare (signed s m (i - min i j).toNat) (signed t n (j - min i j).toNat)) := by
  show single.order x y = _
  unfold Format.order
  rw [hx, hy]
  rfl
theorem cmp_gt_iff (a b : Int) : (some (compare a b) == some Ordering.gt) = decide (b < a) := by
  rcases Int.lt_trichotomy a b with h | h | h
  · rw [cmp_lt h, decide_eq_false (by omega)]; rfl
  · rw [cmp_eq h, decide_eq_false (by omega)]; rfl
  · rw [cmp_gt h, decide_eq_true h]; rfl
theorem cmp_lt_iff (a b : Int) : (some (compare a b) == some Ordering.lt) = decide (a < b) := by
  rcases Int.lt_trichotomy a b with h | h | h
  · rw [cmp_lt h, decide_eq_true h]; rfl
  · rw [cmp_eq h, decide_eq_false (by omega)]; rfl
  · rw [cmp_gt h, decide_eq_false (by omega)]; rfl
theorem cmp_eq_iff (a b : Int) : (some (compare a b) == some Ordering.eq) = decide (a = b) := by
  rcases Int.lt_trichotomy a b with h | h | h
  · rw [cmp_lt h, decide_eq_false (by omega)]; rfl
  · rw [cmp_eq h, decide_eq_true h]; rfl
  · rw [cmp_gt h, decide_eq_false (by omega)]; rfl
/-- The sum of two numbers is no not-a-number. -/
theorem sum_nums {x y : Nat} (hx : finB .f32 x = true) (hy : finB .f32 y = true) : isN .f32 (ar .add .f32 x y) = false := by
  obtain ⟨s, m, i, hx'⟩ := fin_num hx
  obtain ⟨t, n, j, hy'⟩ := fin_num hy
  have hb : floatBits .add .f32 x y = Option.map single.write (Datum.sum (.number s m i) (.number t n j)) := by
    show single.add x y = _
    unfold Format.add
    rw [hx', hy']
  have hb2 : ∃ r, floatBits .add .f32 x y = some r := by rw [hb]; unfold Datum.sum; exact ⟨_, rfl⟩
  obtain ⟨r, hr⟩ := hb2
  rw [ar_some hr]
  exact bits_not hr
theorem dif_nums {x y : Nat} (hx : finB .f32 x = true) (hy : finB .f32 y = true) : isN .f32 (ar .sub .f32 x y) = false := by
  obtain ⟨s, m, i, hx'⟩ := fin_num hx
  obtain ⟨t, n, j, hy'⟩ := fin_num hy
  have hb : floatBits .sub .f32 x y = Option.map single.write (Datum.sum (.number s m i) (.number (!t) n j)) := by
    show single.sub x y = _
    unfold Format.sub
    rw [hx', hy']
    rfl
  have hb2 : ∃ r, floatBits .sub .f32 x y = some r := by rw [hb]; unfold Datum.sum; exact ⟨_, rfl⟩
  obtain ⟨r, hr⟩ := hb2
  rw [ar_some hr]
  exact bits_not hr
theorem ls_read {l : Nat} (h : lsB l = true) : ∃ t n j, single.read l = .number t n j ∧ 0 ≤ signed t n 0 := by
  unfold lsB at h
  rw [Bool.and_eq_true] at h
  obtain ⟨t, n, j, hl⟩ := fin_num h.1
  refine ⟨t, n, j, hl, ?_⟩
  have h2 := h.2
  unfold geB' at h2
  rw [order_num hl read_0, cmp_gt_iff, cmp_eq_iff, signed_zero] at h2
  cases t with
  | false => exact sgn_nn _ _
  | true =>
    by_cases h4 : n = 0
    · subst h4; rw [signed_zero]; exact Int.le_refl _
    · exfalso
      have h5 := sgn_pos n (j - min j (-149)).toNat (by omega)
      rw [sgn_neg] at h2
      simp only [Bool.or_eq_true, decide_eq_true_eq] at h2
      omega
theorem signed_ls {t : Bool} {n : Nat} (h : 0 ≤ signed t n 0) (u : Nat) : 0 ≤ signed t n u := by
  cases t with
  | false => exact sgn_nn _ _
  | true =>
    by_cases h4 : n = 0
    · subst h4; rw [signed_zero]; exact Int.le_refl _
    · exfalso
      have h5 := sgn_pos n 0 (by omega)
      rw [sgn_neg] at h
      omega
def shF (hard : Bool) (x l : Nat) : Nat :=
  if gt32 (x % 2 ^ 31) l then (if hard then x else if lt32 x 0 then ar .add .f32 x l else ar .sub .f32 x l) else 0
theorem abs_lt (x : Nat) : x % 2 ^ 31 < 2 ^ 32 := Nat.lt_of_lt_of_le (Nat.mod_lt _ (by decide)) (by decide)
theorem abs_fin {x : Nat} (h : finB .f32 x = true) : finB .f32 (x % 2 ^ 31) = true := by
  obtain ⟨s, m, e, hr⟩ := fin_num h
  have := read_mod32 x
  rw [hr] at this
  exact num_fin this
/-- What the numbers' signs tell. -/
theorem shr_cases {x l : Nat} (hx : x < 2 ^ 32) (hl2 : l < 2 ^ 32) (hf : finB .f32 x = true) (hl : lsB l = true) :
    (gt32 x l = gt32 (x % 2 ^ 31) l ∧ lt32 x (Op.negFloat .f32 l) = false ∧ (gt32 x l = true → x % 2 ^ 31 = x ∧ lt32 x 0 = false)) ∨
    (gt32 x l = false ∧ lt32 x (Op.negFloat .f32 l) = gt32 (x % 2 ^ 31) l ∧ (gt32 (x % 2 ^ 31) l = true → lt32 x 0 = true ∧ Op.negFloat .f32 (ar .sub .f32 (x % 2 ^ 31) l) = ar .add .f32 x l)) := by
  obtain ⟨s, m, e, hr⟩ := fin_num hf
  obtain ⟨t, n, j, hlr, hn⟩ := ls_read hl
  have hm := read_mod32 x
  rw [hr] at hm
  simp only [] at hm
  have hng := read_neg32 l hl2
  rw [hlr] at hng
  have hN : 0 ≤ signed t n (j - min e j).toNat := signed_ls hn _
  have hsg : (x / 2 ^ 31 % 2 == 1) = s := by have := read_sign' single x s m e hr; rw [sgl_sw] at this; exact this
  unfold gt32 lt32
  rw [order_num hr hlr, order_num hm hlr, order_num hr (show single.read (Op.negFloat .f32 l) = .number (!t) n j from hng), cmp_gt_iff, cmp_gt_iff, cmp_lt_iff, signed_not]
  cases s with
  | false =>
    left
    have hM : 0 ≤ signed false m (e - min e j).toNat := sgn_nn _ _
    refine ⟨rfl, decide_eq_false (by omega), fun hg => ?_⟩
    have : ¬ x / 2 ^ 31 % 2 = 1 := by simpa using hsg
    refine ⟨by omega, ?_⟩
    rw [order_num hr read_0, cmp_lt_iff, signed_zero]
    exact decide_eq_false (by have := sgn_nn m (e - min e (-149)).toNat; omega)
  | true =>
    right
    have hM : 0 ≤ signed false m (e - min e j).toNat := sgn_nn _ _
    have hneg : signed true m (e - min e j).toNat = - signed false m (e - min e j).toNat := sgn_neg _ _
    rw [hneg]
    refine ⟨decide_eq_false (by omega), by rw [decide_eq_decide]; omega, fun hg => ?_⟩
    have hg := of_decide_eq_true hg
    refine ⟨?_, ?_⟩
    · rw [order_num hr read_0, cmp_lt_iff, signed_zero]
      refine decide_eq_true ?_
      have hm0 : m ≠ 0 := by
        rintro rfl
        rw [signed_zero] at hg
        omega
      rw [sgn_neg]
      have := sgn_pos m (e - min e (-149)).toNat (by omega)
      omega
    · have h1 : floatBits .sub .f32 (x % 2 ^ 31) l = some (single.nearest false (signed false m (e - min e j).toNat - signed t n (j - min e j).toNat).natAbs (min e j)) := by
        show single.sub _ _ = _
        unfold Format.sub
        rw [hm, hlr]
        show Option.map single.write (Datum.sum (.number false m e) (.number (!t) n j)) = _
        unfold Datum.sum
        simp only [signed_not]
        have e0 : signed false m (e - min e j).toNat + -signed t n (j - min e j).toNat = signed false m (e - min e j).toNat - signed t n (j - min e j).toNat := by omega
        rw [e0, if_neg (by omega)]
        rw [decide_eq_false (by omega)]
        rfl
      have h2 : floatBits .add .f32 x l = some (single.nearest true (signed false m (e - min e j).toNat - signed t n (j - min e j).toNat).natAbs (min e j)) := by
        show single.add _ _ = _
        unfold Format.add
        rw [hr, hlr]
        unfold Datum.sum
        simp only [hneg]
        have e0 : (-signed false m (e - min e j).toNat + signed t n (j - min e j).toNat) = -(signed false m (e - min e j).toNat - signed t n (j - min e j).toNat) := by omega
        rw [e0, if_neg (by omega), decide_eq_true (by omega), Int.natAbs_neg]
        rfl
      rw [ar_some h1, ar_some h2]
      exact neg_nearest _ _
theorem shF_lt {hard : Bool} {x l : Nat} (hx : x < 2 ^ 32) (hl : l < 2 ^ 32) (har : ∀ op a b, ar op .f32 a b < 2 ^ 32) : shF hard x l < 2 ^ 32 := by
  unfold shF
  repeat' split
  all_goals first | exact hx | exact har _ _ _ | decide
end Go.Proofs.Ytfbdmhkmkmbipaa.Fl
