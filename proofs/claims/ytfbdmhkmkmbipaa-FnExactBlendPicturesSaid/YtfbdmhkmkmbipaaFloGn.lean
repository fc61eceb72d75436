/-
  Gains as plain functions: numbers that are at least nothing; what is finite of sums and products (no program in it).
-/
import Derived.Test.YtfbdmhkmkmbipaaFloQn
namespace Go.Proofs.Ytfbdmhkmkmbipaa.Fl
open Ieee
set_option linter.unusedVariables false
/-- At least +0, or infinite. -/
def Nn (x : Nat) : Prop := (∃ m e, single.read x = .number false m e) ∨ single.read x = .infinity false
theorem word_read (s : Bool) (r : Nat) (hr : r ≤ 2139095040) : (∃ m e, single.read (single.word s r) = .number s m e ∧ (r = 0 → m = 0)) ∨ single.read (single.word s r) = .infinity s := by
  have h := word_rung single s r (by rw [sgl_sw]; omega)
  unfold Format.read
  rw [h.1, h.2, sgl_bi, sgl_inf]
  simp only []
  by_cases h1 : r < 2 ^ 23
  · rw [if_pos h1]
    exact .inl ⟨_, _, rfl, fun h => h⟩
  · rw [if_neg h1]
    by_cases h2 : r < 255 * 2 ^ 23
    · rw [if_pos h2]
      exact .inl ⟨_, _, rfl, fun h => by omega⟩
    · rw [if_neg h2, if_pos (by omega)]
      exact .inr rfl
theorem near_read (s : Bool) (M : Nat) (p : Int) : (∃ m e, single.read (single.nearest s M p) = .number s m e ∧ (M = 0 → m = 0)) ∨ single.read (single.nearest s M p) = .infinity s := by
  unfold Format.nearest
  by_cases h : M = 0
  · rw [if_pos h]
    rcases word_read s 0 (by decide) with ⟨m, e, h1, h2⟩ | h1
    · exact .inl ⟨m, e, h1, fun _ => h2 rfl⟩
    · exact .inr h1
  · rw [if_neg h]
    rcases word_read s _ (Nat.le_trans (Nat.min_le_right _ _) (by decide : single.infRung ≤ 2139095040)) with ⟨m, e, h1, h2⟩ | h1
    · exact .inl ⟨m, e, h1, fun h' => absurd h' h⟩
    · exact .inr h1
theorem nn_near (M : Nat) (p : Int) : Nn (single.nearest false M p) := by
  rcases near_read false M p with ⟨m, e, h1, _⟩ | h1
  · exact .inl ⟨m, e, h1⟩
  · exact .inr h1
theorem read_winf (s : Bool) : single.read (single.write (.infinity s)) = .infinity s := by cases s <;> decide
theorem nn_inf : Nn (single.write (.infinity false)) := .inr (read_winf false)
theorem nn_not {x : Nat} (h : Nn x) : isN .f32 x = false := by
  unfold isN
  rcases h with ⟨m, e, h⟩ | h
  · rw [show FloatKind.f32.format.read x = _ from h]; rfl
  · rw [show FloatKind.f32.format.read x = _ from h]; rfl
theorem add_bits' (x y : Nat) : floatBits .add .f32 x y = (Datum.sum (single.read x) (single.read y)).map single.write := rfl
theorem sub_bits' (x y : Nat) : floatBits .sub .f32 x y = (Datum.sum (single.read x) (single.read y).opposite).map single.write := rfl
theorem mul_bits' (x y : Nat) : floatBits .mul .f32 x y = (Datum.product (single.read x) (single.read y)).map single.write := rfl
theorem nn_add {x y : Nat} (hx : Nn x) (hy : Nn y) : Nn (ar .add .f32 x y) := by
  rcases hx with ⟨m, i, hx⟩ | hx <;> rcases hy with ⟨n, j, hy⟩ | hy
  · have h : floatBits .add .f32 x y = some (single.nearest false (signed false m (i - min i j).toNat + signed false n (j - min i j).toNat).natAbs (min i j)) := by
      rw [add_bits', hx, hy]
      unfold Datum.sum
      have h1 := sgn_nn m (i - min i j).toNat
      have h2 := sgn_nn n (j - min i j).toNat
      simp only [Bool.and_self]
      have h3 : (if signed false m (i - min i j).toNat + signed false n (j - min i j).toNat = 0 then false else decide (signed false m (i - min i j).toNat + signed false n (j - min i j).toNat < 0)) = false := by
        split
        · rfl
        · exact decide_eq_false (by omega)
      rw [h3]
      rfl
    rw [ar_some h]; exact nn_near _ _
  · have h : floatBits .add .f32 x y = some (single.write (.infinity false)) := by rw [add_bits', hx, hy]; rfl
    rw [ar_some h]; exact nn_inf
  · have h : floatBits .add .f32 x y = some (single.write (.infinity false)) := by rw [add_bits', hx, hy]; rfl
    rw [ar_some h]; exact nn_inf
  · have h : floatBits .add .f32 x y = some (single.write (.infinity false)) := by rw [add_bits', hx, hy]; rfl
    rw [ar_some h]; exact nn_inf
theorem nn_part {c a m : Nat} {e : Int} (hc : single.read c = .number false m e) (hm : m ≠ 0) (ha : isN .f32 a = false) : Nn (ar .mul .f32 (ar .mul .f32 c a) a) := by
  cases hr : single.read a with
  | nan s t => unfold isN at ha; rw [show FloatKind.f32.format.read a = _ from hr] at ha; simp [Datum.isNaN] at ha
  | infinity s =>
    have h : floatBits .mul .f32 c a = some (single.write (.infinity s)) := by
      rw [mul_bits', hc, hr]
      show Option.map single.write (if m = 0 then none else some (.infinity (s ^^ false))) = _
      rw [if_neg hm, Bool.xor_false]; rfl
    rw [ar_some h]
    have h2 : floatBits .mul .f32 (single.write (.infinity s)) a = some (single.write (.infinity false)) := by
      rw [mul_bits', read_winf, hr]
      show Option.map single.write (some (.infinity (s ^^ s))) = _
      rw [Bool.xor_self]; rfl
    rw [ar_some h2]; exact nn_inf
  | number s n j =>
    have h : floatBits .mul .f32 c a = some (single.nearest s (m * n) (e + j)) := by
      rw [mul_bits', hc, hr]
      show Option.map single.write (some (.number (false ^^ s) (m * n) (e + j))) = _
      rw [Bool.false_xor]; rfl
    rw [ar_some h]
    rcases near_read s (m * n) (e + j) with ⟨m', e', h1, h2⟩ | h1
    · have h3 : floatBits .mul .f32 (single.nearest s (m * n) (e + j)) a = some (single.nearest false (m' * n) (e' + j)) := by
        rw [mul_bits', h1, hr]
        show Option.map single.write (some (.number (s ^^ s) (m' * n) (e' + j))) = _
        rw [Bool.xor_self]; rfl
      rw [ar_some h3]; exact nn_near _ _
    · have hn : n ≠ 0 := by
        rintro rfl
        rw [Nat.mul_zero, nearest_zero] at h1
        have := word_read s 0 (by decide)
        rcases this with ⟨m', e', h2, _⟩ | h2
        · rw [h1] at h2; cases h2
        · cases s <;> exact absurd h2 (by decide)
      have h3 : floatBits .mul .f32 (single.nearest s (m * n) (e + j)) a = some (single.write (.infinity false)) := by
        rw [mul_bits', h1, hr]
        show Option.map single.write (if n = 0 then none else some (.infinity (s ^^ s))) = _
        rw [if_neg hn, Bool.xor_self]; rfl
      rw [ar_some h3]; exact nn_inf
theorem ar_none {op : BinOp} {x y : Nat} (h : floatBits op .f32 x y = none) : ar op .f32 x y = qn .f32 := by
  unfold ar; rw [bits_cn, h]; rfl
theorem fin_winf (s : Bool) : finB .f32 (single.write (.infinity s)) = false := by cases s <;> decide
theorem fin_qn : finB .f32 (qn .f32) = false := by decide
theorem sum_fin {x : Nat} {d1 d2 : Datum} {op : BinOp} (y : Nat) (hb : floatBits op .f32 x y = (Datum.sum d1 d2).map single.write) (h : finB .f32 (ar op .f32 x y) = true) : (∃ s m e, d1 = .number s m e) ∧ ∃ s m e, d2 = .number s m e := by
  cases d1 with
  | number s m e =>
    cases d2 with
    | number t n j => exact ⟨⟨_, _, _, rfl⟩, ⟨_, _, _, rfl⟩⟩
    | infinity t =>
      have hb' : floatBits op .f32 x y = some (single.write (.infinity t)) := hb
      rw [ar_some hb', fin_winf] at h; cases h
    | nan t u =>
      have hb' : floatBits op .f32 x y = none := hb
      rw [ar_none hb', fin_qn] at h; cases h
  | infinity s =>
    exfalso
    cases d2 with
    | number t n j =>
      have hb' : floatBits op .f32 x y = some (single.write (.infinity s)) := hb
      rw [ar_some hb', fin_winf] at h; cases h
    | infinity t =>
      by_cases hst : s = t
      · have hb' : floatBits op .f32 x y = some (single.write (.infinity s)) := by rw [hb]; show Option.map _ (if s = t then _ else _) = _; rw [if_pos hst]; rfl
        rw [ar_some hb', fin_winf] at h; cases h
      · have hb' : floatBits op .f32 x y = none := by rw [hb]; show Option.map _ (if s = t then _ else _) = _; rw [if_neg hst]; rfl
        rw [ar_none hb', fin_qn] at h; cases h
    | nan t u =>
      have hb' : floatBits op .f32 x y = none := hb
      rw [ar_none hb', fin_qn] at h; cases h
  | nan s u =>
    exfalso
    have hb' : floatBits op .f32 x y = none := by rw [hb]; cases d2 <;> rfl
    rw [ar_none hb', fin_qn] at h; cases h
theorem add_fin {x y : Nat} (h : finB .f32 (ar .add .f32 x y) = true) : finB .f32 x = true ∧ finB .f32 y = true := by
  obtain ⟨⟨s, m, e, h1⟩, ⟨t, n, j, h2⟩⟩ := sum_fin y (add_bits' x y) h
  exact ⟨num_fin h1, num_fin h2⟩
theorem sub_fin {x y : Nat} (h : finB .f32 (ar .sub .f32 x y) = true) : finB .f32 x = true ∧ finB .f32 y = true := by
  obtain ⟨⟨s, m, e, h1⟩, ⟨t, n, j, h2⟩⟩ := sum_fin y (sub_bits' x y) h
  refine ⟨num_fin h1, ?_⟩
  cases hy : single.read y with
  | number a b c => exact num_fin hy
  | infinity a => rw [hy] at h2; cases h2
  | nan a b => rw [hy] at h2; cases h2
theorem mul_fin {x y : Nat} (h : finB .f32 (ar .mul .f32 x y) = true) : finB .f32 x = true ∧ finB .f32 y = true := by
  have hb := mul_bits' x y
  cases hx : single.read x with
  | number s m e =>
    refine ⟨num_fin hx, ?_⟩
    cases hy : single.read y with
    | number t n j => exact num_fin hy
    | infinity t =>
      exfalso
      rw [hx, hy] at hb
      by_cases h0 : m = 0
      · have hb' : floatBits .mul .f32 x y = none := by rw [hb]; show Option.map _ (if m = 0 then _ else _) = _; rw [if_pos h0]; rfl
        rw [ar_none hb', fin_qn] at h; cases h
      · have hb' : floatBits .mul .f32 x y = some (single.write (.infinity (t ^^ s))) := by rw [hb]; show Option.map _ (if m = 0 then _ else _) = _; rw [if_neg h0]; rfl
        rw [ar_some hb', fin_winf] at h; cases h
    | nan t u =>
      exfalso
      rw [hx, hy] at hb
      have hb' : floatBits .mul .f32 x y = none := hb
      rw [ar_none hb', fin_qn] at h; cases h
  | infinity s =>
    exfalso
    rw [hx] at hb
    cases hy : single.read y with
    | number t n j =>
      rw [hy] at hb
      by_cases h0 : n = 0
      · have hb' : floatBits .mul .f32 x y = none := by rw [hb]; show Option.map _ (if n = 0 then _ else _) = _; rw [if_pos h0]; rfl
        rw [ar_none hb', fin_qn] at h; cases h
      · have hb' : floatBits .mul .f32 x y = some (single.write (.infinity (s ^^ t))) := by rw [hb]; show Option.map _ (if n = 0 then _ else _) = _; rw [if_neg h0]; rfl
        rw [ar_some hb', fin_winf] at h; cases h
    | infinity t =>
      rw [hy] at hb
      have hb' : floatBits .mul .f32 x y = some (single.write (.infinity (s ^^ t))) := hb
      rw [ar_some hb', fin_winf] at h; cases h
    | nan t u =>
      rw [hy] at hb
      have hb' : floatBits .mul .f32 x y = none := hb
      rw [ar_none hb', fin_qn] at h; cases h
  | nan s u =>
    exfalso
    rw [hx] at hb
    have hb' : floatBits .mul .f32 x y = none := by rw [hb]; cases single.read y <;> rfl
    rw [ar_none hb', fin_qn] at h; cases h
theorem gt_inf {x y : Nat} (hx : Nn x) (hy : Nn y) (h1 : finB .f32 x = false) (h2 : finB .f32 y = true) : gt32 x y = true := by
  rcases hx with ⟨m, e, hx⟩ | hx
  · rw [num_fin hx] at h1; cases h1
  · obtain ⟨s, n, j, hy'⟩ := fin_num h2
    unfold gt32
    show (single.order x y == some .gt) = true
    unfold Format.order
    rw [hx, hy']
    rfl
theorem gt_no {x y : Nat} (hx : Nn x) (hy : Nn y) (h2 : finB .f32 y = false) : gt32 x y = false := by
  rcases hy with ⟨m, e, hy⟩ | hy
  · rw [num_fin hy] at h2; cases h2
  · unfold gt32
    show (single.order x y == some .gt) = false
    unfold Format.order
    rw [hy]
    rcases hx with ⟨m, e, hx⟩ | hx
    · rw [hx]; rfl
    · rw [hx]; decide
/-- The best index and its gain, after the first k. -/
def bsK (g : Nat → Nat) : Nat → Nat × Nat
  | 0 => (0, 0)
  | k + 1 => if (bsK g k).1 = 0 ∨ gt32 (g (k + 1)) (bsK g k).2 = true then (k + 1, g (k + 1)) else bsK g k
theorem bsK_pos (g : Nat → Nat) : ∀ k, 1 ≤ k → 1 ≤ (bsK g k).1
  | 0, h => by omega
  | 1, _ => by simp [bsK]
  | k + 2, _ => by
    have := bsK_pos g (k + 1) (by omega)
    rw [bsK]
    split
    · show 1 ≤ k + 2; omega
    · exact this
theorem bsK_le (g : Nat → Nat) : ∀ k, (bsK g k).1 ≤ k
  | 0 => Nat.le_refl _
  | k + 1 => by
    have := bsK_le g k
    rw [bsK]
    split
    · exact Nat.le_refl _
    · omega
theorem bsK_one (g : Nat → Nat) : bsK g 1 = (1, g 1) := by simp [bsK]
theorem bsK_yes {g : Nat → Nat} {k : Nat} (h : (bsK g k).1 = 0 ∨ gt32 (g (k + 1)) (bsK g k).2 = true) : bsK g (k + 1) = (k + 1, g (k + 1)) := by rw [bsK, if_pos h]
theorem bsK_no {g : Nat → Nat} {k : Nat} (h : ¬ ((bsK g k).1 = 0 ∨ gt32 (g (k + 1)) (bsK g k).2 = true)) : bsK g (k + 1) = bsK g k := by rw [bsK, if_neg h]
theorem bsK_mem (g : Nat → Nat) : ∀ k, 1 ≤ k → ∃ i, 1 ≤ i ∧ i ≤ k ∧ (bsK g k).2 = g i
  | 0, h => by omega
  | 1, _ => ⟨1, by omega, by omega, by rw [bsK_one]⟩
  | k + 2, _ => by
    obtain ⟨i, h1, h2, h3⟩ := bsK_mem g (k + 1) (by omega)
    by_cases h : (bsK g (k + 1)).1 = 0 ∨ gt32 (g (k + 1 + 1)) (bsK g (k + 1)).2 = true
    · exact ⟨k + 2, by omega, by omega, by rw [bsK_yes h]⟩
    · exact ⟨i, h1, by omega, by rw [bsK_no h]; exact h3⟩
/-- The greatest gain is finite where all are so. -/
theorem bsK_fin (g : Nat → Nat) (K : Nat) (hg : ∀ i, 1 ≤ i → i ≤ K → Nn (g i)) : ∀ k, 1 ≤ k → k ≤ K → finB .f32 (bsK g k).2 = true → ∀ i, 1 ≤ i → i ≤ k → finB .f32 (g i) = true
  | 0, h, _, _ => by omega
  | 1, _, _, hf => by
    intro i h1 h2
    have : i = 1 := by omega
    subst this
    rw [bsK_one] at hf
    exact hf
  | k + 2, _, hK, hf => by
    obtain ⟨j, hj1, hj2, hj3⟩ := bsK_mem g (k + 1) (by omega)
    have hn : Nn (bsK g (k + 1)).2 := by rw [hj3]; exact hg j hj1 (by omega)
    by_cases h : (bsK g (k + 1)).1 = 0 ∨ gt32 (g (k + 1 + 1)) (bsK g (k + 1)).2 = true
    · rw [bsK_yes h] at hf
      have hp := bsK_pos g (k + 1) (by omega)
      have hgt := h.resolve_left (by omega)
      have hb : finB .f32 (bsK g (k + 1)).2 = true := by
        cases hc : finB .f32 (bsK g (k + 1)).2 with
        | true => rfl
        | false => rw [gt_no (hg _ (by omega) hK) hn hc] at hgt; cases hgt
      intro i h1 h2
      by_cases he : i = k + 2
      · subst he; exact hf
      · exact bsK_fin g K hg (k + 1) (by omega) (by omega) hb i h1 (by omega)
    · rw [bsK_no h] at hf
      intro i h1 h2
      by_cases he : i = k + 2
      · subst he
        cases hc : finB .f32 (g (k + 2)) with
        | true => rfl
        | false => exact absurd (Or.inr (gt_inf (hg _ (by omega) hK) hn hc hf)) h
      · exact bsK_fin g K hg (k + 1) (by omega) (by omega) hf i h1 (by omega)
theorem isN_num {x : Nat} (h : isN .f32 x = false) : (∃ s m e, single.read x = .number s m e) ∨ ∃ s, single.read x = .infinity s := by
  cases hr : single.read x with
  | number s m e => exact .inl ⟨s, m, e, rfl⟩
  | infinity s => exact .inr ⟨s, rfl⟩
  | nan s t => unfold isN at h; rw [show FloatKind.f32.format.read x = _ from hr] at h; simp [Datum.isNaN] at h
theorem some_not {op : BinOp} {x y r : Nat} (h : floatBits op .f32 x y = some r) : isN .f32 (ar op .f32 x y) = false := by rw [ar_some h]; exact bits_not h
theorem add_nn {s x : Nat} (hs : isN .f32 s = false) (hx : finB .f32 x = true) : isN .f32 (ar .add .f32 s x) = false := by
  obtain ⟨t, n, j, hx⟩ := fin_num hx
  rcases isN_num hs with ⟨a, m, e, h⟩ | ⟨a, h⟩
  · exact some_not (r := _) (by rw [add_bits', h, hx]; rfl)
  · exact some_not (r := _) (by rw [add_bits', h, hx]; rfl)
theorem sub_nn {s x : Nat} (hs : isN .f32 s = false) (hx : finB .f32 x = true) : isN .f32 (ar .sub .f32 s x) = false := by
  obtain ⟨t, n, j, hx⟩ := fin_num hx
  rcases isN_num hs with ⟨a, m, e, h⟩ | ⟨a, h⟩
  · exact some_not (r := _) (by rw [sub_bits', h, hx]; rfl)
  · exact some_not (r := _) (by rw [sub_bits', h, hx]; rfl)
theorem quo_nn {s n : Nat} (hs : isN .f32 s = false) (h1 : 1 ≤ n) (h2 : n ≤ 256) : isN .f32 (ar .quo .f32 s (floatOfInt .f32 (n : Int))) = false := by
  obtain ⟨m, e, hr, hm⟩ := foi_read n h1 h2
  have hb : floatBits .quo .f32 s (floatOfInt .f32 (n : Int)) = (Datum.quotient (single.fractionBits + 2) (single.read s) (single.read (floatOfInt .f32 (n : Int)))).map single.write := rfl
  rcases isN_num hs with ⟨a, k, j, h⟩ | ⟨a, h⟩
  · have h3 : ∃ d, Datum.quotient (single.fractionBits + 2) (.number a k j) (.number false m e) = some d := by
      unfold Datum.quotient
      simp only [if_neg hm]
      exact ⟨_, rfl⟩
    obtain ⟨d, hd⟩ := h3
    exact some_not (r := single.write d) (by rw [hb, h, hr, hd]; rfl)
  · exact some_not (r := _) (by rw [hb, h, hr]; rfl)
theorem bsK_all (g : Nat → Nat) (k : Nat) (h : ∀ i, 1 ≤ i → i ≤ k → finB .f32 (g i) = true) (hk : 1 ≤ k) : finB .f32 (bsK g k).2 = true := by
  obtain ⟨i, h1, h2, h3⟩ := bsK_mem g k hk
  rw [h3]; exact h i h1 h2
end Go.Proofs.Ytfbdmhkmkmbipaa.Fl
