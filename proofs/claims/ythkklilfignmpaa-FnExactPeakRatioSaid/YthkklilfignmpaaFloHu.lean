/-
  Slopes: quotients of differences and of integers that are greater than nothing (no program in it).
-/
import Derived.Test.YthkklilfignmpaaFloSc
namespace Go.Proofs.Ythkklilfignmpaa.Fl
open Ieee
set_option linter.unusedVariables false

theorem foi_rung (n : Int) (h1 : 1 ≤ n) : 1056964608 ≤ floatOfInt .f32 n ∧ floatOfInt .f32 n < 2 ^ 31 := by
  show 1056964608 ≤ single.nearest (decide (n < 0)) n.natAbs 0 ∧ single.nearest (decide (n < 0)) n.natAbs 0 < 2 ^ 31
  rw [decide_eq_false (by omega)]
  unfold Format.nearest
  rw [if_neg (by omega)]
  simp only []
  have hF : single.fractionBits = 23 := by decide
  rw [sgl_bi, sgl_inf, sgl_lp, hF]
  generalize Toward.even.cut false _ _ = kept
  have hl : (max (0 + (n.natAbs.log2 : Int) - (23 : Nat)) (-149) - -149).toNat = n.natAbs.log2 + 126 := by omega
  rw [hl]
  unfold Format.word
  simp only [Bool.false_eq_true, if_false]
  have : (126 : Nat) * 2 ^ 23 = 1056964608 := by decide
  have h255 : (255 : Nat) * 2 ^ 23 = 2139095040 := by decide
  have h31 : (2 : Nat) ^ 31 = 2147483648 := by decide
  rw [Nat.add_mul, this, h255, h31]
  omega
theorem foi_bd (n : Int) (h1 : 1 ≤ n) (h2 : n ≤ 9223372036854775807) : Bd .f32 (floatOfInt .f32 n) 63 := by
  refine Bd.write (k := .f32) (s := decide (n < 0)) (m := n.natAbs) (e := 0) (n := 63) ⟨0, by omega, by omega, ?_⟩ (by decide) (by decide)
  have : (2 : Nat) ^ ((63 : Int) - 0).toNat = 9223372036854775808 := by decide
  rw [this]
  have h0 : (2 : Nat) ^ ((0 : Int) - 0).toNat = 1 := by decide
  rw [h0]
  omega
theorem foi_ps (n : Int) (h1 : 1 ≤ n) (h2 : n ≤ 9223372036854775807) : psB (floatOfInt .f32 n) = true := by
  have hf := (foi_bd n h1 h2).fin
  obtain ⟨r1, r2⟩ := foi_rung n h1
  unfold psB
  rw [hf, Bool.true_and]
  obtain ⟨s, m, e, hr⟩ := fin_num hf
  have h31 : (2 : Nat) ^ 31 = 2147483648 := by decide
  have hs := read_sign' single (floatOfInt .f32 n) s m e hr
  rw [sgl_sw] at hs
  have hs0 : s = false := by rw [← hs]; rw [show floatOfInt .f32 n / 2 ^ 31 = 0 from Nat.div_eq_of_lt r2]; rfl
  subst hs0
  have hm : 0 < m := by
    rcases Nat.eq_zero_or_pos m with h0 | h0
    · subst h0
      have hz := zero_of_read hr
      rw [Nat.mod_eq_of_lt r2] at hz
      omega
    · exact h0
  unfold gt32
  rw [order_num hr read_0, cmp_gt_iff, signed_zero]
  exact decide_eq_true (sgn_pos m _ hm)
def slF (x y : Nat) (n : Int) : Nat := ar .quo .f32 (ar .sub .f32 x y) (floatOfInt .f32 n)
theorem sl_bits {x y : Nat} {n : Int} (hx : finB .f32 x = true) (hy : finB .f32 y = true) (h1 : 1 ≤ n) (h2 : n ≤ 9223372036854775807) :
    floatBits .sub .f32 x y = some (ar .sub .f32 x y) ∧ floatBits .quo .f32 (ar .sub .f32 x y) (floatOfInt .f32 n) = some (slF x y n) := by
  have hd := dif_nums hx hy
  constructor
  · obtain ⟨s, m, i, hx'⟩ := fin_num hx
    obtain ⟨t, k, j, hy'⟩ := fin_num hy
    have hb : floatBits .sub .f32 x y = Option.map single.write (Datum.sum (.number s m i) (.number (!t) k j)) := by
      show single.sub x y = _
      unfold Format.sub
      rw [hx', hy']
      rfl
    have hb2 : ∃ r, floatBits .sub .f32 x y = some r := by rw [hb]; unfold Datum.sum; exact ⟨_, rfl⟩
    obtain ⟨r, hr⟩ := hb2
    rw [ar_some hr]; exact hr
  · obtain ⟨m, e, hr, hm⟩ := ps_read (foi_ps n h1 h2)
    have hb : floatBits .quo .f32 (ar .sub .f32 x y) (floatOfInt .f32 n) = (Datum.quotient (single.fractionBits + 2) (single.read (ar .sub .f32 x y)) (single.read (floatOfInt .f32 n))).map single.write := rfl
    have hb2 : ∃ r, floatBits .quo .f32 (ar .sub .f32 x y) (floatOfInt .f32 n) = some r := by
      rcases isN_num hd with ⟨a, k, j, h⟩ | ⟨a, h⟩
      · have h3 : ∃ d, Datum.quotient (single.fractionBits + 2) (.number a k j) (.number false m e) = some d := by
          unfold Datum.quotient
          simp only [if_neg hm]
          exact ⟨_, rfl⟩
        obtain ⟨d, hd2⟩ := h3
        exact ⟨single.write d, by rw [hb, h, hr, hd2]; rfl⟩
      · exact ⟨_, by rw [hb, h, hr]; rfl⟩
    obtain ⟨r, hr2⟩ := hb2
    unfold slF
    rw [ar_some hr2]; exact hr2
end Go.Proofs.Ythkklilfignmpaa.Fl
