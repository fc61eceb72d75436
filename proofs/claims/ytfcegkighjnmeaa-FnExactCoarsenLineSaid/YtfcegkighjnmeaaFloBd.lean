/-
  Bounds on what is rounded, finer than powers of two: a quarter, a half and a quarter of finite numbers are a finite one (no program in it).
-/
import Derived.Test.YtfcegkighjnmeaaFloHf
namespace Go.Proofs.Ytfcegkighjnmeaa.Fl
open Ieee
set_option linter.unusedVariables false

theorem cut_lt {n drop C : Nat} (s : Bool) (h : 2 * n < (2 * C + 1) * 2 ^ drop) : Toward.even.cut s n drop ≤ C := by
  unfold Toward.cut
  simp only [Nat.one_shiftLeft]
  by_cases hd : drop ≤ n.log2 + 2
  · rw [Nat.min_eq_left hd]
    have hp : 0 < 2 ^ drop := Nat.pow_pos (by decide)
    generalize 2 ^ drop = G at h hp
    have hdm := Nat.div_add_mod n G
    have hml := Nat.mod_lt n hp
    generalize n / G = q at *
    generalize n % G = r at *
    have e1 : (2 * C + 1) * G = 2 * (G * C) + G := by rw [Nat.add_mul, Nat.one_mul, Nat.mul_assoc, Nat.mul_comm C G]
    rw [e1] at h
    have hle : q ≤ C := by
      refine Nat.le_of_not_lt fun hlt => ?_
      have h2 : G * (C + 1) ≤ G * q := Nat.mul_le_mul_left _ hlt
      rw [Nat.mul_succ] at h2
      omega
    by_cases he : q = C
    · subst he
      have a1 : decide (G < 2 * r) = false := decide_eq_false (by omega)
      have a2 : (G == 2 * r) = false := beq_eq_false_iff_ne.2 (by omega)
      rw [a1, a2]; simp
    · have : ∀ b : Bool, b.toNat ≤ 1 := fun b => by cases b <;> simp
      have h1 := this (decide (G < 2 * r) || (G == 2 * r && q % 2 == 1))
      omega
  · rw [Nat.min_eq_right (by omega)]
    have hn := log2_pow_lt n
    have h4 : 2 ^ (n.log2 + 2) = 2 * 2 ^ (n.log2 + 1) := by rw [Nat.pow_succ]; omega
    have hlt : n < 2 ^ (n.log2 + 2) := by omega
    rw [Nat.div_eq_of_lt hlt, Nat.mod_eq_of_lt hlt]
    have e1 : decide (2 ^ (n.log2 + 2) < 2 * n) = false := by simp; omega
    have e2 : (2 ^ (n.log2 + 2) == 2 * n) = false := by simp; omega
    rw [e1, e2]
    simp
theorem near_le (s : Bool) (M : Nat) (p P : Int) (C : Nat) (hp : -200 ≤ p) (hP : -149 ≤ P) (hP2 : P ≤ 104) (hC : 8388608 ≤ C) (hC2 : C < 16777216)
    (h : 2 * (M * 2 ^ (p + 200).toNat) < (2 * C + 1) * 2 ^ (P + 200).toNat) : single.nearest s M p % 2 ^ 31 ≤ (P + 149).toNat * 8388608 + C := by
  have hinf := single.infRung_lt
  have hF : single.fractionBits = 23 := by decide
  unfold Format.nearest
  split
  · rw [← sgl_sw, (word_rung single s 0 (by omega)).1]; exact Nat.zero_le _
  · rename_i h0
    simp only []
    rw [← sgl_sw, (word_rung single s _ (Nat.lt_of_le_of_lt (Nat.min_le_right _ _) hinf)).1]
    refine Nat.le_trans (Nat.min_le_left _ _) ?_
    rw [sgl_lp, sgl_bi, hF]
    have hlo : 2 ^ M.log2 ≤ M := Nat.log2_self_le h0
    have hhi := log2_pow_lt M
    generalize M.log2 = L at *
    generalize hlast : max (p + (L : Int) - ((23 : Nat) : Int)) (-149) = last
    have hl1 : -149 ≤ last := by omega
    have key : ∀ K : Nat, 2 * (M * 2 ^ (p - last).toNat) < (2 * K + 1) * 2 ^ (last - p).toNat → Toward.even.cut s (M <<< (p - last).toNat) (last - p).toNat ≤ K := fun K hK => cut_lt s (by rw [Nat.shiftLeft_eq]; exact hK)
    generalize Toward.even.cut s (M <<< (p - last).toNat) (last - p).toNat = kept at *
    have hle : last ≤ P := by
      refine Int.not_lt.1 fun hlt => ?_
      have h3 : 16777216 * 2 ^ (P + 200).toNat ≤ M * 2 ^ (p + 200).toNat := by
        refine Nat.le_trans ?_ (Nat.mul_le_mul_right _ hlo)
        rw [show (16777216 : Nat) = 2 ^ 24 by decide, ← Nat.pow_add, ← Nat.pow_add]
        exact Nat.pow_le_pow_right (by decide) (by omega)
      have h4 : (2 * C + 1) * 2 ^ (P + 200).toNat ≤ (2 * 16777216) * 2 ^ (P + 200).toNat := Nat.mul_le_mul_right _ (by omega)
      rw [Nat.mul_assoc] at h4
      omega
    rcases Int.lt_or_eq_of_le hle with hlt | heq
    · have h5 : kept ≤ 16777216 := by
        refine key _ ?_
        have h6 : M * 2 ^ (p - last).toNat < 16777216 * 2 ^ (last - p).toNat := by
          refine Nat.lt_of_lt_of_le (Nat.mul_lt_mul_of_pos_right hhi (Nat.pow_pos (by decide))) ?_
          rw [show (16777216 : Nat) = 2 ^ 24 by decide, ← Nat.pow_add, ← Nat.pow_add]
          exact Nat.pow_le_pow_right (by decide) (by omega)
        rw [Nat.add_mul, Nat.mul_assoc]; omega
      omega
    · subst heq
      have h5 : kept ≤ C := by
        refine key _ ?_
        rcases Int.le_total last p with hc | hc
        · have e1 : (last - p).toNat = 0 := by omega
          have e2 : (p + 200).toNat = (p - last).toNat + (last + 200).toNat := by omega
          have e3 : 2 * (M * 2 ^ (p + 200).toNat) = 2 * (M * 2 ^ (p - last).toNat) * 2 ^ (last + 200).toNat := by rw [e2, Nat.pow_add]; simp only [Nat.mul_assoc]
          rw [e3] at h
          rw [e1, Nat.pow_zero, Nat.mul_one]
          exact Nat.lt_of_mul_lt_mul_right h
        · have e1 : (p - last).toNat = 0 := by omega
          have e2 : (last + 200).toNat = (last - p).toNat + (p + 200).toNat := by omega
          have e3 : (2 * C + 1) * 2 ^ (last + 200).toNat = (2 * C + 1) * 2 ^ (last - p).toNat * 2 ^ (p + 200).toNat := by rw [e2, Nat.pow_add, Nat.mul_assoc]
          rw [e3, ← Nat.mul_assoc 2] at h
          rw [e1, Nat.pow_zero, Nat.mul_one]
          exact Nat.lt_of_mul_lt_mul_right h
      omega
/-- A number of at most C * 2^P. -/
def Vs (x C : Nat) (P : Int) : Prop := ∃ s m e, single.read x = .number s m e ∧ m * 2 ^ (e + 200).toNat ≤ C * 2 ^ (P + 200).toNat ∧ -149 ≤ e
theorem Vs.fin {x C : Nat} {P : Int} (h : Vs x C P) : finB .f32 x = true := by
  obtain ⟨s, m, e, hr, _⟩ := h
  unfold finB
  rw [show FloatKind.f32.format = single from rfl, hr]
theorem near_vs (s : Bool) (M : Nat) (p P : Int) (C : Nat) (hp : -200 ≤ p) (hP : -149 ≤ P) (hP2 : P ≤ 104) (hC : 8388608 ≤ C) (hC2 : C < 16777216)
    (h : 2 * (M * 2 ^ (p + 200).toNat) < (2 * C + 1) * 2 ^ (P + 200).toNat) : Vs (single.nearest s M p) C P := by
  have hr := near_le s M p P C hp hP hP2 hC hC2 h
  unfold Vs Format.read
  rw [sgl_sw, sgl_bi, sgl_inf, sgl_lp]
  generalize single.nearest s M p = b at *
  simp only []
  generalize b % 2 ^ 31 = r at *
  split
  · refine ⟨_, _, _, rfl, ?_, by omega⟩
    exact Nat.mul_le_mul (by omega) (Nat.pow_le_pow_right (by decide) (by omega))
  · split
    · refine ⟨_, _, _, rfl, ?_, by omega⟩
      have hd := Nat.div_add_mod r (2 ^ 23)
      have hm := Nat.mod_lt r (show 0 < 2 ^ 23 by decide)
      generalize r / 2 ^ 23 = q at *
      generalize r % 2 ^ 23 = f at *
      have q1 : 1 ≤ q := by omega
      by_cases hqP : (q : Int) = P + 150
      · exact Nat.mul_le_mul (by omega) (Nat.pow_le_pow_right (by decide) (by omega))
      · refine Nat.le_trans (Nat.mul_le_mul_right _ (show 2 ^ 23 + f ≤ 8388608 * 2 by omega)) ?_
        rw [Nat.mul_assoc, ← Nat.pow_succ']
        exact Nat.mul_le_mul hC (Nat.pow_le_pow_right (by decide) (by omega))
    · exfalso; omega
theorem fin_read {x : Nat} (h : finB .f32 x = true) : ∃ s m e, single.read x = .number s m e ∧ m < 2 ^ 24 ∧ -149 ≤ e ∧ e ≤ 104 := by
  rcases read_single x with h' | ⟨s, h'⟩ | ⟨s, t, h'⟩
  · exact h'
  · exfalso; unfold finB at h; rw [show FloatKind.f32.format = single from rfl, h'] at h; cases h
  · exfalso; unfold finB at h; rw [show FloatKind.f32.format = single from rfl, h'] at h; cases h
theorem read_quarter32 : single.read 1048576000 = .number false 8388608 (-25) := by decide
theorem vs_part {c x : Nat} {d P : Int} (hc : single.read c = .number false 8388608 d) (hd : d = -24 ∨ d = -25) (hP : P = d + 127) (h : finB .f32 x = true) : Vs (ar .mul .f32 c x) 16777215 P := by
  obtain ⟨s, m, e, hr, hm, h1, h2⟩ := fin_read h
  have hb : floatBits .mul .f32 c x = some (single.nearest s (8388608 * m) (d + e)) := by
    rw [mul_bits', hc, hr]
    show some (single.write (.number (false ^^ s) (8388608 * m) (d + e))) = _
    cases s <;> rfl
  rw [ar_some hb]
  refine near_vs _ _ _ _ _ (by omega) (by omega) (by omega) (by decide) (by decide) ?_
  have e1 : (P + 200).toNat = 23 + (d + 304).toNat := by omega
  have hG : 0 < 2 ^ (d + 304).toNat := Nat.pow_pos (by decide)
  have h3 : 2 ^ (d + e + 200).toNat ≤ 2 ^ (d + 304).toNat := Nat.pow_le_pow_right (by decide) (by omega)
  have h4 : 8388608 * m * 2 ^ (d + e + 200).toNat ≤ (8388608 * 16777215) * 2 ^ (d + 304).toNat := Nat.mul_le_mul (by omega) h3
  rw [e1, Nat.pow_add]
  generalize 2 ^ (d + 304).toNat = G at *
  generalize 8388608 * m * 2 ^ (d + e + 200).toNat = A at *
  omega
theorem vs_sum {x y C D E : Nat} {P Q R : Int} (hx : Vs x C P) (hy : Vs y D Q) (hR : -149 ≤ R) (hR2 : R ≤ 104) (hE : 8388608 ≤ E) (hE2 : E < 16777216)
    (h : 2 * (C * 2 ^ (P + 200).toNat + D * 2 ^ (Q + 200).toNat) < (2 * E + 1) * 2 ^ (R + 200).toNat) : Vs (ar .add .f32 x y) E R := by
  obtain ⟨s, m, i, hr, hv, hi⟩ := hx
  obtain ⟨t, n, j, hr', hv', hj⟩ := hy
  obtain ⟨z, hb⟩ : ∃ z, floatBits .add .f32 x y = some (single.nearest z (signed s m (i - min i j).toNat + signed t n (j - min i j).toNat).natAbs (min i j)) := by
    rw [add_bits', hr, hr']
    exact ⟨_, rfl⟩
  rw [ar_some hb]
  refine near_vs _ _ _ _ _ (by omega) hR hR2 hE hE2 (Nat.lt_of_le_of_lt ?_ h)
  have hab := Int.natAbs_add_le (signed s m (i - min i j).toNat) (signed t n (j - min i j).toNat)
  rw [natAbs_signed, natAbs_signed] at hab
  have h3 := Nat.mul_le_mul_right (2 ^ (min i j + 200).toNat) hab
  rw [Nat.add_mul, Nat.mul_assoc, Nat.mul_assoc, ← Nat.pow_add, ← Nat.pow_add, show (i - min i j).toNat + (min i j + 200).toNat = (i + 200).toNat by omega, show (j - min i j).toNat + (min i j + 200).toNat = (j + 200).toNat by omega] at h3
  omega
/-- A quarter of one, a half of the next, and a quarter of the third. -/
def coN (a b c : Nat) : Nat := ar .add .f32 (ar .add .f32 (ar .mul .f32 1048576000 a) (ar .mul .f32 1056964608 b)) (ar .mul .f32 1048576000 c)
theorem coN_fin {a b c : Nat} (ha : finB .f32 a = true) (hb : finB .f32 b = true) (hc : finB .f32 c = true) : finB .f32 (coN a b c) = true := by
  have h1 := vs_part (P := 102) read_quarter32 (.inr rfl) (by decide) ha
  have h2 := vs_part (P := 103) read_half32 (.inl rfl) (by decide) hb
  have h3 := vs_part (P := 102) read_quarter32 (.inr rfl) (by decide) hc
  have h4 := vs_sum (E := 12582911) (R := 104) h1 h2 (by decide) (by decide) (by decide) (by decide) (by decide +kernel)
  exact (vs_sum (E := 16777215) (R := 104) h4 h3 (by decide) (by decide) (by decide) (by decide) (by decide +kernel)).fin
end Go.Proofs.Ytfcegkighjnmeaa.Fl
