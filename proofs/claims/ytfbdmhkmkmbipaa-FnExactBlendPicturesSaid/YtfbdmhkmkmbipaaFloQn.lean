/-
  Quotients of numbers and whole ones (no program in it).
-/
import Derived.Test.YtfbdmhkmkmbipaaFloShr
namespace Go.Proofs.Ytfbdmhkmkmbipaa.Fl
open Ieee
set_option linter.unusedVariables false
def loB (b : Nat) : Bool := match single.read b with
  | .number false m e => decide (2 ^ (1 - min e 1).toNat ≤ m * 2 ^ (e - min e 1).toNat)
  | _ => false
theorem lo_of {b : Nat} (h : loB b = true) : Lo .f32 b 1 := by
  unfold loB at h
  cases hr : single.read b with
  | number s m e =>
    rw [hr] at h
    cases s with
    | false => exact ⟨false, m, e, hr, min e 1, by omega, by omega, of_decide_eq_true h⟩
    | true => cases h
  | infinity s => rw [hr] at h; cases h
  | nan s t => rw [hr] at h; cases h
theorem lo_all : ∀ n : Fin 257, 2 ≤ n.val → loB (floatOfInt .f32 (n.val : Int)) = true := by decide +kernel
theorem foi_num : ∀ n : Fin 257, 1 ≤ n.val → (match single.read (floatOfInt .f32 (n.val : Int)) with | .number false m _ => decide (m ≠ 0) | _ => false) = true := by decide +kernel
theorem foi_read (n : Nat) (h1 : 1 ≤ n) (h2 : n ≤ 256) : ∃ m e, single.read (floatOfInt .f32 (n : Int)) = .number false m e ∧ m ≠ 0 := by
  have h := foi_num ⟨n, by omega⟩ h1
  cases hr : single.read (floatOfInt .f32 (n : Int)) with
  | number s m e =>
    simp only [] at h
    rw [hr] at h
    cases s with
    | false => exact ⟨m, e, rfl, of_decide_eq_true h⟩
    | true => cases h
  | infinity s => simp only [] at h; rw [hr] at h; cases h
  | nan s t => simp only [] at h; rw [hr] at h; cases h
theorem fin_bd {x : Nat} (h : finB .f32 x = true) : Bd .f32 x 128 := by
  rcases read_single x with ⟨s, m, e, hr, hm, h1, h2⟩ | ⟨s, hr⟩ | ⟨s, t, hr⟩
  · refine ⟨s, m, e, hr, e, Int.le_refl _, by omega, ?_⟩
    have e0 : (e - e).toNat = 0 := by omega
    rw [e0, Nat.pow_zero, Nat.mul_one]
    have : 2 ^ 24 ≤ 2 ^ (128 - e).toNat := Nat.pow_le_pow_right (by decide) (by omega)
    omega
  · unfold finB at h; rw [show FloatKind.f32.format.read x = _ from hr] at h; cases h
  · unfold finB at h; rw [show FloatKind.f32.format.read x = _ from hr] at h; cases h
theorem read_one32 : single.read 1065353216 = .number false 8388608 (-23) := by decide
theorem quo_1 {x : Nat} (hx : x < 2 ^ 32) (h : finB .f32 x = true) : finB .f32 (ar .quo .f32 x 1065353216) = true := by
  rcases read_single x with ⟨s, m, e, hr, hm, h1, h2⟩ | ⟨s, hr⟩ | ⟨s, t, hr⟩
  · by_cases h0 : m = 0
    · subst h0
      have hb : ∃ p, floatBits .quo .f32 x 1065353216 = some (single.nearest s 0 p) := by
        show ∃ p, single.div x 1065353216 = _
        unfold Format.div
        rw [hr, read_one32]
        unfold Datum.quotient
        simp only [Nat.zero_shiftLeft]
        exact ⟨_, by simp [Format.write]; rfl⟩
      obtain ⟨p, hb⟩ := hb
      rw [ar_some hb, nearest_zero]
      cases s <;> decide
    · have hlog : m.log2 ≤ 23 := by
        have := (Nat.log2_lt h0).2 hm
        omega
      obtain ⟨k, hk⟩ : ∃ k, k = 26 - m.log2 := ⟨_, rfl⟩
      have hb : floatBits .quo .f32 x 1065353216 = some (single.nearest s (m <<< k) (e - k)) := by
        show single.div x 1065353216 = _
        unfold Format.div
        rw [hr, read_one32]
        unfold Datum.quotient
        have e1 : (8388608 : Nat).log2 = 23 := by decide
        have e2 : single.fractionBits = 23 := rfl
        have e3 : 23 + 2 + 23 - m.log2 = k + 22 := by omega
        simp only [e1, e2, e3]
        have e4 : m <<< (k + 22) = (m <<< (k - 1)) * 8388608 := by
          rw [Nat.shiftLeft_eq, Nat.shiftLeft_eq, Nat.mul_assoc, show (8388608 : Nat) = 2 ^ 23 by decide, ← Nat.pow_add]
          congr 2; omega
        rw [e4, Nat.mul_div_cancel _ (by decide), Nat.mul_mod_left]
        have e5 : 2 * m <<< (k - 1) = m <<< k := by
          rw [Nat.shiftLeft_eq, Nat.shiftLeft_eq, Nat.mul_left_comm, ← Nat.pow_succ']
          congr 2; omega
        have e6 : (8388608 : Nat) ≠ 0 := by decide
        rw [if_neg e6]
        simp only [bne_self_eq_false, Bool.toNat_false, Nat.add_zero, Bool.xor_false, Option.map_some, e5]
        show some (single.nearest s (m <<< k) (e - -23 - ((k + 22 : Nat) : Int) - 1)) = _
        congr 2; omega
      rw [ar_some hb]
      rw [single_nearest x hx s m e hr (by omega) k]
      exact h
  · unfold finB at h; rw [show FloatKind.f32.format.read x = _ from hr] at h; cases h
  · unfold finB at h; rw [show FloatKind.f32.format.read x = _ from hr] at h; cases h
theorem foi_one : floatOfInt .f32 ((1 : Nat) : Int) = 1065353216 := by decide
/-- A quotient by a whole number is finite where what is divided is so. -/
theorem quo_fin (x n : Nat) (hx : x < 2 ^ 32) (h1 : 1 ≤ n) (h2 : n ≤ 256) : finB .f32 (ar .quo .f32 x (floatOfInt .f32 (n : Int))) = finB .f32 x := by
  cases hf : finB .f32 x with
  | true =>
    by_cases h3 : n = 1
    · subst h3; rw [foi_one]; exact quo_1 hx hf
    · have hl := lo_of (lo_all ⟨n, by omega⟩ (by show 2 ≤ n; omega))
      have := Bd.quo (fin_bd hf) hl (by decide) (by decide)
      exact this.fin
  | false =>
    obtain ⟨m, e, hr, hm⟩ := foi_read n h1 h2
    rcases read_single x with ⟨s, m', e', hr', _⟩ | ⟨s, hr'⟩ | ⟨s, t, hr'⟩
    · rw [num_fin hr'] at hf; cases hf
    · have hb : floatBits .quo .f32 x (floatOfInt .f32 (n : Int)) = some (single.write (.infinity (s ^^ false))) := by
        show single.div x _ = _
        unfold Format.div
        rw [hr', hr]
        rfl
      rw [ar_some hb]
      cases s <;> decide
    · have hn : isN .f32 x = true := by unfold isN; rw [show FloatKind.f32.format.read x = _ from hr']; rfl
      have : ar .quo .f32 x (floatOfInt .f32 (n : Int)) = qn .f32 := by
        unfold ar
        rw [bits_cn, bits_nan_l hn]
        rfl
      rw [this]
      decide
end Go.Proofs.Ytfbdmhkmkmbipaa.Fl
