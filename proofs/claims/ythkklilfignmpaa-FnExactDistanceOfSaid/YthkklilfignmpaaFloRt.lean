/-
  Roots of what is at least nothing: finite where it is (no program in it).
-/
import Derived.Test.YthkklilfignmpaaFloEd
import Derived.Test.YthkklilfignmpaaFloMore
namespace Go.Proofs.Ythkklilfignmpaa.Fl
open Ieee
set_option linter.unusedVariables false

theorem rq_no {M : Nat} (h : finB .f32 M = false) : finB .f32 (na (sq (wi M))) = false := by
  unfold sq
  rw [cn_wi]
  rcases wi_bound M with ⟨s, hr⟩ | hn | hb
  · cases s with
    | true =>
      have e : double.sqrt (wi M) = none := by unfold Format.sqrt; rw [hr]; rfl
      rw [e]; decide
    | false =>
      have e : double.sqrt (wi M) = some (double.write (.infinity false)) := by unfold Format.sqrt; rw [hr]; rfl
      rw [e]; decide
  · rw [sqrt_nan hn]; decide
  · have := hb.fin
    rw [finB_wi, h] at this
    cases this
theorem rq_yes {M r : Nat} (h : finB .f32 M = true) (hs : double.sqrt (wi M) = some r) : finB .f32 (na (sq (wi M))) = true := by
  unfold sq
  rw [cn_wi, hs]
  rcases wi_bound M with ⟨s, hr⟩ | hn | hb
  · exfalso
    have := finB_wi M
    rw [h] at this
    unfold finB at this
    rw [show FloatKind.f64.format.read (wi M) = .infinity s from hr] at this
    cases this
  · exfalso
    have := finB_wi M
    rw [h] at this
    unfold finB at this
    unfold isN at hn
    cases hr : FloatKind.f64.format.read (wi M) <;> rw [hr] at this hn <;> simp [Datum.isNaN] at this hn
  · exact (Bd.naOk (n := 64) (Bd.sqrt (q := 64) hb hs (by decide) (by decide)) (by decide) (by decide)).2.fin
theorem nn_sqr {x : Nat} (hx : isN .f32 x = false) : Nn (ar .mul .f32 x x) := by
  rcases isN_num hx with ⟨s, m, e, hr⟩ | ⟨s, hr⟩
  · have h : floatBits .mul .f32 x x = some (single.nearest false (m * m) (e + e)) := by
      rw [mul_bits', hr]
      cases s <;> rfl
    rw [ar_some h]; exact nn_near _ _
  · have h : floatBits .mul .f32 x x = some (single.write (.infinity false)) := by
      rw [mul_bits', hr]
      cases s <;> rfl
    rw [ar_some h]; exact nn_inf
theorem sqr_some {M : Nat} (h : Nn M) : ∃ r, double.sqrt (wi M) = some r := by
  have hs := wi_same M
  rcases h with ⟨m, e, h⟩ | h
  · rw [h] at hs
    cases hd : double.read (wi M) with
    | number s' m' e' =>
      rw [hd] at hs
      have hs0 : s' = false := by cases hs <;> rfl
      subst hs0
      unfold Format.sqrt
      rw [hd]
      unfold Datum.root
      simp only [Bool.false_eq_true, if_false]
      split <;> exact ⟨_, rfl⟩
    | infinity _ => rw [hd] at hs; cases hs
    | nan _ _ => rw [hd] at hs; cases hs
  · rw [h] at hs
    have hd : double.read (wi M) = .infinity false := by
      generalize double.read (wi M) = d at hs
      cases hs; rfl
    exact ⟨_, by unfold Format.sqrt; rw [hd]; rfl⟩
end Go.Proofs.Ythkklilfignmpaa.Fl
