/-
  Contract: the program's AngleTurns, at any pair of numbers.
-/
import Derived.Test.YtcncobafpifimabAngleT
namespace Go.Proofs.Ytcncobafpifimab
open Go.RowKit Fl
set_option linter.unusedVariables false

theorem implAngle_any (y x : Nat) (w : World) (hy : y < 2 ^ 32) (hx : x < 2 ^ 32) : Calls Try.prog 17 #[.float .f32 y, .float .f32 x] w (RetF .f32 (angN y x) w) := by
  cases hf : finB .f32 y && finB .f32 x with
  | false =>
    have hT : angN y x = qn .f32 := by unfold angN; rw [hf]; rfl
    rw [hT]
    exact angI_nan y x w hy hx hf
  | true =>
    obtain ⟨hfy, hfx⟩ := Bool.and_eq_true_iff.1 hf
    cases hz : (FloatKind.f64.format.order (wi y) 0 == some .eq && FloatKind.f64.format.order (wi x) 0 == some .eq) with
    | true =>
      have hT : angN y x = 0 := by unfold angN; rw [hf, hz]; rfl
      rw [hT]
      obtain ⟨h1, h2⟩ := Bool.and_eq_true_iff.1 hz
      rw [order_wi0] at h1 h2
      exact angI_zero y x w hy hx hfy hfx h1 h2
    | false =>
      have hT : angN y x = na (angW y x) := by unfold angN; rw [hf, hz]; rfl
      rw [hT]
      exact angI_any y x w hy hx hfy hfx hz
end Go.Proofs.Ytcncobafpifimab
