/-
  Roots, of both sides.
-/
import Derived.Test.YthkklilfignmpaaRoot
import Derived.Test.YthkklilfignmpaaFloSine
namespace Go.Proofs.Ythkklilfignmpaa
open Go.RowKit Fl
set_option linter.unusedVariables false
def rtF (c : Nat) : Nat := na (sq (wi c))
theorem wi_is {r c : Nat} (h : Is .f32 r c) : wi r = wi c := by rw [← wi_cn r, h.1]
theorem rtS_any (r c : Nat) (w : World) (h : Is .f32 r c) : Calls Try.prog 158 #[.float .f32 r] w (RetF .f32 (rtF c) w) := by
  refine (rootS_any r w).mono ?_
  rintro e w' ⟨s, n, rfl, hs, rfl⟩
  exact ⟨_, _, rfl, by unfold rtF; rw [← wi_is h]; exact hs, rfl⟩
theorem rtI_any (r c : Nat) (w : World) (h : Is .f32 r c) : Calls Try.prog 119 #[.float .f32 r] w (RetF .f32 (rtF c) w) := by
  refine (rootI_any r w).mono ?_
  rintro e w' ⟨s, n, rfl, hs, rfl⟩
  exact ⟨_, _, rfl, by unfold rtF; rw [← wi_is h]; exact hs, rfl⟩
end Go.Proofs.Ythkklilfignmpaa
