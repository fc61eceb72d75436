/-
  Contracts: the square roots of both sides.
-/
import Derived.Test.YthkklilfignmpaaCallB
namespace Go.Proofs.Ythkklilfignmpaa
open Go.RowKit Fl
set_option linter.unusedVariables false
set_option maxRecDepth 100000

theorem rootS_any (x : Nat) (w : World) : Calls Try.prog 158 #[.float .f32 x] w fun e w' => ∃ r n, e = .returned (.float .f32 r) ∧ Is .f32 r (na (sq (wi x))) ∧ w' = w.drewN n := by
  have hk := naOk_sq x
  go_enter Try.func158, Try.ntmps158
  go_wp2_with (first | (refine up_wide (by rw [Try.underlying23]; rfl) Try.underlying82 ?_; intro r1 n1 hr1) | (go_at_call 163; refine (sqrt_any _ _).mono ?_; rintro e w' ⟨r2, n2, rfl, hr2, rfl⟩) | (go_at_call 164; refine (narS_any _ _ (by rw [naOk_is hr2, sq_is hr1]; exact hk)).mono ?_; rintro e w' ⟨r3, n3, rfl, hr3, rfl⟩))
  go_ret
  exact ⟨_, _, rfl, by rw [← sq_is hr1, ← na_is hr2]; exact hr3, rfl⟩
theorem rootI_any (x : Nat) (w : World) : Calls Try.prog 119 #[.float .f32 x] w fun e w' => ∃ r n, e = .returned (.float .f32 r) ∧ Is .f32 r (na (sq (wi x))) ∧ w' = w.drewN n := by
  have hk := naOk_sq x
  go_enter Try.func119, Try.ntmps119
  go_wp2_with (first | (refine up_wide (by rw [Try.underlying23]; rfl) Try.underlying82 ?_; intro r1 n1 hr1) | (go_at_call 163; refine (sqrt_any _ _).mono ?_; rintro e w' ⟨r2, n2, rfl, hr2, rfl⟩) | (go_at_call 162; refine (narI_any _ _ (by rw [naOk_is hr2, sq_is hr1]; exact hk)).mono ?_; rintro e w' ⟨r3, n3, rfl, hr3, rfl⟩))
  go_ret
  exact ⟨_, _, rfl, by rw [← sq_is hr1, ← na_is hr2]; exact hr3, rfl⟩
end Go.Proofs.Ythkklilfignmpaa
