/-
  Contracts: the square roots of both sides.
-/
import Derived.Test.YtpckljkhmaghmaaCallB
namespace Go.Proofs.Ytpckljkhmaghmaa
open Go.RowKit Fl
set_option linter.unusedVariables false

theorem rootS_any (x : Nat) (w : World) : Calls Try.prog 58 #[.float .f32 x] w fun e w' => ∃ r n, e = .returned (.float .f32 r) ∧ Is .f32 r (na (sq (wi x))) ∧ w' = w.drewN n := by
  have hk := naOk_sq x
  go_enter Try.func58, Try.ntmps58
  go_wp2_with (first | (refine up_wide (by rw [Try.underlying22]; rfl) Try.underlying26 ?_; intro r1 n1 hr1) | (go_at_call 90; refine (sqrt_any _ _).mono ?_; rintro e w' ⟨r2, n2, rfl, hr2, rfl⟩) | (go_at_call 89; refine (narS_any _ _ (by rw [naOk_is hr2, sq_is hr1]; exact hk)).mono ?_; rintro e w' ⟨r3, n3, rfl, hr3, rfl⟩))
  go_ret
  exact ⟨_, _, rfl, by rw [← sq_is hr1, ← na_is hr2]; exact hr3, rfl⟩
theorem rootI_any (x : Nat) (w : World) : Calls Try.prog 62 #[.float .f32 x] w fun e w' => ∃ r n, e = .returned (.float .f32 r) ∧ Is .f32 r (na (sq (wi x))) ∧ w' = w.drewN n := by
  have hk := naOk_sq x
  go_enter Try.func62, Try.ntmps62
  go_wp2_with (first | (refine up_wide (by rw [Try.underlying22]; rfl) Try.underlying26 ?_; intro r1 n1 hr1) | (go_at_call 90; refine (sqrt_any _ _).mono ?_; rintro e w' ⟨r2, n2, rfl, hr2, rfl⟩) | (go_at_call 92; refine (narI_any _ _ (by rw [naOk_is hr2, sq_is hr1]; exact hk)).mono ?_; rintro e w' ⟨r3, n3, rfl, hr3, rfl⟩))
  go_ret
  exact ⟨_, _, rfl, by rw [← sq_is hr1, ← na_is hr2]; exact hr3, rfl⟩
end Go.Proofs.Ytpckljkhmaghmaa
