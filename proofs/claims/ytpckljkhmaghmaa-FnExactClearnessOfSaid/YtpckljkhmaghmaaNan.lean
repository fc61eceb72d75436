/-
  Contracts: the number that is none.
-/
import Derived.Test.YtpckljkhmaghmaaCallB
import Derived.Test.YtpckljkhmaghmaaFloSine
namespace Go.Proofs.Ytpckljkhmaghmaa
open Go.RowKit Fl
set_option linter.unusedVariables false

theorem nan_any (w : World) : Calls Try.prog 108 #[] w fun e w' => e = .returned (.float .f64 (qn .f64)) ∧ w = w' := by
  have h := row_from64
  go_enter Try.func108, Try.ntmps108
  go_wp2_with fail
  go_ret
  exact ⟨rfl, rfl⟩
theorem notNum_any (w : World) : Calls Try.prog 95 #[] w (RetF .f32 (qn .f32) w) := by
  go_enter Try.func95, Try.ntmps95
  go_wp2_with (first | (go_at_call 108; refine (nan_any _).mono ?_; rintro e w' ⟨rfl, rfl⟩) | (refine up_narrow (by rw [Try.underlying26]; rfl) Try.underlying22 naOk_qn ?_; intro r n hr))
  go_ret
  exact ⟨_, _, rfl, by rw [← na_qn]; exact hr, rfl⟩

end Go.Proofs.Ytpckljkhmaghmaa
