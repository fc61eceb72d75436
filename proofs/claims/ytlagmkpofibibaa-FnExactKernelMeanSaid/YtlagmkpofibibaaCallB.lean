/-
  Contracts: the narrowings of both sides, math.Sqrt.
-/
import Derived.Test.YtlagmkpofibibaaCallA
namespace Go.Proofs.Ytlagmkpofibibaa
open Go.RowKit Fl
set_option linter.unusedVariables false

set_option maxRecDepth 100000 in
theorem narS_any (x : Nat) (w : World) (hx : naOk x = true) : Calls Try.prog 104 #[.float .f64 x] w fun e w' => ∃ r n, e = .returned (.float .f32 r) ∧ Is .f32 r (na x) ∧ w' = w.drewN n := by
  go_enter Try.func104, Try.ntmps104
  go_wp2_with (refine up_narrow (by rw [Try.underlying28]; rfl) Try.underlying23 hx ?_; intro r n hr)
  go_ret
  exact ⟨_, _, rfl, hr, rfl⟩
set_option maxRecDepth 100000 in
theorem narI_any (x : Nat) (w : World) (hx : naOk x = true) : Calls Try.prog 145 #[.float .f64 x] w fun e w' => ∃ r n, e = .returned (.float .f32 r) ∧ Is .f32 r (na x) ∧ w' = w.drewN n := by
  go_enter Try.func145, Try.ntmps145
  go_wp2_with (refine up_narrow (by rw [Try.underlying28]; rfl) Try.underlying23 hx ?_; intro r n hr)
  go_ret
  exact ⟨_, _, rfl, hr, rfl⟩
theorem row_sqrt (x : Nat) (w : World) : (callFunc 175 #[.float .f64 x]).run Try.prog w = .ok (.value (.float .f64 (sqR x w))) (w.drewN (sqN x)) := by
  rw [run_callFunc_extern Try.func175 rfl rfl rfl rfl, run_sqrt]; rfl
theorem sqrt_any (x : Nat) (w : World) : Calls Try.prog 159 #[.float .f64 x] w fun e w' => ∃ r n, e = .returned (.float .f64 r) ∧ Is .f64 r (sq x) ∧ w' = w.drewN n := by
  have h := row_sqrt x
  go_enter Try.func159, Try.ntmps159
  go_wp2_with fail
  go_ret
  exact ⟨_, _, rfl, sqR_is x w, rfl⟩
end Go.Proofs.Ytlagmkpofibibaa
