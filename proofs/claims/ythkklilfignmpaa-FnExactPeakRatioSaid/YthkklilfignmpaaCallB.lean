/-
  Contracts: the narrowings of both sides, math.Sqrt.
-/
import Derived.Test.YthkklilfignmpaaCallA
namespace Go.Proofs.Ythkklilfignmpaa
open Go.RowKit Fl
set_option linter.unusedVariables false

set_option maxRecDepth 100000 in
theorem narS_any (x : Nat) (w : World) (hx : naOk x = true) : Calls Try.prog 164 #[.float .f64 x] w fun e w' => ∃ r n, e = .returned (.float .f32 r) ∧ Is .f32 r (na x) ∧ w' = w.drewN n := by
  go_enter Try.func164, Try.ntmps164
  go_wp2_with (refine up_narrow (by rw [Try.underlying82]; rfl) Try.underlying23 hx ?_; intro r n hr)
  go_ret
  exact ⟨_, _, rfl, hr, rfl⟩
set_option maxRecDepth 100000 in
theorem narI_any (x : Nat) (w : World) (hx : naOk x = true) : Calls Try.prog 162 #[.float .f64 x] w fun e w' => ∃ r n, e = .returned (.float .f32 r) ∧ Is .f32 r (na x) ∧ w' = w.drewN n := by
  go_enter Try.func162, Try.ntmps162
  go_wp2_with (refine up_narrow (by rw [Try.underlying82]; rfl) Try.underlying23 hx ?_; intro r n hr)
  go_ret
  exact ⟨_, _, rfl, hr, rfl⟩
theorem row_sqrt (x : Nat) (w : World) : (callFunc 179 #[.float .f64 x]).run Try.prog w = .ok (.value (.float .f64 (sqR x w))) (w.drewN (sqN x)) := by
  rw [run_callFunc_extern Try.func179 rfl rfl rfl rfl, run_sqrt]; rfl
theorem sqrt_any (x : Nat) (w : World) : Calls Try.prog 163 #[.float .f64 x] w fun e w' => ∃ r n, e = .returned (.float .f64 r) ∧ Is .f64 r (sq x) ∧ w' = w.drewN n := by
  have h := row_sqrt x
  go_enter Try.func163, Try.ntmps163
  go_wp2_with fail
  go_ret
  exact ⟨_, _, rfl, sqR_is x w, rfl⟩
end Go.Proofs.Ythkklilfignmpaa
