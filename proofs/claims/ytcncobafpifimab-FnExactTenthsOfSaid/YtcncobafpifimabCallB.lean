/-
  Contracts: the narrowings of both sides, math.Sqrt.
-/
import Derived.Test.YtcncobafpifimabCallA
namespace Go.Proofs.Ytcncobafpifimab
open Go.RowKit Fl
set_option linter.unusedVariables false

theorem narS_any (x : Nat) (w : World) (hx : naOk x = true) : Calls Try.prog 48 #[.float .f64 x] w fun e w' => ∃ r n, e = .returned (.float .f32 r) ∧ Is .f32 r (na x) ∧ w' = w.drewN n := by
  go_enter Try.func48, Try.ntmps48
  go_wp2_with (refine up_narrow (by rw [Try.underlying25]; rfl) Try.underlying22 hx ?_; intro r n hr)
  go_ret
  exact ⟨_, _, rfl, hr, rfl⟩
theorem narI_any (x : Nat) (w : World) (hx : naOk x = true) : Calls Try.prog 27 #[.float .f64 x] w fun e w' => ∃ r n, e = .returned (.float .f32 r) ∧ Is .f32 r (na x) ∧ w' = w.drewN n := by
  go_enter Try.func27, Try.ntmps27
  go_wp2_with (refine up_narrow (by rw [Try.underlying25]; rfl) Try.underlying22 hx ?_; intro r n hr)
  go_ret
  exact ⟨_, _, rfl, hr, rfl⟩
theorem row_sqrt (x : Nat) (w : World) : (callFunc 49 #[.float .f64 x]).run Try.prog w = .ok (.value (.float .f64 (sqR x w))) (w.drewN (sqN x)) := by
  rw [run_callFunc_extern Try.func49 rfl rfl rfl rfl, run_sqrt]; rfl
theorem sqrt_any (x : Nat) (w : World) : Calls Try.prog 28 #[.float .f64 x] w fun e w' => ∃ r n, e = .returned (.float .f64 r) ∧ Is .f64 r (sq x) ∧ w' = w.drewN n := by
  have h := row_sqrt x
  go_enter Try.func28, Try.ntmps28
  go_wp2_with fail
  go_ret
  exact ⟨_, _, rfl, sqR_is x w, rfl⟩
end Go.Proofs.Ytcncobafpifimab
