/-
  Contracts: the narrowings of both sides, math.Sqrt.
-/
import Derived.Test.YtpckljkhmaghmaaCallA
namespace Go.Proofs.Ytpckljkhmaghmaa
open Go.RowKit Fl
set_option linter.unusedVariables false

theorem narS_any (x : Nat) (w : World) (hx : naOk x = true) : Calls Try.prog 89 #[.float .f64 x] w fun e w' => ∃ r n, e = .returned (.float .f32 r) ∧ Is .f32 r (na x) ∧ w' = w.drewN n := by
  go_enter Try.func89, Try.ntmps89
  go_wp2_with (refine up_narrow (by rw [Try.underlying26]; rfl) Try.underlying22 hx ?_; intro r n hr)
  go_ret
  exact ⟨_, _, rfl, hr, rfl⟩
theorem narI_any (x : Nat) (w : World) (hx : naOk x = true) : Calls Try.prog 92 #[.float .f64 x] w fun e w' => ∃ r n, e = .returned (.float .f32 r) ∧ Is .f32 r (na x) ∧ w' = w.drewN n := by
  go_enter Try.func92, Try.ntmps92
  go_wp2_with (refine up_narrow (by rw [Try.underlying26]; rfl) Try.underlying22 hx ?_; intro r n hr)
  go_ret
  exact ⟨_, _, rfl, hr, rfl⟩
theorem row_sqrt (x : Nat) (w : World) : (callFunc 107 #[.float .f64 x]).run Try.prog w = .ok (.value (.float .f64 (sqR x w))) (w.drewN (sqN x)) := by
  rw [run_callFunc_extern Try.func107 rfl rfl rfl rfl, run_sqrt]; rfl
theorem sqrt_any (x : Nat) (w : World) : Calls Try.prog 90 #[.float .f64 x] w fun e w' => ∃ r n, e = .returned (.float .f64 r) ∧ Is .f64 r (sq x) ∧ w' = w.drewN n := by
  have h := row_sqrt x
  go_enter Try.func90, Try.ntmps90
  go_wp2_with fail
  go_ret
  exact ⟨_, _, rfl, sqR_is x w, rfl⟩
end Go.Proofs.Ytpckljkhmaghmaa
