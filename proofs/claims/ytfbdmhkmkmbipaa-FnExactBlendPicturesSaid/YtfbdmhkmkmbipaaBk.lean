/-
  Contracts: two valid pictures with the same sides, of both sides.
-/
import Derived.Test.YtfbdmhkmkmbipaaBx
import Derived.Test.YtfbdmhkmkmbipaaPv
import Derived.Test.YtfbdmhkmkmbipaaSfw
import Derived.Deep.RegionHeld3
import Derived.Deep.QuietTactic
import Derived.BigQuiet
namespace Go.Proofs.Ytfbdmhkmkmbipaa
open Go.RowKit Fl
set_option linter.unusedVariables false
set_option maxRecDepth 100000
def botB (p0 q0 : Int) (a0 : List Nat) (p1 q1 : Int) (a1 : List Nat) : Bool := vpcB p0 q0 a0 && vpcB p1 q1 a1 && decide (p0 = p1) && decide (q0 = q1)
theorem botB_out {p0 q0 p1 q1 : Int} {a0 a1 : List Nat} (h : botB p0 q0 a0 p1 q1 a1 = true) : vpcB p0 q0 a0 = true ∧ vpcB p1 q1 a1 = true ∧ p0 = p1 ∧ q0 = q1 := by
  unfold botB at h; simp only [Bool.and_eq_true, decide_eq_true_eq] at h; exact ⟨h.1.1.1, h.1.1.2, h.1.2, h.2⟩
end Go.Proofs.Ytfbdmhkmkmbipaa
