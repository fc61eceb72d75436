/-
  Contracts: a row of a picture, by the program.
-/
import Derived.Test.YtfbdmhkmkmbipaaStK
namespace Go.Proofs.Ytfbdmhkmkmbipaa
open Go.RowKit Fl
set_option linter.unusedVariables false

set_option maxRecDepth 100000 in
set_option maxHeartbeats 2000000 in
theorem ro_any (p q : Int) (b off n c y m : Nat) (w : World) (hp : 1 ≤ p ∧ p ≤ 16) (hy : (y : Int) ≤ 16) (hm : (y : Int) * p = (m : Int)) (hmn : (m : Int) + p ≤ n) (hn : n ≤ 256) (hnc : n ≤ c) (hc : c ≤ maxLen) :
    Calls Try.prog 83 #[.agg #[.int .i64 p, .int .i64 q, .slice (some ⟨b, off, none⟩) n c], .int .i64 y] w fun e w' => e = .returned (.slice (some ⟨b, off + m, none⟩) p.toNat (c - m)) ∧ Below w.heap.size w w' := by
  have hbd : 0 ≤ (y : Int) * p ∧ (y : Int) * p ≤ 256 := by omega
  have hex : ((y : Int) + 1) * p = (m : Int) + p := by rw [Int.add_mul, hm]; omega
  have hbd2 : 0 ≤ ((y : Int) + 1) * p ∧ ((y : Int) + 1) * p ≤ 256 := by omega
  unfold maxLen at hc
  go_enter Try.func83, Try.ntmps83
  go_wp2_with fail
  rw [show ((m : Int) + p).toNat - m = p.toNat by omega]
  go_ret
  exact ⟨rfl, (Below.refl _ _).alloc (Nat.le_refl _) _⟩
end Go.Proofs.Ytfbdmhkmkmbipaa
