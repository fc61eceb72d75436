/-
  Contracts: digits.
-/
import Derived.Test.YtmokgmmjnfnbfaaLst
namespace Go.Proofs.Ytmokgmmjnfnbfaa
open Go.RowKit
set_option linter.unusedVariables false

theorem i64_and1 (n : Int) : bits .and .i64 n 1 = n % 2 := by
  have h1 : (BitVec.ofInt 64 1).toNat = 2 ^ 1 - 1 := by decide
  have key : (BitVec.ofInt 64 n &&& BitVec.ofInt 64 1).toNat = (n % ((2 ^ 64 : Nat) : Int)).toNat % 2 ^ 1 := by
    rw [BitVec.toNat_and, BitVec.toNat_ofInt, h1, Nat.and_two_pow_sub_one_eq_mod]
  show IntKind.i64.wrap ((BitVec.ofInt 64 n &&& BitVec.ofInt 64 1).toNat : Nat) = n % 2
  rw [key, IntKind.wrap_i64]
  omega
def dig (z : Int) (p : Nat) : Bool := z / 2 ^ p % 2 == 1
theorem minP (p : Nat) (h : p ≤ 63) : min p 64 = p := by omega
theorem digI_any (z : Int) (p : Nat) (w : World) (h1 : 0 ≤ z) (h2 : z ≤ 1000000000000) (hp : p ≤ 63) : Calls Try.prog 95 #[.int .i64 z, .int .i64 p] w fun e w' => e = .returned (.bool (dig z p)) ∧ w = w' := by
  have hm := minP p hp
  have hq0 : 0 ≤ z / 2 ^ p := Int.ediv_nonneg h1 (by have := pow_pos2 p; omega)
  have hq1 : z / 2 ^ p ≤ 1000000000000 := Int.le_trans (Int.ediv_le_self _ h1) h2
  unfold dig
  obtain ⟨q, hq⟩ : ∃ q, z / 2 ^ p = q := ⟨_, rfl⟩
  rw [hq] at hq0 hq1
  have hand := i64_and1 q
  go_enter Try.func95, Try.ntmps95
  go_wp2_with fail
  go_ret
  rw [hq]
  exact ⟨rfl, rfl⟩
end Go.Proofs.Ytmokgmmjnfnbfaa
