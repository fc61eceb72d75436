/-
  Contracts: how long codes by runs are, of both sides.
-/
import Derived.Test.YtmokgmmjnfnbfaaZz
namespace Go.Proofs.Ytmokgmmjnfnbfaa
open Go.RowKit
set_option linter.unusedVariables false

def rz (n k : Int) : Int := zig n / 2 ^ k.toNat + 1 + k
def rlK (xs : List Int) (k : Int) : Nat → Int
  | 0 => 0
  | m + 1 => rlK xs k m + rz (xs.getD m 0) k
theorem pow_pos2 (m : Nat) : (0 : Int) < 2 ^ m := by
  induction m with
  | zero => decide
  | succ m ih => rw [Int.pow_succ]; omega
theorem rz_b (n k : Int) (h1 : -1000000 ≤ n) (h2 : n ≤ 1000000) (hk : 0 ≤ k) (hk2 : k ≤ 20) : 0 ≤ zig n / 2 ^ k.toNat ∧ zig n / 2 ^ k.toNat ≤ 2000000 := by
  have hp := pow_pos2 k.toNat
  have h0 := zig_nn n
  have h3 := zig_le n h1 h2
  exact ⟨Int.ediv_nonneg h0 (by omega), Int.le_trans (Int.ediv_le_self _ h0) h3⟩
theorem rlK_b (xs : List Int) (k : Int) (hw : withB 1000000 xs = true) (hk : 0 ≤ k) (hk2 : k ≤ 20) (m : Nat) (hm : m ≤ xs.length) : 0 ≤ rlK xs k m ∧ rlK xs k m ≤ m * 2000021 := by
  induction m with
  | zero => simp [rlK]
  | succ m ih =>
    have h := withB_out hw m (by omega)
    have e : xs.getD m 0 = xs[m] := by simp [List.getD, List.getElem?_eq_getElem (show m < xs.length by omega)]
    have hb := rz_b xs[m] k h.1 h.2 hk hk2
    have := ih (by omega)
    show 0 ≤ rlK xs k m + rz (xs.getD m 0) k ∧ rlK xs k m + rz (xs.getD m 0) k ≤ _
    rw [e]
    unfold rz
    omega
theorem rlK_succ (xs : List Int) (k : Int) (m : Nat) (h : m < xs.length) : rlK xs k (m + 1) = rlK xs k m + (zig xs[m] / 2 ^ k.toNat + 1 + k) := by
  show rlK xs k m + rz (xs.getD m 0) k = _
  rw [show xs.getD m 0 = xs[m] by simp [List.getD, List.getElem?_eq_getElem h]]
  rfl
theorem minK (k : Int) (hk2 : k ≤ 20) : min k.toNat 64 = k.toNat := by omega
end Go.Proofs.Ytmokgmmjnfnbfaa
