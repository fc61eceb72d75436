/-
  Contracts: how long codes by runs are, of both sides.
-/
import Derived.Test.YtdlginbmelbfgaaZz
namespace Go.Proofs.Ytdlginbmelbfgaa
open Go.RowKit
set_option linter.unusedVariables false

def rz (n k : Int) : Int := zig n / 2 ^ k.toNat + 1 + k
def rlK (xs : List Int) (k : Int) : Nat → Int
  | 0 => 0
  | m + 1 => rlK xs k m + rz (xs.getD m 0) k
theorem pow_pos2 (m : Nat) : (0 : Int) < 2 ^ m := by
  induction m with
  | zero => decide
  | succ m ih => rw [Int.pow_succ]; omega
theorem rz_b (n k : Int) (h1 : -1000000 ≤ n) (h2 : n ≤ 1000000) (hk : 0 ≤ k) (hk2 : k ≤ 20) : 0 ≤ zig n / 2 ^ k.toNat ∧ zig n / 2 ^ k.toNat ≤ 2000000 := by
  have hp := pow_pos2 k.toNat
  have h0 := zig_nn n
  have h3 := zig_le n h1 h2
  exact ⟨Int.ediv_nonneg h0 (by omega), Int.le_trans (Int.ediv_le_self _ h0) h3⟩
theorem rlK_b (xs : List Int) (k : Int) (hw : withB 1000000 xs = true) (hk : 0 ≤ k) (hk2 : k ≤ 20) (m : Nat) (hm : m ≤ xs.length) : 0 ≤ rlK xs k m ∧ rlK xs k m ≤ m * 2000021 := by
  induction m with
  | zero => simp [rlK]
  | succ m ih =>
    have h := withB_out hw m (by omega)
    have e : xs.getD m 0 = xs[m] := by simp [List.getD, List.getElem?_eq_getElem (show m < xs.length by omega)]
    have hb := rz_b xs[m] k h.1 h.2 hk hk2
    have := ih (by omega)
    show 0 ≤ rlK xs k m + rz (xs.getD m 0) k ∧ rlK xs k m + rz (xs.getD m 0) k ≤ _
    rw [e]
    unfold rz
    omega
theorem rlK_succ (xs : List Int) (k : Int) (m : Nat) (h : m < xs.length) : rlK xs k (m + 1) = rlK xs k m + (zig xs[m] / 2 ^ k.toNat + 1 + k) := by
  show rlK xs k m + rz (xs.getD m 0) k = _
  rw [show xs.getD m 0 = xs[m] by simp [List.getD, List.getElem?_eq_getElem h]]
  rfl
theorem minK (k : Int) (hk2 : k ≤ 20) : min k.toNat 64 = k.toNat := by omega
set_option maxHeartbeats 1000000 in
theorem rlS_any (v : Value) (xs : List Int) (k : Int) (w : World) (B : Nat) (h : Rd w B v (il xs)) (hm : xs.length ≤ 128) (hw : withB 1000000 xs = true) (hk : 0 ≤ k) (hk2 : k ≤ 20) :
    Calls Try.prog 60 #[v, .int .i64 k] w fun e w' => e = .returned (.int .i64 (rlK xs k xs.length)) ∧ w = w' := by
  obtain ⟨A, c, hv, hc1, hc2, hcell⟩ := h
  rw [il_len] at hv hc1 hcell
  subst hv
  have hC := Lib.hid hcell
  have HW := Lib.hid hw
  have HB := Lib.hid (rlK_b xs k hw hk hk2)
  clear hcell hw
  go_enter Try.func60, Try.ntmps60
  go_wp2
  go_loop [5, 6] (fun s i => ∃ j : Nat, j ≤ xs.length ∧ i = .int .i64 j ∧ s = .int .i64 (rlK xs k j)) (fun _ i => xs.length - (intOf i).toNat)
  case atStart => exact ⟨0, Nat.zero_le _, rfl, rfl⟩
  case round =>
    obtain ⟨j, hj, rfl, rfl⟩ := hrel
    by_cases hlt : j < xs.length
    · obtain ⟨b, off, rfl, hbl, hcc⟩ := hC.out (by omega)
      have hsrc : w.cell? ⟨b, off + j, none⟩ = some (.int .i64 xs[j]) := hcc j _ (il_get xs j hlt)
      clear hcc hC
      have hx := withB_out HW.out j hlt
      have HZ := Lib.hid (fun w' => zigS_any xs[j] w' hx.1 hx.2)
      have HS := Lib.hid (rlK_succ xs k j hlt)
      obtain ⟨q0, q1⟩ := rz_b xs[j] k hx.1 hx.2 hk hk2
      obtain ⟨r0, r1⟩ := HB.out j (by omega)
      have hmk := minK k hk2
      generalize zig xs[j] = z at *
      generalize xs[j] = x at *
      generalize rlK xs k j = r at *
      obtain ⟨q, hq⟩ : ∃ q, z / 2 ^ k.toNat = q := ⟨_, rfl⟩
      rw [hq] at HS q0 q1
      clear hx
      go_wp2_with (go_at_call 56; refine (HZ.out _).mono ?_; rintro e w' ⟨rfl, rfl⟩)
      go_round
      case rel => exact ⟨j + 1, by omega, by go_num, by rw [HS.out]⟩
      case measure => simp [intOf]; omega
    · obtain rfl : j = xs.length := by omega
      go_wp2
      go_ret
      exact ⟨rfl, rfl⟩
end Go.Proofs.Ytdlginbmelbfgaa
