/-
  Contracts: CheckOf of both sides, for every start and every text.
-/
import Derived.Test.YtcncobafpifimacChecked
import Derived.WalkKit
import Derived.Handy
import Derived.Lib.Hide
namespace Go.Proofs.Ytcncobafpifimac
open Go.RowKit
set_option linter.unusedVariables false

/-- The check number. -/
def ckF (l : List UInt8) (n : Int) : Int := l.foldl (fun n c => (853 * n + (c.toNat : Int) + 139) % 65003) n
theorem ckF_snoc (l : List UInt8) (c : UInt8) (n : Int) : ckF (l ++ [c]) n = (853 * ckF l n + (c.toNat : Int) + 139) % 65003 := by simp [ckF]
theorem ckF_bd (l : List UInt8) (n : Int) (h0 : 0 ≤ n) (h1 : n ≤ 65002) : 0 ≤ ckF l n ∧ ckF l n ≤ 65002 := by
  induction l generalizing n with
  | nil => exact ⟨h0, h1⟩
  | cons c l ih =>
    show 0 ≤ ckF l ((853 * n + (c.toNat : Int) + 139) % 65003) ∧ _
    exact ih _ (by omega) (by omega)
theorem take_snoc' (s : ByteArray) (k : Nat) (h : k < s.size) : s.data.toList.take (k + 1) = s.data.toList.take k ++ [s[k]] := by
  rw [List.take_succ_eq_append_getElem (by simpa using h)]; rfl

set_option maxHeartbeats 400000 in
theorem ckS_any (n : Int) (s : ByteArray) (w : World) (hs : s.size ≤ maxLen) (h0 : 0 ≤ n) (h1 : n ≤ 65002) :
    Calls Try.prog 25 #[.int .i64 n, .string s] w fun e w' => e = .returned (.int .i64 (ckF s.data.toList n)) ∧ w = w' := by
  unfold maxLen at hs
  go_enter Try.func25, Try.ntmps25
  go_wp2
  go_loop [0, 5] (fun t i => ∃ k : Nat, k ≤ s.size ∧ i = .int .i64 k ∧ t = .int .i64 (ckF (s.data.toList.take k) n)) (fun _ i => s.size - (intOf i).toNat)
  case atStart => exact ⟨0, Nat.zero_le _, rfl, rfl⟩
  case round =>
    obtain ⟨k, hk, rfl, rfl⟩ := hrel
    have hb := ckF_bd (s.data.toList.take k) n h0 h1
    by_cases hlt : k < s.size
    · have hsn := ckF_snoc (s.data.toList.take k) s[k] n
      rw [← take_snoc' s k hlt] at hsn
      have HS := Lib.hid hsn
      clear hsn
      have hc : (s[k].toNat : Int) ≤ 255 := by have := s[k].toNat_lt; omega
      have hc0 : 0 ≤ (s[k].toNat : Int) := by omega
      go_wp2
      go_round
      case rel => exact ⟨k + 1, by omega, by go_num, by rw [HS.out]⟩
      case measure => simp [intOf]; omega
    · go_wp2
      go_ret
      have hkk : k = s.size := by omega
      subst hkk
      rw [List.take_of_length_le (by simp)]
      exact ⟨rfl, rfl⟩
set_option maxHeartbeats 400000 in
theorem ckI_any (n : Int) (s : ByteArray) (w : World) (hs : s.size ≤ maxLen) (h0 : 0 ≤ n) (h1 : n ≤ 65002) :
    Calls Try.prog 15 #[.int .i64 n, .string s] w fun e w' => e = .returned (.tuple #[.int .i64 (ckF s.data.toList n), .bool true]) ∧ w = w' := by
  unfold maxLen at hs
  go_enter Try.func15, Try.ntmps15
  go_wp2
  go_loop [6, 17] (fun t i => ∃ k : Nat, k ≤ s.size ∧ i = .int .i64 k ∧ t = .int .i64 (ckF (s.data.toList.take k) n)) (fun _ i => s.size - (intOf i).toNat)
  case atStart => exact ⟨0, Nat.zero_le _, rfl, rfl⟩
  case round =>
    obtain ⟨k, hk, rfl, rfl⟩ := hrel
    have hb := ckF_bd (s.data.toList.take k) n h0 h1
    by_cases hlt : k < s.size
    · have hsn := ckF_snoc (s.data.toList.take k) s[k] n
      rw [← take_snoc' s k hlt] at hsn
      have HS := Lib.hid hsn
      clear hsn
      have hc : (s[k].toNat : Int) ≤ 255 := by have := s[k].toNat_lt; omega
      have hc0 : 0 ≤ (s[k].toNat : Int) := by omega
      go_wp2
      go_round
      case rel => exact ⟨k + 1, by omega, by go_num, by rw [HS.out]⟩
      case measure => simp [intOf]; omega
    · go_wp2
      go_ret2
      have hkk : k = s.size := by omega
      subst hkk
      rw [List.take_of_length_le (by simp)]
      exact ⟨rfl, rfl⟩
theorem ckI_no (n : Int) (s : ByteArray) (w : World) (h : n < 0 ∨ 65002 < n) :
    Calls Try.prog 15 #[.int .i64 n, .string s] w fun e w' => e = .returned (.tuple #[.int .i64 0, .bool false]) ∧ w = w' := by
  by_cases h0 : n < 0
  · go_enter Try.func15, Try.ntmps15
    go_wp2
    go_ret2
    exact ⟨rfl, rfl⟩
  · have h1 : 65003 ≤ n := by omega
    have h2 : 0 ≤ n := by omega
    clear h h0
    go_enter Try.func15, Try.ntmps15
    go_wp2
    go_ret2
    exact ⟨rfl, rfl⟩
theorem in_yes (n lo hi : Int) (w : World) (h0 : lo ≤ n) (h1 : n ≤ hi) : Calls Try.prog 24 #[.int .i64 n, .int .i64 lo, .int .i64 hi] w fun e w' => e = .returned (.bool true) ∧ w = w' := by
  go_enter Try.func24, Try.ntmps24
  go_wp2_with fail
  go_ret
  exact ⟨rfl, rfl⟩
theorem in_low (n lo hi : Int) (w : World) (h0 : n < lo) : Calls Try.prog 24 #[.int .i64 n, .int .i64 lo, .int .i64 hi] w fun e w' => e = .returned (.bool false) ∧ w = w' := by
  go_enter Try.func24, Try.ntmps24
  go_wp2_with fail
  go_ret
  exact ⟨rfl, rfl⟩
theorem in_high (n lo hi : Int) (w : World) (h0 : lo ≤ n) (h1 : hi < n) : Calls Try.prog 24 #[.int .i64 n, .int .i64 lo, .int .i64 hi] w fun e w' => e = .returned (.bool false) ∧ w = w' := by
  go_enter Try.func24, Try.ntmps24
  go_wp2_with fail
  go_ret
  have hd : decide (n ≤ hi) = false := decide_eq_false (by omega)
  exact ⟨by rw [← hd]; rfl, rfl⟩
theorem in_not (n lo hi : Int) (w : World) (h : n < lo ∨ hi < n) : Calls Try.prog 24 #[.int .i64 n, .int .i64 lo, .int .i64 hi] w fun e w' => e = .returned (.bool false) ∧ w = w' := by
  by_cases h0 : n < lo
  · exact in_low n lo hi w h0
  · exact in_high n lo hi w (by omega) (by omega)


theorem ckSp_in (n : Int) (s : ByteArray) (w : World) (hs : s.size ≤ maxLen) (h0 : 0 ≤ n) (h1 : n ≤ 65002) :
    Calls Try.prog 14 #[.int .i64 n, .string s] w fun e w' => e = .returned (.tuple #[.int .i64 (ckF s.data.toList n), .bool true]) ∧ w = w' := by
  go_enter Try.func14, Try.ntmps14
  go_wp2_with (first | (go_at_call 24; refine (in_yes _ _ _ _ h0 h1).mono ?_; rintro e w' ⟨rfl, rfl⟩) | (go_at_call 25; refine (ckS_any _ _ _ hs h0 h1).mono ?_; rintro e w' ⟨rfl, rfl⟩))
  go_ret2
  exact ⟨rfl, rfl⟩
theorem ckSp_out (n : Int) (s : ByteArray) (w : World) (h : n < 0 ∨ 65002 < n) :
    Calls Try.prog 14 #[.int .i64 n, .string s] w fun e w' => e = .returned (.tuple #[.int .i64 0, .bool false]) ∧ w = w' := by
  go_enter Try.func14, Try.ntmps14
  go_wp2_with (go_at_call 24; refine (in_not _ _ _ _ h).mono ?_; rintro e w' ⟨rfl, rfl⟩)
  go_ret2
  exact ⟨rfl, rfl⟩
end Go.Proofs.Ytcncobafpifimac
