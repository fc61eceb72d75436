/-
  Contracts: mirrored indices of both sides.
-/
import Derived.Test.YteogogcjndfkoaaChecked
import Derived.WalkKit
import Derived.Handy
import Derived.Lib.Hide
import Derived.Test.YteogogcjndfkoaaIn
import Derived.WalkMore
namespace Go.Proofs.Yteogogcjndfkoaa
open Go.RowKit
set_option linter.unusedVariables false

/-- To which index i is mirrored in n numbers. -/
def mir (n i : Int) : Int :=
  if n = 1 then 0 else
  let j := i.tmod (2 * (n - 1))
  let k := if j < 0 then -j else j
  if n ≤ k then 2 * (n - 1) - k else k
theorem tmod_bd (i m : Int) (hm : 0 < m) : -m < i.tmod m ∧ i.tmod m < m := by
  have h1 := Int.tmod_lt_of_pos i hm
  have h2 := Int.lt_tmod_of_pos i hm
  omega
theorem mir_bd (n i : Int) (h : 1 ≤ n) : 0 ≤ mir n i ∧ mir n i < n := by
  unfold mir
  by_cases h1 : n = 1
  · simp [h1]
  · rw [if_neg h1]
    have := tmod_bd i (2 * (n - 1)) (by omega)
    simp only []
    split <;> split <;> omega
theorem mir_j {n i j : Int} (h1 : n ≠ 1) (hj : i.tmod (2 * (n - 1)) = j) : mir n i = if n ≤ (if j < 0 then -j else j) then 2 * (n - 1) - (if j < 0 then -j else j) else if j < 0 then -j else j := by
  unfold mir; rw [if_neg h1, hj]

set_option maxHeartbeats 400000 in
theorem mirS_any (n i : Int) (w : World) (h0 : 1 ≤ n) (h1 : n ≤ 1000) (h2 : -2000000 ≤ i) (h3 : i ≤ 2000000) :
    Calls Try.prog 58 #[.int .i64 n, .int .i64 i] w fun e w' => e = .returned (.int .i64 (mir n i)) ∧ w = w' := by
  by_cases hn : n = 1
  · subst hn
    go_enter Try.func58, Try.ntmps58
    go_wp2
    go_ret
    exact ⟨rfl, rfl⟩
  · have hb := tmod_bd i (2 * (n - 1)) (by omega)
    have hne : ((n : Int) == 1) = false := by simpa using hn
    have hm := Lib.hid (mir_j hn rfl (i := i))
    clear hn
    obtain ⟨hb1, hb2⟩ := hb
    go_enter Try.func58, Try.ntmps58
    go_wp2
    all_goals
      go_ret
      exact ⟨ret_i (by rw [hm.out]; (repeat' split) <;> omega), rfl⟩

/-- What a mirroring still has to do. -/
def MirR (n r v : Int) : Prop := (0 ≤ v ∧ v < n ∧ v = r) ∨ (n ≤ v ∧ v ≤ 2 * (n - 1) ∧ 2 * (n - 1) - v = r) ∨ (v < 0 ∧ -v < n ∧ -v = r) ∨ (v < 0 ∧ n ≤ -v ∧ -v ≤ 2 * (n - 1) ∧ 2 * (n - 1) + v = r)
def mirM (n v : Int) : Nat := if v < 0 then 2 else if n ≤ v then 1 else 0
theorem mirM_down {n v u : Int} (hn : 1 ≤ n) (h : (n ≤ v ∧ 0 ≤ u ∧ u < n) ∨ (v < 0 ∧ 0 ≤ u)) : mirM n u < mirM n v := by
  unfold mirM
  by_cases h1 : v < 0 <;> by_cases h2 : u < 0 <;> by_cases h3 : n ≤ v <;> by_cases h4 : n ≤ u <;> simp only [h1, h2, h3, h4, if_true, if_false] <;> omega
set_option maxHeartbeats 800000 in
theorem mirI_any (n i : Int) (w : World) (h0 : 1 ≤ n) (h1 : n ≤ 1000) (h2 : -2000000 ≤ i) (h3 : i ≤ 2000000) :
    Calls Try.prog 59 #[.int .i64 n, .int .i64 i] w fun e w' => e = .returned (.int .i64 (mir n i)) ∧ w = w' := by
  by_cases hn : n = 1
  · subst hn
    go_enter Try.func59, Try.ntmps59
    go_wp2
    go_step3
    go_wp2
    rw [Exit.noGoto_ret]
    go_ret
    exact ⟨rfl, rfl⟩
  · have hb := tmod_bd i (2 * (n - 1)) (by omega)
    have hne : ((n : Int) == 1) = false := by simpa using hn
    have hm := Lib.hid (mir_j hn rfl (i := i))
    clear hn
    obtain ⟨hb1, hb2⟩ := hb
    go_enter Try.func59, Try.ntmps59
    go_wp2
    go_step3
    go_wp2
    go_step3
    go_wp2
    go_loop [1] (fun t => ∃ v : Int, t = .int .i64 v ∧ MirR n (mir n i) v) (fun t => mirM n (intOf t))
    case atStart => exact ⟨_, rfl, by unfold MirR; rw [hm.out]; (repeat' split) <;> omega⟩
    case round =>
      obtain ⟨v, rfl, hv⟩ := hrel
      clear hb1 hb2
      rcases hv with ⟨a, b, c⟩ | ⟨a, b, c⟩ | ⟨a, b, c⟩ | ⟨a, b, d, c⟩
      · have hc := Lib.hid c
        clear c
        go_wp2
        go_ret
        exact ⟨ret_i hc.out, rfl⟩
      all_goals
        have hc := Lib.hid c
        clear c
        go_wp2
        go_round
        case rel => exact ⟨_, rfl, by have h1 := hc.out; unfold MirR; omega⟩
        case measure => exact mirM_down h0 (by simp only [intOf]; omega)

theorem mirA_no (n i : Int) (w : World) (h : n < 1 ∨ 128 < n ∨ i < -1000000 ∨ 1000000 < i) : 
    Calls Try.prog 24 #[.int .i64 n, .int .i64 i] w fun e w' => e = .returned (.tuple #[.int .i64 0, .bool false]) ∧ w = w' := by
  by_cases h1 : n < 1
  · clear h
    go_enter Try.func24, Try.ntmps24
    go_wp2_with fail
    go_ret2
    exact ⟨rfl, rfl⟩
  · by_cases h2 : 128 < n
    · have h1' : 1 ≤ n := by omega
      clear h h1
      go_enter Try.func24, Try.ntmps24
      go_wp2_with fail
      go_ret2
      exact ⟨rfl, rfl⟩
    · by_cases h3 : i < -1000000
      · have h1' : 1 ≤ n := by omega
        have h2' : n ≤ 128 := by omega
        clear h h1 h2
        go_enter Try.func24, Try.ntmps24
        go_wp2_with fail
        go_ret2
        exact ⟨rfl, rfl⟩
      · have h1' : 1 ≤ n := by omega
        have h2' : n ≤ 128 := by omega
        have h3' : -1000000 ≤ i := by omega
        have h4' : 1000000 < i := by omega
        clear h h1 h2 h3
        go_enter Try.func24, Try.ntmps24
        go_wp2_with fail
        go_ret2
        exact ⟨rfl, rfl⟩
theorem mirA_yes (n i : Int) (w : World) (h0 : 1 ≤ n) (h1 : n ≤ 128) (h2 : -1000000 ≤ i) (h3 : i ≤ 1000000) :
    Calls Try.prog 24 #[.int .i64 n, .int .i64 i] w fun e w' => e = .returned (.tuple #[.int .i64 (mir n i), .bool true]) ∧ w = w' := by
  go_enter Try.func24, Try.ntmps24
  go_wp2_with (go_at_call 59; refine (mirI_any _ _ _ h0 (by omega) (by omega) (by omega)).mono ?_; rintro e w' ⟨rfl, rfl⟩)
  go_ret2
  exact ⟨rfl, rfl⟩
theorem mirP_yes (n i : Int) (w : World) (h0 : 1 ≤ n) (h1 : n ≤ 128) (h2 : -1000000 ≤ i) (h3 : i ≤ 1000000) :
    Calls Try.prog 23 #[.int .i64 n, .int .i64 i] w fun e w' => e = .returned (.tuple #[.int .i64 (mir n i), .bool true]) ∧ w = w' := by
  go_enter Try.func23, Try.ntmps23
  go_wp2_with (first | (go_at_call 58; refine (mirS_any _ _ _ h0 (by omega) (by omega) (by omega)).mono ?_; rintro e w' ⟨rfl, rfl⟩) | (go_at_call 57; refine (in_yes _ _ _ _ (by omega) (by omega)).mono ?_; rintro e w' ⟨rfl, rfl⟩))
  go_ret2
  exact ⟨rfl, rfl⟩
theorem mirP_no (n i : Int) (w : World) (h : n < 1 ∨ 128 < n ∨ i < -1000000 ∨ 1000000 < i) : 
    Calls Try.prog 23 #[.int .i64 n, .int .i64 i] w fun e w' => e = .returned (.tuple #[.int .i64 0, .bool false]) ∧ w = w' := by
  by_cases h1 : n < 1 ∨ 128 < n
  · clear h
    go_enter Try.func23, Try.ntmps23
    go_wp2_with (go_at_call 57; refine (in_not _ _ _ _ h1).mono ?_; rintro e w' ⟨rfl, rfl⟩)
    go_ret2
    exact ⟨rfl, rfl⟩
  · have h2 : 1 ≤ n := by omega
    have h3 : n ≤ 128 := by omega
    have h4 : i < -1000000 ∨ 1000000 < i := by omega
    clear h h1
    go_enter Try.func23, Try.ntmps23
    go_wp2_with (go_at_call 57; first | (refine (in_yes _ _ _ _ (by omega) (by omega)).mono ?_; rintro e w' ⟨rfl, rfl⟩) | (refine (in_not _ _ _ _ (by omega)).mono ?_; rintro e w' ⟨rfl, rfl⟩))
    go_ret2
    exact ⟨rfl, rfl⟩
end Go.Proofs.Yteogogcjndfkoaa
