/-
  Contracts: lengths that evens and odds of a list can have, by the program and by the model.
-/
import Derived.Test.YtfbdmhkmkmbipaaDpk
namespace Go.Proofs.Ytfbdmhkmkmbipaa
open Go.RowKit Fl
set_option linter.unusedVariables false
set_option maxRecDepth 100000
set_option linter.unusedSimpArgs false
open Sf (vsB vsI_any vsP_any RetBB)

set_option maxHeartbeats 2000000 in
theorem hvI_fit (A0 A1 : Option Addr) (n0 c0 n1 c1 : Nat) (w : World) (hn0 : n0 ≤ 1048576) (hn1 : n1 ≤ 1048576) : Calls Try.prog 67 #[.slice A0 n0 c0, .slice A1 n1 c1] w (fun e w' => e = .returned (.bool (fitB n0 n1)) ∧ w' = w) := by
  have hwr : IntKind.i64.wrap ((n0 : Int) - 1) = (n0 : Int) - 1 := by rw [IntKind.wrap_i64]; omega
  by_cases h1 : 1 ≤ n0
  · by_cases h2 : n0 ≤ 64
    · by_cases h3 : n1 = n0
      · have HV := Lib.hid (show fitB n0 n1 = true by unfold fitB; simp only [decide_eq_true_eq, decide_eq_false_iff_not]; omega)
        rw [HV.out]
        have q0 : (1 : Int) ≤ (n0 : Int) := by omega
        have q1 : (n0 : Int) ≤ 64 := by omega
        have q2 : ((n1 : Int) == (n0 : Int)) = true := by simp; omega
        skip
        go_enter Try.func67, Try.ntmps67
        go_wp2_with fail
        exact bodyPost_ret (v := .bool true) (by simp [results, Try.results67, go_sem] <;> omega) rfl ⟨rfl, rfl⟩
      · by_cases h4 : n1 + 1 = n0
        · have HV := Lib.hid (show fitB n0 n1 = true by unfold fitB; simp only [decide_eq_true_eq, decide_eq_false_iff_not]; omega)
          rw [HV.out]
          have q0 : (1 : Int) ≤ (n0 : Int) := by omega
          have q1 : (n0 : Int) ≤ 64 := by omega
          have q2 : ((n1 : Int) == (n0 : Int)) = false := by simp; omega
          have q3 : ((n1 : Int) == (n0 : Int) - 1) = true := by simp; omega
          skip
          go_enter Try.func67, Try.ntmps67
          go_wp2_with fail
          exact bodyPost_ret (v := .bool true) (by simp [results, Try.results67, go_sem] <;> omega) rfl ⟨rfl, rfl⟩
        · have HV := Lib.hid (show fitB n0 n1 = false by unfold fitB; simp only [decide_eq_true_eq, decide_eq_false_iff_not]; omega)
          rw [HV.out]
          have q0 : (1 : Int) ≤ (n0 : Int) := by omega
          have q1 : (n0 : Int) ≤ 64 := by omega
          have q2 : ((n1 : Int) == (n0 : Int)) = false := by simp; omega
          have q3 : ((n1 : Int) == (n0 : Int) - 1) = false := by simp; omega
          skip
          go_enter Try.func67, Try.ntmps67
          go_wp2_with fail
          exact bodyPost_ret (v := .bool false) (by simp [results, Try.results67, go_sem] <;> omega) rfl ⟨rfl, rfl⟩
    · have HV := Lib.hid (show fitB n0 n1 = false by unfold fitB; simp only [decide_eq_true_eq, decide_eq_false_iff_not]; omega)
      rw [HV.out]
      have q0 : (1 : Int) ≤ (n0 : Int) := by omega
      have q1 : ¬ (n0 : Int) ≤ 64 := by omega
      skip
      go_enter Try.func67, Try.ntmps67
      go_wp2_with fail
      exact bodyPost_ret (v := .bool false) (by simp [results, Try.results67, go_sem] <;> omega) rfl ⟨rfl, rfl⟩
  · have HV := Lib.hid (show fitB n0 n1 = false by unfold fitB; simp only [decide_eq_true_eq, decide_eq_false_iff_not]; omega)
    rw [HV.out]
    have q0 : ¬ (1 : Int) ≤ (n0 : Int) := by omega
    skip
    go_enter Try.func67, Try.ntmps67
    go_wp2_with fail
    exact bodyPost_ret (v := .bool false) (by simp [results, Try.results67, go_sem] <;> omega) rfl ⟨rfl, rfl⟩
set_option maxHeartbeats 2000000 in
theorem hvS_fit (n0 n1 : Nat) (w : World) (hn0 : n0 ≤ 1048576) (hn1 : n1 ≤ 1048576) : Calls Try.prog 64 #[.int .i64 (n0 : Int), .int .i64 (n1 : Int)] w (fun e w' => e = .returned (.bool (fitB n0 n1)) ∧ w' = w) := by
  have hwr : IntKind.i64.wrap ((n0 : Int) - 1) = (n0 : Int) - 1 := by rw [IntKind.wrap_i64]; omega
  have hwr2 : IntKind.i64.wrap ((n0 : Int) + (n1 : Int)) = (n0 : Int) + (n1 : Int) := by rw [IntKind.wrap_i64]; omega
  by_cases h1 : 1 ≤ n0
  · by_cases h2 : n0 ≤ 64
    · by_cases h3 : n1 = n0
      · have HV := Lib.hid (show fitB n0 n1 = true by unfold fitB; simp only [decide_eq_true_eq, decide_eq_false_iff_not]; omega)
        rw [HV.out]
        have q0 : (1 : Int) ≤ (n0 : Int) := by omega
        have q1 : ((n1 : Int) == (n0 : Int)) = true := by simp; omega
        have q2 : (n0 : Int) + (n1 : Int) ≤ 128 := by omega
        have q3 : (n0 : Int) + (n0 : Int) ≤ 128 := by omega
        skip
        go_enter Try.func64, Try.ntmps64
        go_wp2_with fail
        exact bodyPost_ret (v := .bool true) (by simp [results, Try.results64, go_sem] <;> omega) rfl ⟨rfl, rfl⟩
      · by_cases h4 : n1 + 1 = n0
        · have HV := Lib.hid (show fitB n0 n1 = true by unfold fitB; simp only [decide_eq_true_eq, decide_eq_false_iff_not]; omega)
          rw [HV.out]
          have q0 : (1 : Int) ≤ (n0 : Int) := by omega
          have q1 : ((n1 : Int) == (n0 : Int)) = false := by simp; omega
          have q2 : ((n1 : Int) == (n0 : Int) - 1) = true := by simp; omega
          have q3 : (n0 : Int) + (n1 : Int) ≤ 128 := by omega
          skip
          go_enter Try.func64, Try.ntmps64
          go_wp2_with fail
          exact bodyPost_ret (v := .bool true) (by simp [results, Try.results64, go_sem] <;> omega) rfl ⟨rfl, rfl⟩
        · have HV := Lib.hid (show fitB n0 n1 = false by unfold fitB; simp only [decide_eq_true_eq, decide_eq_false_iff_not]; omega)
          rw [HV.out]
          have q0 : (1 : Int) ≤ (n0 : Int) := by omega
          have q1 : ((n1 : Int) == (n0 : Int)) = false := by simp; omega
          have q2 : ((n1 : Int) == (n0 : Int) - 1) = false := by simp; omega
          skip
          go_enter Try.func64, Try.ntmps64
          go_wp2_with fail
          exact bodyPost_ret (v := .bool false) (by simp [results, Try.results64, go_sem] <;> omega) rfl ⟨rfl, rfl⟩
    · by_cases h3 : n1 = n0
      · have HV := Lib.hid (show fitB n0 n1 = false by unfold fitB; simp only [decide_eq_true_eq, decide_eq_false_iff_not]; omega)
        rw [HV.out]
        have q0 : (1 : Int) ≤ (n0 : Int) := by omega
        have q1 : ((n1 : Int) == (n0 : Int)) = true := by simp; omega
        have q2 : ¬ (n0 : Int) + (n1 : Int) ≤ 128 := by omega
        have q3 : 128 < (n0 : Int) + (n0 : Int) := by omega
        skip
        go_enter Try.func64, Try.ntmps64
        go_wp2_with fail
        exact bodyPost_ret (v := .bool false) (by simp [results, Try.results64, go_sem] <;> omega) rfl ⟨rfl, rfl⟩
      · by_cases h4 : n1 + 1 = n0
        · have HV := Lib.hid (show fitB n0 n1 = false by unfold fitB; simp only [decide_eq_true_eq, decide_eq_false_iff_not]; omega)
          rw [HV.out]
          have q0 : (1 : Int) ≤ (n0 : Int) := by omega
          have q1 : ((n1 : Int) == (n0 : Int)) = false := by simp; omega
          have q2 : ((n1 : Int) == (n0 : Int) - 1) = true := by simp; omega
          have q3 : ¬ (n0 : Int) + (n1 : Int) ≤ 128 := by omega
          skip
          go_enter Try.func64, Try.ntmps64
          go_wp2_with fail
          exact bodyPost_ret (v := .bool false) (by simp [results, Try.results64, go_sem] <;> omega) rfl ⟨rfl, rfl⟩
        · have HV := Lib.hid (show fitB n0 n1 = false by unfold fitB; simp only [decide_eq_true_eq, decide_eq_false_iff_not]; omega)
          rw [HV.out]
          have q0 : (1 : Int) ≤ (n0 : Int) := by omega
          have q1 : ((n1 : Int) == (n0 : Int)) = false := by simp; omega
          have q2 : ((n1 : Int) == (n0 : Int) - 1) = false := by simp; omega
          skip
          go_enter Try.func64, Try.ntmps64
          go_wp2_with fail
          exact bodyPost_ret (v := .bool false) (by simp [results, Try.results64, go_sem] <;> omega) rfl ⟨rfl, rfl⟩
  · have HV := Lib.hid (show fitB n0 n1 = false by unfold fitB; simp only [decide_eq_true_eq, decide_eq_false_iff_not]; omega)
    rw [HV.out]
    have q0 : ¬ (1 : Int) ≤ (n0 : Int) := by omega
    skip
    go_enter Try.func64, Try.ntmps64
    go_wp2_with fail
    exact bodyPost_ret (v := .bool false) (by simp [results, Try.results64, go_sem] <;> omega) rfl ⟨rfl, rfl⟩
def RetId (v : Value) (b : Bool) (w : World) (e : Ending) (w' : World) : Prop := e = .returned (.tuple #[if b then v else .slice none 0 0, .bool b]) ∧ ∃ n, w' = w.drewN n
theorem lsD_any (v : Value) (L : List Nat) (w : World) (B : Nat) (h : Rd w B v (fl L)) (hm : L.length ≤ 1048576) (hx : ∀ x ∈ L, x < 2 ^ 32) :
    Calls Try.prog 101 #[v] w (RetId v (finA L) w) := by
  have HF := Lib.hid (finS_any v L w B h hm hx)
  obtain ⟨A, c, hv, _, _, _⟩ := h
  rw [fl_len] at hv
  subst hv
  cases hf : finA L
  all_goals
    have HT := Lib.hid hf
    clear hf
    go_enter Try.func101, Try.ntmps101
    go_wp2_with (go_at_call 65; refine HF.out.mono ?_; rintro e w' ⟨rfl, n, rfl⟩; rw [HT.out])
    go_ret2
    exact ⟨rfl, _, rfl⟩
theorem below_then {w X w6 : World} (h6 : Below X.heap.size X w6) (h : Below w.heap.size w X) : Below w.heap.size w w6 := h.trans (h6.mono h.size)
theorem retDb_yes {ws low high cL : List Nat} {s : Nat} {v : Value} {w w' : World} (h : dpB ws s low high = true) (o : Own w' w.heap.size v (fl cL)) (i : IsL cL (dpL ws s low high)) (hb : Below w.heap.size w w') : RetDb (dpR ws s low high) (dpB ws s low high) w (.returned (.tuple #[v, .bool true])) w' := by
  have hf : finA (dpL ws s low high) = true := by unfold dpB at h; simp only [Bool.and_eq_true] at h; exact h.2
  obtain rfl := isD_fin_eq i hf
  refine ⟨v, by rw [h], ?_, hb⟩
  unfold dpR; rw [h]; exact o
end Go.Proofs.Ytfbdmhkmkmbipaa
