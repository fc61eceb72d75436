/-
  Contracts: zigzags, of both sides.
-/
import Derived.Test.YtmokgmmjnfnbfaaInt
import Derived.Test.YtmokgmmjnfnbfaaIff
namespace Go.Proofs.Ytmokgmmjnfnbfaa
open Go.RowKit
set_option linter.unusedVariables false

def zig (n : Int) : Int := if n < 0 then -2 * n - 1 else 2 * n
def zag (n : Int) : Int := if n % 2 = 1 then -((n + 1) / 2) else n / 2
theorem zig_nn (n : Int) : 0 ≤ zig n := by unfold zig; split <;> omega
theorem zig_le (n : Int) (h1 : -1000000 ≤ n) (h2 : n ≤ 1000000) : zig n ≤ 2000000 := by unfold zig; split <;> omega
/-- Returns this, and turns nothing that there was. -/
def RetV (t : Value) (w : World) (e : Ending) (w' : World) : Prop := e = .returned t ∧ Below w.heap.size w w'
def inZ (n : Int) : Bool := decide (-1000000 ≤ n ∧ n ≤ 1000000)
def zzV (n : Int) : Int := if inZ n then zig n else 0
theorem zag_e (q : Int) : zag (2 * q) = q := by unfold zag; rw [if_neg (by omega)]; omega
theorem zag_o (q : Int) : zag (2 * q + 1) = -(q + 1) := by unfold zag; rw [if_pos (by omega)]; omega
theorem par (n : Int) : ∃ q, n = 2 * q ∨ n = 2 * q + 1 := ⟨n / 2, by omega⟩
theorem tmod_e (q : Int) (h : 0 ≤ q) : (2 * q).tmod 2 = 0 := by rw [Int.tmod_eq_emod_of_nonneg (by omega)]; omega
theorem tmod_o (q : Int) (h : 0 ≤ q) : (2 * q + 1).tmod 2 = 1 := by rw [Int.tmod_eq_emod_of_nonneg (by omega)]; omega
theorem tdiv_e (q : Int) (h : 0 ≤ q) : (2 * q).tdiv 2 = q := by rw [Int.tdiv_eq_ediv_of_nonneg (by omega)]; omega
theorem tdiv_o (q : Int) (h : 0 ≤ q) : (-(2 * q + 1 + 1)).tdiv 2 = -(q + 1) := by rw [Int.neg_tdiv, Int.tdiv_eq_ediv_of_nonneg (by omega)]; omega
theorem zagS_any (n : Int) (w : World) (h1 : 0 ≤ n) (h2 : n ≤ 1000000000000000) : Calls Try.prog 69 #[.int .i64 n] w fun e w' => e = .returned (.int .i64 (zag n)) ∧ w = w' := by
  obtain ⟨q, hq⟩ := par n
  have h0 : 0 ≤ q := by omega
  have h9 : q ≤ 1000000000000000 := by omega
  rcases hq with rfl | rfl
  · have e1 := tmod_e q h0
    have e5 : ((2 * q).tmod 2 == 1) = false := by rw [e1]; rfl
    have e6 : ((2 * q).tmod 2 == 0) = true := by rw [e1]; rfl
    have e2 := tdiv_e q h0
    rw [zag_e]
    generalize hn : 2 * q = n at *
    clear hn
    go_enter Try.func69, Try.ntmps69
    go_wp2_with fail
    go_ret
    exact ⟨rfl, rfl⟩
  · have e1 := tmod_o q h0
    have e5 : ((2 * q + 1).tmod 2 == 1) = true := by rw [e1]; rfl
    have e6 : ((2 * q + 1).tmod 2 == 0) = false := by rw [e1]; rfl
    have e2 := tdiv_o q h0
    rw [zag_o]
    generalize hn : 2 * q + 1 = n at *
    clear hn
    go_enter Try.func69, Try.ntmps69
    go_wp2_with fail
    go_ret
    exact ⟨rfl, rfl⟩
def inG (n : Int) : Bool := decide (0 ≤ n ∧ n ≤ 2000000)
def zgV (n : Int) : Int := if inG n then zag n else 0
theorem fzI_any (n : Int) (w : World) (hn : (Lit.int .i64 n).wf = true) : Calls Try.prog 73 #[.int .i64 n] w (RetV (.tuple #[.int .i64 (zgV n), .bool (inG n)]) w) := by
  by_cases h1 : n < 0
  · rw [show inG n = false from decide_eq_false (by omega), show zgV n = 0 by unfold zgV; rw [if_neg (by rw [show inG n = false from decide_eq_false (by omega)]; simp)]]
    go_enter Try.func73, Try.ntmps73
    go_wp2_with fail
    go_ret2
    exact ⟨rfl, Below.refl _ _⟩
  · by_cases h2 : 2000000 < n
    · rw [show inG n = false from decide_eq_false (by omega), show zgV n = 0 by unfold zgV; rw [if_neg (by rw [show inG n = false from decide_eq_false (by omega)]; simp)]]
      go_enter Try.func73, Try.ntmps73
      go_wp2_with fail
      go_ret2
      exact ⟨rfl, Below.refl _ _⟩
    · have h3 : 0 ≤ n := by omega
      have h4 : n ≤ 2000000 := by omega
      rw [show inG n = true from decide_eq_true ⟨h3, h4⟩, show zgV n = zag n by unfold zgV; rw [if_pos (show inG n = true from decide_eq_true ⟨h3, h4⟩)]]
      clear h1 h2
      obtain ⟨q, hq⟩ := par n
      have h0 : 0 ≤ q := by omega
      have h9 : q ≤ 1000000000000000 := by omega
      rcases hq with rfl | rfl
      · have e1 := tmod_e q h0
        have e5 : ((2 * q).tmod 2 == 1) = false := by rw [e1]; rfl
        have e6 : ((2 * q).tmod 2 == 0) = true := by rw [e1]; rfl
        have e2 := tdiv_e q h0
        rw [zag_e]
        generalize hn : 2 * q = n at *
        clear hn
        go_enter Try.func73, Try.ntmps73
        go_wp2_with fail
        go_ret2
        exact ⟨rfl, Below.refl _ _⟩
      · have e1 := tmod_o q h0
        have e5 : ((2 * q + 1).tmod 2 == 1) = true := by rw [e1]; rfl
        have e6 : ((2 * q + 1).tmod 2 == 0) = false := by rw [e1]; rfl
        have e2 := tdiv_o q h0
        rw [zag_o]
        generalize hn : 2 * q + 1 = n at *
        clear hn
        go_enter Try.func73, Try.ntmps73
        go_wp2_with fail
        go_ret2
        exact ⟨rfl, Below.refl _ _⟩
end Go.Proofs.Ytmokgmmjnfnbfaa
