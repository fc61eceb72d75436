/-
  Contracts: zigzags, of both sides.
-/
import Derived.Test.YthkklilfignmpaaInt
import Derived.Test.YthkklilfignmpaaIff
namespace Go.Proofs.Ythkklilfignmpaa
open Go.RowKit
set_option linter.unusedVariables false

def zig (n : Int) : Int := if n < 0 then -2 * n - 1 else 2 * n
def zag (n : Int) : Int := if n % 2 = 1 then -((n + 1) / 2) else n / 2
theorem zig_nn (n : Int) : 0 ≤ zig n := by unfold zig; split <;> omega
theorem zig_le (n : Int) (h1 : -1000000 ≤ n) (h2 : n ≤ 1000000) : zig n ≤ 2000000 := by unfold zig; split <;> omega
/-- Returns this, and turns nothing that there was. -/
def RetV (t : Value) (w : World) (e : Ending) (w' : World) : Prop := e = .returned t ∧ Below w.heap.size w w'
def inZ (n : Int) : Bool := decide (-1000000 ≤ n ∧ n ≤ 1000000)
def zzV (n : Int) : Int := if inZ n then zig n else 0
theorem zag_e (q : Int) : zag (2 * q) = q := by unfold zag; rw [if_neg (by omega)]; omega
theorem zag_o (q : Int) : zag (2 * q + 1) = -(q + 1) := by unfold zag; rw [if_pos (by omega)]; omega
theorem par (n : Int) : ∃ q, n = 2 * q ∨ n = 2 * q + 1 := ⟨n / 2, by omega⟩
theorem tmod_e (q : Int) (h : 0 ≤ q) : (2 * q).tmod 2 = 0 := by rw [Int.tmod_eq_emod_of_nonneg (by omega)]; omega
theorem tmod_o (q : Int) (h : 0 ≤ q) : (2 * q + 1).tmod 2 = 1 := by rw [Int.tmod_eq_emod_of_nonneg (by omega)]; omega
theorem tdiv_e (q : Int) (h : 0 ≤ q) : (2 * q).tdiv 2 = q := by rw [Int.tdiv_eq_ediv_of_nonneg (by omega)]; omega
theorem tdiv_o (q : Int) (h : 0 ≤ q) : (-(2 * q + 1 + 1)).tdiv 2 = -(q + 1) := by rw [Int.neg_tdiv, Int.tdiv_eq_ediv_of_nonneg (by omega)]; omega
def inG (n : Int) : Bool := decide (0 ≤ n ∧ n ≤ 2000000)
def zgV (n : Int) : Int := if inG n then zag n else 0
end Go.Proofs.Ythkklilfignmpaa
