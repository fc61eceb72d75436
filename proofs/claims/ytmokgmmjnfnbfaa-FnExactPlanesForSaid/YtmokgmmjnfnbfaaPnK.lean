/-
  Contracts: PlaneOf: what is answered.
-/
import Derived.Test.YtmokgmmjnfnbfaaPa
import Derived.Test.YtmokgmmjnfnbfaaInt
import Derived.Test.YtmokgmmjnfnbfaaVc
namespace Go.Proofs.Ytmokgmmjnfnbfaa
open Go.RowKit Fl
set_option linter.unusedVariables false

def pnK (xs : List Int) (p k : Nat) : List Bool := (List.range k).map fun i => dig (absI (xs.getD i 0)) p
theorem pnK_succ (xs : List Int) (p k : Nat) (hk : k < xs.length) : pnK xs p (k + 1) = pnK xs p k ++ [dig (absI xs[k]) p] := by
  unfold pnK
  rw [List.range_succ, List.map_append]
  simp [List.getD, List.getElem?_eq_getElem hk]
theorem pnK_len (xs : List Int) (p k : Nat) : (pnK xs p k).length = k := by simp [pnK]
theorem pnK_take (xs : List Int) (p : Nat) : (plD xs p).take xs.length = pnK xs p xs.length := by
  unfold plD
  rw [List.take_left' (by simp)]
  refine List.ext_getElem (by simp [pnK]) fun i h1 h2 => ?_
  have hi : i < xs.length := by simpa using h1
  simp [pnK, List.getD, List.getElem?_eq_getElem hi]
def pnP (p : Int) : Bool := decide (0 ≤ p ∧ p ≤ 23)
def pnG (xs : List Int) (p : Int) : Bool := areB xs && pnP p
def pnV (xs : List Int) (p : Int) : List Bool := if pnG xs p then pnK xs p.toNat xs.length else []
theorem pnV_no {xs : List Int} {p : Int} (h : pnG xs p = false) : pnV xs p = [] := by unfold pnV; rw [if_neg (by rw [h]; simp)]
theorem pnV_yes {xs : List Int} {p : Int} (h : pnG xs p = true) : pnV xs p = pnK xs p.toNat xs.length := by unfold pnV; rw [if_pos h]
theorem pnV_len (xs : List Int) (p : Int) : (pnV xs p).length ≤ 1048576 := by
  cases hg : pnG xs p with
  | false => rw [pnV_no hg]; simp
  | true =>
    rw [pnV_yes hg, pnK_len]
    have h1 : areB xs = true := by unfold pnG at hg; simp at hg; exact hg.1
    have := (areB_len h1).2.1
    omega
end Go.Proofs.Ytmokgmmjnfnbfaa
