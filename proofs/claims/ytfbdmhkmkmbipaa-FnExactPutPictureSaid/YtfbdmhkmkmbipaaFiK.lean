/-
  The pixels that are not coarse (no walk in it).
-/
import Derived.Test.YtfbdmhkmkmbipaaLst
import Derived.Test.YtfbdmhkmkmbipaaPv
import Derived.Test.YtfbdmhkmkmbipaaRgn
import Derived.Test.YtfbdmhkmkmbipaaFloShr
import Derived.Test.YtfbdmhkmkmbipaaMel
namespace Go.Proofs.Ytfbdmhkmkmbipaa
open Go.RowKit Fl
set_option linter.unusedVariables false
set_option maxRecDepth 100000

def cseB (p : Nat) (u v : Int) (i : Nat) : Bool := decide (((i % p : Nat) : Int) < u) && decide (((i / p : Nat) : Int) < v)
def csB (p q : Int) (L i : Nat) : Bool := cseB p.toNat (hvI L p) (hvI L q) i
def fiN (c : Nat → Bool) (n : Nat) : List Nat := (List.range n).filter fun i => !c i
def fiL (c : Nat → Bool) (n : Nat) : List Int := (fiN c n).map fun i : Nat => (i : Int)
theorem fiN_zero (c : Nat → Bool) : fiN c 0 = [] := rfl
theorem fiL_zero (c : Nat → Bool) : fiL c 0 = [] := rfl
theorem fiN_yes {c : Nat → Bool} {n : Nat} (h : c n = true) : fiN c (n + 1) = fiN c n := by simp [fiN, List.range_succ, h]
theorem fiN_no {c : Nat → Bool} {n : Nat} (h : c n = false) : fiN c (n + 1) = fiN c n ++ [n] := by simp [fiN, List.range_succ, h]
theorem fiL_yes {c : Nat → Bool} {n : Nat} (h : c n = true) : fiL c (n + 1) = fiL c n := by unfold fiL; rw [fiN_yes h]
theorem fiL_no {c : Nat → Bool} {n : Nat} (h : c n = false) : fiL c (n + 1) = fiL c n ++ [(n : Int)] := by unfold fiL; rw [fiN_no h]; simp
theorem fiN_len (c : Nat → Bool) (n : Nat) : (fiN c n).length ≤ n := by
  have := List.length_filter_le (fun i => !c i) (List.range n)
  simpa [fiN] using this
theorem fiL_len (c : Nat → Bool) (n : Nat) : (fiL c n).length = (fiN c n).length := by simp [fiL]
theorem fiN_lt {c : Nat → Bool} {n j : Nat} (h : j < (fiN c n).length) : (fiN c n)[j] < n := by
  have h2 : (fiN c n)[j] ∈ (List.range n).filter (fun i => !c i) := List.getElem_mem h
  exact List.mem_range.1 (List.mem_filter.1 h2).1
theorem fiL_get {c : Nat → Bool} {n j : Nat} (h : j < (fiN c n).length) : (il (fiL c n))[j]? = some (.int .i64 ((fiN c n)[j] : Nat)) := by
  simp [il, fiL, h]
theorem row_stepI {w0 wr w' : World} {v : Value} {L : List Int} (h : RowI w0 v L wr) (hb : Below wr.heap.size wr w') : RowI w0 v L w' := ⟨row_step h.1 hb, h.2.trans (hb.mono h.2.size)⟩
end Go.Proofs.Ytfbdmhkmkmbipaa
