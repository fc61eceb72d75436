/-
  Contracts: the law's own copies, comparisons and marks of lists of bools.
-/
import Derived.Test.YtfbdmhkmkmbipaaLi
import Derived.Test.YtfbdmhkmkmbipaaMem
import Derived.WalkKit
import Derived.OwnWalk
import Derived.Handy
import Derived.KernelRfl
import Derived.Lib.Hide
import Derived.Deep.QuietTactic
import Derived.BigQuiet
namespace Go.Proofs.Ytfbdmhkmkmbipaa
open Go.RowKit
set_option linter.unusedVariables false

def bl (xs : List Bool) : List Value := xs.map .bool
theorem bl_len (xs : List Bool) : (bl xs).length = xs.length := by simp [bl]
theorem bl_get (xs : List Bool) (k : Nat) (h : k < xs.length) : (bl xs)[k]? = some (.bool xs[k]) := by simp [bl, h]
theorem bl_set (xs : List Bool) (k : Nat) (x : Bool) : (bl xs).set k (.bool x) = bl (xs.set k x) := by simp [bl, List.map_set]

theorem infoB : (Try.prog.info? 4).map (fun i => (i.zero, i.size, i.bytes)) = some (some (.bool false), 1, 1) := by kernel_rfl
/-- What has been copied after k rounds. -/
def cpB (xs : List Bool) (k : Nat) : List Bool := xs.take k ++ List.replicate (xs.length - k) false
theorem cpB_zero (xs : List Bool) : cpB xs 0 = List.replicate xs.length false := by simp [cpB]
theorem cpB_all (xs : List Bool) : cpB xs xs.length = xs := by simp [cpB]
theorem cpB_succ (xs : List Bool) (k : Nat) (h : k < xs.length) : (cpB xs k).set k (xs[k]) = cpB xs (k + 1) := by
  unfold cpB
  apply List.ext_getElem?
  intro i
  rw [List.getElem?_set]
  by_cases h1 : k = i
  · subst h1
    have hl : k < (List.take k xs ++ List.replicate (xs.length - k) false).length := by simp; omega
    rw [if_pos rfl, if_pos hl, List.getElem?_append_left (by simp; omega), List.getElem?_take, if_pos (by omega), List.getElem?_eq_getElem h]
  · rw [if_neg h1]
    by_cases h2 : i < k
    · rw [List.getElem?_append_left (by simp; omega), List.getElem?_append_left (by simp; omega), List.getElem?_take, List.getElem?_take, if_pos (by omega), if_pos (by omega)]
    · rw [List.getElem?_append_right (by simp; omega), List.getElem?_append_right (by simp; omega)]
      simp only [List.length_take, List.getElem?_replicate]
      have e1 : min k xs.length = k := by omega
      have e2 : min (k + 1) xs.length = k + 1 := by omega
      rw [e1, e2]
      by_cases h3 : i < xs.length
      · rw [if_pos (by omega), if_pos (by omega)]
      · rw [if_neg (by omega), if_neg (by omega)]

/-- A new slice that reads as xs, all of it the call's own. -/
def MadeB (w : World) (xs : List Bool) (e : Ending) (w' : World) : Prop :=
  ∃ g, e = .returned (.slice (some ⟨g, 0, none⟩) xs.length xs.length) ∧ Own w' w.heap.size (.slice (some ⟨g, 0, none⟩) xs.length xs.length) (bl xs) ∧ Below w.heap.size w w'
def CpRelB (w : World) (xs : List Bool) (g : Nat) (i : Value) (wr : World) : Prop :=
  ∃ k : Nat, k ≤ xs.length ∧ i = .int .i64 k ∧ wr.ownsRow w.heap.size 4 1 (.slice (some ⟨g, 0, none⟩) xs.length xs.length) xs.length (bl (cpB xs k)) ∧ Below w.heap.size w wr

def EqRelB (w : World) (n : Nat) (i : Value) (wr : World) : Prop := ∃ k m : Nat, k ≤ n ∧ i = .int .i64 k ∧ wr = w.drewN m
/-- The marks from k on. -/
def mkB (k : Int) (i : Nat) : Value := .bool ((k + i) % 3 == 0)
def MkRelB (w : World) (b off n : Nat) (k0 : Int) (k i : Value) (wr : World) : Prop := ∃ j : Nat, j ≤ n ∧ i = .int .i64 j ∧ k = .int .i64 (k0 + j) ∧ wr = putK w b off (mkB k0) j
def HdRelB (w : World) (n : Nat) (k0 : Int) (k i : Value) : Prop := ∃ j : Nat, j ≤ n ∧ i = .int .i64 j ∧ k = .int .i64 (k0 + j)
end Go.Proofs.Ytfbdmhkmkmbipaa
