/-
  Contracts: the law's own copies, comparisons and marks of lists of int64.
-/
import Derived.Test.YtfbdmhkmkmbipaaChecked
import Derived.Test.YtfbdmhkmkmbipaaMem
import Derived.WalkKit
import Derived.OwnWalk
import Derived.Handy
import Derived.KernelRfl
import Derived.Lib.Hide
import Derived.Deep.QuietTactic
import Derived.BigQuiet
namespace Go.Proofs.Ytfbdmhkmkmbipaa
open Go.RowKit
set_option linter.unusedVariables false

theorem infoI : (Try.prog.info? 2).map (fun i => (i.zero, i.size, i.bytes)) = some (some (.int .i64 0), 1, 8) := by kernel_rfl
/-- What has been copied after k rounds. -/
def cpI (xs : List Int) (k : Nat) : List Int := xs.take k ++ List.replicate (xs.length - k) 0
theorem cpI_zero (xs : List Int) : cpI xs 0 = List.replicate xs.length 0 := by simp [cpI]
theorem cpI_all (xs : List Int) : cpI xs xs.length = xs := by simp [cpI]
theorem cpI_succ (xs : List Int) (k : Nat) (h : k < xs.length) : (cpI xs k).set k (xs[k]) = cpI xs (k + 1) := by
  unfold cpI
  apply List.ext_getElem?
  intro i
  rw [List.getElem?_set]
  by_cases h1 : k = i
  · subst h1
    have hl : k < (List.take k xs ++ List.replicate (xs.length - k) 0).length := by simp; omega
    rw [if_pos rfl, if_pos hl, List.getElem?_append_left (by simp; omega), List.getElem?_take, if_pos (by omega), List.getElem?_eq_getElem h]
  · rw [if_neg h1]
    by_cases h2 : i < k
    · rw [List.getElem?_append_left (by simp; omega), List.getElem?_append_left (by simp; omega), List.getElem?_take, List.getElem?_take, if_pos (by omega), if_pos (by omega)]
    · rw [List.getElem?_append_right (by simp; omega), List.getElem?_append_right (by simp; omega)]
      simp only [List.length_take, List.getElem?_replicate]
      have e1 : min k xs.length = k := by omega
      have e2 : min (k + 1) xs.length = k + 1 := by omega
      rw [e1, e2]
      by_cases h3 : i < xs.length
      · rw [if_pos (by omega), if_pos (by omega)]
      · rw [if_neg (by omega), if_neg (by omega)]

/-- A new slice that reads as xs, all of it the call's own. -/
def MadeI (w : World) (xs : List Int) (e : Ending) (w' : World) : Prop :=
  ∃ g, e = .returned (.slice (some ⟨g, 0, none⟩) xs.length xs.length) ∧ Own w' w.heap.size (.slice (some ⟨g, 0, none⟩) xs.length xs.length) (il xs) ∧ Below w.heap.size w w'
def CpRelI (w : World) (xs : List Int) (g : Nat) (i : Value) (wr : World) : Prop :=
  ∃ k : Nat, k ≤ xs.length ∧ i = .int .i64 k ∧ wr.ownsRow w.heap.size 2 1 (.slice (some ⟨g, 0, none⟩) xs.length xs.length) xs.length (il (cpI xs k)) ∧ Below w.heap.size w wr

def EqRelI (w : World) (n : Nat) (i : Value) (wr : World) : Prop := ∃ k m : Nat, k ≤ n ∧ i = .int .i64 k ∧ wr = w.drewN m
/-- The marks from k on. -/
def mkI (k : Int) (i : Nat) : Value := .int .i64 (k + i)
def MkRel (w : World) (b off n : Nat) (k0 : Int) (k i : Value) (wr : World) : Prop := ∃ j : Nat, j ≤ n ∧ i = .int .i64 j ∧ k = .int .i64 (k0 + j) ∧ wr = putK w b off (mkI k0) j
def HdRel (w : World) (n : Nat) (k0 : Int) (k i : Value) : Prop := ∃ j : Nat, j ≤ n ∧ i = .int .i64 j ∧ k = .int .i64 (k0 + j)
end Go.Proofs.Ytfbdmhkmkmbipaa
