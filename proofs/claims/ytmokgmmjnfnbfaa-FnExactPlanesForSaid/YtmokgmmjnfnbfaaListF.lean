/-
  Contracts: the law's own copy of a list of 32-bit floats.
-/
import Derived.Test.YtmokgmmjnfnbfaaChecked
import Derived.Test.YtmokgmmjnfnbfaaRd
import Derived.WalkKit
import Derived.OwnWalk
import Derived.Handy
import Derived.KernelRfl
import Derived.Lib.Hide
namespace Go.Proofs.Ytmokgmmjnfnbfaa
open Go.RowKit
set_option linter.unusedVariables false

theorem infoF : (Try.prog.info? 61).map (fun i => (i.zero, i.size, i.bytes)) = some (some (.float .f32 0), 1, 4) := by kernel_rfl
/-- What has been copied after k rounds. -/
def cpF (xs : List Nat) (k : Nat) : List Nat := xs.take k ++ List.replicate (xs.length - k) 0
theorem cpF_zero (xs : List Nat) : cpF xs 0 = List.replicate xs.length 0 := by simp [cpF]
theorem cpF_all (xs : List Nat) : cpF xs xs.length = xs := by simp [cpF]
theorem cpF_succ (xs : List Nat) (k : Nat) (h : k < xs.length) : (cpF xs k).set k (xs[k]) = cpF xs (k + 1) := by
  unfold cpF
  apply List.ext_getElem?
  intro i
  rw [List.getElem?_set]
  by_cases h1 : k = i
  · subst h1
    have hl : k < (List.take k xs ++ List.replicate (xs.length - k) 0).length := by simp; omega
    rw [if_pos rfl, if_pos hl, List.getElem?_append_left (by simp; omega), List.getElem?_take, if_pos (by omega), List.getElem?_eq_getElem h]
  · rw [if_neg h1]
    by_cases h2 : i < k
    · rw [List.getElem?_append_left (by simp; omega), List.getElem?_append_left (by simp; omega), List.getElem?_take, List.getElem?_take, if_pos (by omega), if_pos (by omega)]
    · rw [List.getElem?_append_right (by simp; omega), List.getElem?_append_right (by simp; omega)]
      simp only [List.length_take, List.getElem?_replicate]
      have e1 : min k xs.length = k := by omega
      have e2 : min (k + 1) xs.length = k + 1 := by omega
      rw [e1, e2]
      by_cases h3 : i < xs.length
      · rw [if_pos (by omega), if_pos (by omega)]
      · rw [if_neg (by omega), if_neg (by omega)]
def fl (xs : List Nat) : List Value := xs.map (.float .f32)
theorem fl_set (xs : List Nat) (k x : Nat) : (fl xs).set k (.float .f32 x) = fl (xs.set k x) := by simp [fl, List.map_set]
theorem fl_len (xs : List Nat) : (fl xs).length = xs.length := by simp [fl]
theorem fl_get (xs : List Nat) (k : Nat) (h : k < xs.length) : (fl xs)[k]? = some (.float .f32 xs[k]) := by simp [fl, h]

/-- A new slice that reads as xs, all of it the call's own. -/
def MadeF (w : World) (xs : List Nat) (e : Ending) (w' : World) : Prop :=
  ∃ g, e = .returned (.slice (some ⟨g, 0, none⟩) xs.length xs.length) ∧ w'.ownsRow w.heap.size 61 1 (.slice (some ⟨g, 0, none⟩) xs.length xs.length) xs.length (fl xs) ∧ Below w.heap.size w w'
def CpRel (w : World) (xs : List Nat) (g : Nat) (i : Value) (wr : World) : Prop :=
  ∃ k : Nat, k ≤ xs.length ∧ i = .int .i64 k ∧ wr.ownsRow w.heap.size 61 1 (.slice (some ⟨g, 0, none⟩) xs.length xs.length) xs.length (fl (cpF xs k)) ∧ Below w.heap.size w wr

end Go.Proofs.Ytmokgmmjnfnbfaa
