/-
  Contracts: copies of lists of int64, and lists of their halves, by the program.
-/
import Derived.Test.YteogogcjndfkoabLiftB
import Derived.WalkSpells
import Derived.Lib.SliceRun
namespace Go.Proofs.Yteogogcjndfkoab
open Go.RowKit
set_option linter.unusedVariables false

def RetL1 (xs : List Int) (w : World) (e : Ending) (w' : World) : Prop := ∃ v, e = .returned v ∧ Own w' w.heap.size v (il xs) ∧ Below w.heap.size w w'
theorem il_cells (xs : List Int) : ∀ u ∈ il xs, u.oneCell' = true := ints_oneCell .i64 xs
set_option maxHeartbeats 1000000 in
theorem clone_any (a : Addr) (c : Nat) (xs : List Int) (w : World) (h : Rd w w.heap.size (.slice (some a) xs.length c) (il xs)) (hm : xs.length ≤ 1048576) :
    Calls Try.prog 101 #[.slice (some a) xs.length c] w (RetL1 xs w) := by
  obtain ⟨i0, hi, hz0, hz1, hz2⟩ := info_parts infoI
  obtain ⟨A, c', hv, hc1, hc2, hcell⟩ := id h
  rw [il_len] at hv hc1 hcell
  have hcl : ∀ j u, (il xs)[j]? = some u → (w.alloc (Obj.cells #[] 2)).cell? (a.add j) = some u := by
    intro j u hu
    have hj := (List.getElem?_eq_some_iff.1 hu).1
    rw [il_len] at hj
    obtain ⟨b, off, e, hb, hcc⟩ := hcell (by omega)
    simp only [Value.slice.injEq] at hv
    obtain ⟨e1, _, _⟩ := hv
    rw [e] at e1
    cases e1
    rw [Go.WideShapes.add_plain]
    exact (((Below.refl _ _).alloc (Nat.le_refl _) _).cell (p := ⟨b, off + j, none⟩) hb).trans (hcc j u hu)
  have hown : (w.alloc (Obj.cells #[] 2)).ownsRow w.heap.size 2 1 (.slice (some ⟨w.heap.size, 0, none⟩) 0 0) 0 (il []) := World.ownsRow_made w #[] 0 (Nat.le_refl _) (Nat.zero_le _) rfl
  have hb0 : Below w.heap.size w (w.alloc (Obj.cells #[] 2)) := (Below.refl _ _).alloc (Nat.le_refl _) _
  have hnil : ∀ (W : World), (binOp .eql 52 (.slice (some a) xs.length c) (.slice none 0 0)).run Try.prog W = .ok (.bool false) W := fun W => Lib.run_eql_slice_nil W _ _ (some a) _ _ _ _ Try.underlying52
  clear hv hc1 hcell
  go_enter Try.func101, Try.ntmps101
  go_wp2_with (at_builtin; refine wpList_append_own _ rfl _ _ 52 rfl w.heap.size 2 i0 (.int .i64 0) 1 8 Try.underlying52 hi hz0 hz1 hz2 rfl (by decide) _ _ _ rfl hown a xs.length c (il xs) rfl (by rw [il_len]; omega) hcl (il_cells xs) (by unfold maxLen; omega) (by omega) (by simp) ?_; intro v' w1 hown' hgrow _)
  go_ret
  refine ⟨_, rfl, ?_, hb0.grown hgrow (by simp) (fun j hj => (hown.lt j hj).1)⟩
  have := Own.row hown'
  simpa [il] using this

end Go.Proofs.Yteogogcjndfkoab
