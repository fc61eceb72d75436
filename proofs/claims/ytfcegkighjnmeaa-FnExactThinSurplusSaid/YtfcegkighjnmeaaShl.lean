/-
  Contracts: lists that are shrunk, of both sides.
-/
import Derived.Test.YtfcegkighjnmeaaAp
import Derived.Test.YtfcegkighjnmeaaSh
namespace Go.Proofs.Ytfcegkighjnmeaa
open Go.RowKit Fl
set_option linter.unusedVariables false

theorem shF_not {hard : Bool} {x l : Nat} (hf : finB .f32 x = true) (hls : lsB l = true) : isN .f32 (shF hard x l) = false := by
  unfold shF
  split
  · split
    · exact nan_fin hf
    · split
      · exact sum_nums hf (lsB_fin hls)
      · exact dif_nums hf (lsB_fin hls)
  · decide
/-- Whether a list can be shrunk. -/
def slG (xs : List Nat) (l : Nat) : Bool := isL xs && lsB l
def slR (hard : Bool) (xs : List Nat) (l : Nat) : List Nat := if slG xs l then mapK (fun x => shF hard x l) xs xs.length else []
theorem slR_len (hard : Bool) (xs : List Nat) (l : Nat) : (slR hard xs l).length ≤ 1048576 := by
  unfold slR
  split
  · rename_i h
    unfold slG at h
    rw [Bool.and_eq_true] at h
    have := (isL_len h.1).2.1
    rw [mapK_len]; omega
  · simp
theorem slR_no {hard : Bool} {xs : List Nat} {l : Nat} (h : slG xs l = false) : slR hard xs l = [] := by unfold slR; rw [h]; rfl
theorem slR_yes {hard : Bool} {xs : List Nat} {l : Nat} (h : slG xs l = true) : slR hard xs l = mapK (fun x => shF hard x l) xs xs.length := by unfold slR; rw [h]; rfl
theorem retLF_nil {w w' : World} (h : Below w.heap.size w w') : RetLF [] false w (.returned (.tuple #[.slice none 0 0, .bool false])) w' := ⟨_, rfl, own_nilF _ _, h⟩
end Go.Proofs.Ytfcegkighjnmeaa
