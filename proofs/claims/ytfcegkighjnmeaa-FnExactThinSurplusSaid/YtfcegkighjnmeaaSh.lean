/-
  Contracts: numbers that are shrunk, of both sides.
-/
import Derived.Test.YtfcegkighjnmeaaAbs
import Derived.Test.YtfcegkighjnmeaaEn
namespace Go.Proofs.Ytfcegkighjnmeaa
open Go.RowKit Fl
set_option linter.unusedVariables false

theorem is_fin {r : Nat} (hr : r < 2 ^ 32) (hf : finB .f32 r = true) : Is .f32 r r := ⟨cn_fin hf, hr⟩
theorem lsB_fin {x : Nat} (h : lsB x = true) : finB .f32 x = true := by unfold lsB at h; rw [Bool.and_eq_true] at h; exact h.1
/-- What a number that is shrunk is, in four cases. -/
theorem shF_out {x l : Nat} (hard : Bool) (h : gt32 (x % 2 ^ 31) l = false) : shF hard x l = 0 := by unfold shF; rw [h]; rfl
theorem shF_hard {x l : Nat} (h : gt32 (x % 2 ^ 31) l = true) : shF true x l = x := by unfold shF; rw [h]; rfl
theorem shF_neg {x l : Nat} (h : gt32 (x % 2 ^ 31) l = true) (h2 : lt32 x 0 = true) : shF false x l = ar .add .f32 x l := by unfold shF; rw [h, h2]; rfl
theorem shF_pos {x l : Nat} (h : gt32 (x % 2 ^ 31) l = true) (h2 : lt32 x 0 = false) : shF false x l = ar .sub .f32 x l := by unfold shF; rw [h, h2]; rfl
theorem hrdI_any (x l : Nat) (w : World) (hx : x < 2 ^ 32) (hf : finB .f32 x = true) :
    Calls Try.prog 90 #[.float .f32 x, .float .f32 l] w (RetF .f32 (shF true x l) w) := by
  have HC := Lib.hid (fun w => absI_fin x w hf)
  have HX := Lib.hid (is_fin hx hf)
  clear hf
  cases hg : gt32 (x % 2 ^ 31) l with
  | false =>
    rw [shF_out true hg]
    have hg' : (FloatKind.f32.format.order (x % 2 ^ 31) l == some .gt) = false := hg
    clear hg
    generalize x % 2 ^ 31 = a at *
    go_enter Try.func90, Try.ntmps90
    go_wp2_with (go_at_call 98; refine (HC.out _).mono ?_; rintro e w' ⟨rfl, n, rfl⟩)
    go_ret
    exact ⟨_, _, rfl, is_lit (by decide), rfl⟩
  | true =>
    rw [shF_hard hg]
    have hg' : (FloatKind.f32.format.order (x % 2 ^ 31) l == some .gt) = true := hg
    clear hg
    generalize x % 2 ^ 31 = a at *
    go_enter Try.func90, Try.ntmps90
    go_wp2_with (go_at_call 98; refine (HC.out _).mono ?_; rintro e w' ⟨rfl, n, rfl⟩)
    go_ret
    exact ⟨_, _, rfl, HX.out, rfl⟩
/-- The number that is shrunk, and whether it can be. -/
def srB (x l : Nat) : Bool := finB .f32 x && lsB l
def srV (hard : Bool) (x l : Nat) : Nat := if srB x l then shF hard x l else 0
theorem srV_yes {hard : Bool} {x l : Nat} (h1 : finB .f32 x = true) (h2 : lsB l = true) : srV hard x l = shF hard x l ∧ srB x l = true := by unfold srV srB; rw [h1, h2]; exact ⟨rfl, rfl⟩
theorem srV_no1 {hard : Bool} {x l : Nat} (h1 : finB .f32 x = false) : srV hard x l = 0 ∧ srB x l = false := by unfold srV srB; rw [h1]; exact ⟨rfl, rfl⟩
theorem srV_no2 {hard : Bool} {x l : Nat} (h1 : finB .f32 x = true) (h2 : lsB l = false) : srV hard x l = 0 ∧ srB x l = false := by unfold srV srB; rw [h1, h2]; exact ⟨rfl, rfl⟩
theorem is_zero : Is .f32 0 0 := is_lit (by decide)
end Go.Proofs.Ytfcegkighjnmeaa
