/-
  Contracts: numbers that are shrunk, of both sides.
-/
import Derived.Test.YtfbdmhkmkmbipaaAbs
import Derived.Test.YtfbdmhkmkmbipaaEn
namespace Go.Proofs.Ytfbdmhkmkmbipaa
open Go.RowKit Fl
set_option linter.unusedVariables false

theorem is_fin {r : Nat} (hr : r < 2 ^ 32) (hf : finB .f32 r = true) : Is .f32 r r := ⟨cn_fin hf, hr⟩
theorem lsB_fin {x : Nat} (h : lsB x = true) : finB .f32 x = true := by unfold lsB at h; rw [Bool.and_eq_true] at h; exact h.1
/-- What a number that is shrunk is, in four cases. -/
theorem shF_out {x l : Nat} (hard : Bool) (h : gt32 (x % 2 ^ 31) l = false) : shF hard x l = 0 := by unfold shF; rw [h]; rfl
theorem shF_hard {x l : Nat} (h : gt32 (x % 2 ^ 31) l = true) : shF true x l = x := by unfold shF; rw [h]; rfl
theorem shF_neg {x l : Nat} (h : gt32 (x % 2 ^ 31) l = true) (h2 : lt32 x 0 = true) : shF false x l = ar .add .f32 x l := by unfold shF; rw [h, h2]; rfl
theorem shF_pos {x l : Nat} (h : gt32 (x % 2 ^ 31) l = true) (h2 : lt32 x 0 = false) : shF false x l = ar .sub .f32 x l := by unfold shF; rw [h, h2]; rfl
theorem sftI_any (x l : Nat) (w : World) (hx : x < 2 ^ 32) (hl : l < 2 ^ 32) (hf : finB .f32 x = true) (hls : lsB l = true) :
    Calls Try.prog 114 #[.float .f32 x, .float .f32 l] w (RetF .f32 (shF false x l) w) := by
  have hcs := shr_cases hx hl hf hls
  clear hf hls
  have hng : Op.unary .neg (.float .f32 l) = pure (.float .f32 (Op.negFloat .f32 l)) := rfl
  cases hg : gt32 (x % 2 ^ 31) l with
  | false =>
    rw [shF_out false hg]
    have h1 : (FloatKind.f32.format.order x l == some .gt) = false := by rcases hcs with ⟨h1, _⟩ | ⟨h1, _⟩; exact h1.trans hg; exact h1
    have h2 : (FloatKind.f32.format.order x (Op.negFloat .f32 l) == some .lt) = false := by rcases hcs with ⟨_, h1, _⟩ | ⟨_, h1, _⟩; exact h1; exact h1.trans hg
    clear hg hcs
    generalize Op.negFloat .f32 l = nl at *
    go_enter Try.func114, Try.ntmps114
    go_wp2_with fail
    go_ret
    exact ⟨_, 0, rfl, is_lit (by decide), rfl⟩
  | true =>
    rcases hcs with ⟨h1, h2, h3⟩ | ⟨h1, h2, h3⟩
    · obtain ⟨h4, h5⟩ := h3 (by rw [h1]; exact hg)
      rw [shF_pos hg h5]
      have h1' : (FloatKind.f32.format.order x l == some .gt) = true := h1.trans hg
      clear hg h1 h2 h3 h4 h5
      generalize Op.negFloat .f32 l = nl at *
      go_enter Try.func114, Try.ntmps114
      go_wp2_with (refine up_ar (op := .sub) rfl ?_; intro r n hr)
      go_ret
      exact ⟨_, _, rfl, by assumption, rfl⟩
    · obtain ⟨h4, h5⟩ := h3 hg
      rw [shF_neg hg h4]
      have h1' : (FloatKind.f32.format.order x l == some .gt) = false := h1
      have h2' : (FloatKind.f32.format.order x (Op.negFloat .f32 l) == some .lt) = true := h2.trans hg
      clear hg h1 h2 h3 h4 h5
      generalize Op.negFloat .f32 l = nl at *
      go_enter Try.func114, Try.ntmps114
      go_wp2_with (refine up_ar (op := .add) rfl ?_; intro r n hr)
      go_ret
      exact ⟨_, _, rfl, by assumption, rfl⟩
/-- The number that is shrunk, and whether it can be. -/
def srB (x l : Nat) : Bool := finB .f32 x && lsB l
def srV (hard : Bool) (x l : Nat) : Nat := if srB x l then shF hard x l else 0
theorem srV_yes {hard : Bool} {x l : Nat} (h1 : finB .f32 x = true) (h2 : lsB l = true) : srV hard x l = shF hard x l ∧ srB x l = true := by unfold srV srB; rw [h1, h2]; exact ⟨rfl, rfl⟩
theorem srV_no1 {hard : Bool} {x l : Nat} (h1 : finB .f32 x = false) : srV hard x l = 0 ∧ srB x l = false := by unfold srV srB; rw [h1]; exact ⟨rfl, rfl⟩
theorem srV_no2 {hard : Bool} {x l : Nat} (h1 : finB .f32 x = true) (h2 : lsB l = false) : srV hard x l = 0 ∧ srB x l = false := by unfold srV srB; rw [h1, h2]; exact ⟨rfl, rfl⟩
theorem is_zero : Is .f32 0 0 := is_lit (by decide)
end Go.Proofs.Ytfbdmhkmkmbipaa
