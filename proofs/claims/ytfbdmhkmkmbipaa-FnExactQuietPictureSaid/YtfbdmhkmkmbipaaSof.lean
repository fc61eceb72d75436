/-
  Contracts: lights that are softened, by the program (closure too).
-/
import Derived.Test.YtfbdmhkmkmbipaaTxK
import Derived.Test.YtfbdmhkmkmbipaaAp
import Derived.Test.YtfbdmhkmkmbipaaSh
namespace Go.Proofs.Ytfbdmhkmkmbipaa
open Go.RowKit Fl
set_option linter.unusedVariables false
set_option maxRecDepth 100000

def sofF (by_ x : Nat) : Nat := if gt32 x by_ then ar .sub .f32 x by_ else if lt32 x (Op.negFloat .f32 by_) then ar .add .f32 x by_ else 0
theorem sofF_gt {b x : Nat} (h : gt32 x b = true) : sofF b x = ar .sub .f32 x b := by unfold sofF; rw [h]; rfl
theorem sofF_lt {b x : Nat} (h : gt32 x b = false) (h2 : lt32 x (Op.negFloat .f32 b) = true) : sofF b x = ar .add .f32 x b := by unfold sofF; rw [h, h2]; rfl
theorem sofF_no {b x : Nat} (h : gt32 x b = false) (h2 : lt32 x (Op.negFloat .f32 b) = false) : sofF b x = 0 := by unfold sofF; rw [h, h2]; rfl
theorem sof_one {b x : Nat} (hx : x < 2 ^ 32) (hb : b < 2 ^ 32) (hf : finB .f32 x = true) (hl : lsB b = true) (h : gt32 x b = true) : lt32 x (Op.negFloat .f32 b) = false := by
  rcases shr_cases hx hb hf hl with ⟨-, h2, -⟩ | ⟨h1, -, -⟩
  · exact h2
  · rw [h] at h1; cases h1
set_option maxHeartbeats 1000000 in
theorem sofI_any (b x : Nat) (w : World) (hf : finB .f32 x = true) (hl : finB .f32 b = true) :
    Calls Try.prog 114 #[.float .f32 x, .float .f32 b] w (RetX (sofF b x) w) := by
  have HD := Lib.hid (dif_nums hf hl)
  have HS := Lib.hid (sum_nums hf hl)
  clear hf hl
  cases hg : gt32 x b with
  | true =>
    rw [sofF_gt hg]
    have hg' : (FloatKind.f32.format.order x b == some .gt) = true := hg
    clear hg
    go_enter Try.func114, Try.ntmps114
    go_wp2_with (refine up_ar (op := .sub) rfl ?_; intro r n hr)
    go_ret
    exact ⟨by rw [is_eq hr HD.out]; rfl, _, rfl⟩
  | false =>
    have hg' : (FloatKind.f32.format.order x b == some .gt) = false := hg
    cases hl : lt32 x (Op.negFloat .f32 b) with
    | true =>
      rw [sofF_lt hg hl]
      have hng : Op.unary .neg (.float .f32 b) = pure (.float .f32 (Op.negFloat .f32 b)) := rfl
      have hl' : (FloatKind.f32.format.order x (Op.negFloat .f32 b) == some .lt) = true := hl
      clear hg hl
      go_enter Try.func114, Try.ntmps114
      go_wp2_with (refine up_ar (op := .add) rfl ?_; intro r n hr)
      go_ret
      exact ⟨by rw [is_eq hr HS.out]; rfl, _, rfl⟩
    | false =>
      rw [sofF_no hg hl]
      have hng : Op.unary .neg (.float .f32 b) = pure (.float .f32 (Op.negFloat .f32 b)) := rfl
      have hl' : (FloatKind.f32.format.order x (Op.negFloat .f32 b) == some .lt) = false := hl
      clear hg hl
      go_enter Try.func114, Try.ntmps114
      go_wp2_with fail
      go_ret
      exact ⟨rfl, 0, rfl⟩
set_option maxHeartbeats 1000000 in
theorem sofC_any (k5 b x : Nat) (w : World) (hc : w.cell? ⟨k5, 0, none⟩ = some (.float .f32 b)) (hf : finB .f32 x = true) (hl : finB .f32 b = true) :
    Calls Try.prog 113 #[.float .f32 x, .pointer (some ⟨k5, 0, none⟩)] w (RetX (sofF b x) w) := by
  have HI := Lib.hid (fun w => sofI_any b x w hf hl)
  clear hf hl
  go_enter Try.func113, Try.ntmps113
  go_wp2_with fail
  with_reducible refine (HI.out _).mono ?_
  rintro e w1 ⟨rfl, n, rfl⟩
  go_wp2_with fail
  go_ret
  exact ⟨rfl, n, rfl⟩
end Go.Proofs.Ytfbdmhkmkmbipaa
