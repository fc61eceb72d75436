/-
  Contracts: TenthsOf of both sides, at each kind of number.
-/
import Derived.Test.YtcncobafpifimabLogT
import Derived.Test.YtcncobafpifimabFloTen
namespace Go.Proofs.Ytcncobafpifimab
open Go.RowKit Fl
set_option linter.unusedVariables false

theorem row_floor (x : Nat) (w : World) (h : isN .f64 x = false) : (callFunc 59 #[.float .f64 x]).run Try.prog w = .ok (.value (.float .f64 (flF x))) w := by
  rw [run_callFunc_extern Try.func59 rfl rfl rfl rfl, run_floor x w h]; rfl
theorem floor_any (x : Nat) (w : World) (h : isN .f64 x = false) : Calls Try.prog 44 #[.float .f64 x] w fun e w' => e = .returned (.float .f64 (flF x)) ∧ w = w' := by
  have hr := fun w => row_floor x w h
  go_enter Try.func44, Try.ntmps44
  go_wp2_with fail
  go_ret
  exact ⟨rfl, rfl⟩
/-- Returns a number and a yes or no. -/
def RetIB (v : Int) (b : Bool) (w : World) (e : Ending) (w' : World) : Prop := ∃ n, e = .returned (.tuple #[.int .i64 v, .bool b]) ∧ w' = w.drewN n
def RetI (v : Int) (w : World) (e : Ending) (w' : World) : Prop := ∃ n, e = .returned (.int .i64 v) ∧ w' = w.drewN n
theorem l01Ten_any (x L : Nat) (w : World) (hL : Bd .f64 L 15) (h : ∀ r w0, Is .f64 r (wi x) → Calls Try.prog 58 #[.float .f64 r] w0 (RetF .f64 L w0)) :
    Calls Try.prog 42 #[.float .f32 x] w (RetI (ti (flF (tenF L))) w) := by
  have hT := tenF_bd hL
  have hc := conv_int (Bd.mono (flF_bd hT) (by decide : (23 : Int) ≤ 52))
  have hn := hT.notNaN
  unfold tenF tenc half at hc hn ⊢
  have HN := Lib.hid hn
  have HF := Lib.hid (fun w0 => floor_any _ w0 hn)
  clear hT hn
  go_enter Try.func42, Try.ntmps42
  go_wp2_with (first | (go_at_call 58; refine (h _ _ (by assumption)).mono ?_; rintro e w' ⟨r2, n2, rfl, hr2, rfl⟩) | (go_at_call 44; refine (HF.out _).mono ?_; rintro e w' ⟨rfl, rfl⟩) | (refine up_wide (by rw [Try.underlying22]; rfl) Try.underlying25 ?_; intro r1 n1 hr1) | (refine up_ar2 (op := .mul) rfl (by assumption) (is_lit (by decide)) ?_; intro r3 n3 hr3) | (refine up_ar2 (op := .add) rfl (by assumption) (is_lit (by decide)) ?_; intro r4 n4 hr4; obtain rfl := is_eq hr4 HN.out))
  go_ret
  exact ⟨_, rfl, rfl⟩
theorem tenS_no (x : Nat) (w : World) (h : finB .f32 x = false ∨ (FloatKind.f32.format.order x 0 == some .lt || FloatKind.f32.format.order x 0 == some .eq) = true) (hx : x < 2 ^ 32) :
    Calls Try.prog 20 #[.float .f32 x] w (RetIB 0 false w) := by
  cases hf : finB .f32 x
  · have HF := Lib.hid hf
    clear h hf
    go_enter Try.func20, Try.ntmps20
    go_wp2_with (go_at_call 41; refine (specFin_any _ _ hx).mono ?_; rintro e w' ⟨rfl, n, rfl⟩; rw [HF.out])
    go_ret2
    exact ⟨_, rfl, rfl⟩
  · have h2 : (FloatKind.f32.format.order x 0 == some .lt || FloatKind.f32.format.order x 0 == some .eq) = true := by
      rcases h with h | h
      · rw [hf] at h; cases h
      · exact h
    have HF := Lib.hid hf
    clear h hf
    go_enter Try.func20, Try.ntmps20
    go_wp2_with (go_at_call 41; refine (specFin_any _ _ hx).mono ?_; rintro e w' ⟨rfl, n, rfl⟩; rw [HF.out])
    go_ret2
    exact ⟨_, rfl, rfl⟩
theorem tenI_no (x : Nat) (w : World) (h : finB .f32 x = false ∨ (FloatKind.f32.format.order x 0 == some .lt || FloatKind.f32.format.order x 0 == some .eq) = true) (hx : x < 2 ^ 32) :
    Calls Try.prog 21 #[.float .f32 x] w (RetIB 0 false w) := by
  cases hf : finB .f32 x
  · have HF := Lib.hid hf
    clear h hf
    go_enter Try.func21, Try.ntmps21
    go_wp2_with (go_at_call 38; refine (implFin_any _ _ hx).mono ?_; rintro e w' ⟨rfl, n, rfl⟩; rw [HF.out])
    go_ret2
    exact ⟨_, rfl, rfl⟩
  · have h2 : (FloatKind.f32.format.order x 0 == some .lt || FloatKind.f32.format.order x 0 == some .eq) = true := by
      rcases h with h | h
      · rw [hf] at h; cases h
      · exact h
    have HF := Lib.hid hf
    clear h hf
    go_enter Try.func21, Try.ntmps21
    go_wp2_with (go_at_call 38; refine (implFin_any _ _ hx).mono ?_; rintro e w' ⟨rfl, n, rfl⟩; rw [HF.out])
    go_ret2
    exact ⟨_, rfl, rfl⟩
theorem tenS_pos (x L : Nat) (w : World) (hf : finB .f32 x = true) (h2 : (FloatKind.f32.format.order x 0 == some .lt || FloatKind.f32.format.order x 0 == some .eq) = false) (hx : x < 2 ^ 32)
    (hL : Bd .f64 L 15) (h : ∀ r w0, Is .f64 r (wi x) → Calls Try.prog 58 #[.float .f64 r] w0 (RetF .f64 L w0)) :
    Calls Try.prog 20 #[.float .f32 x] w (RetIB (ti (flF (tenF L))) true w) := by
  have HF := Lib.hid hf
  have HT := Lib.hid (fun w0 => l01Ten_any x L w0 hL h)
  clear hf h hL
  go_enter Try.func20, Try.ntmps20
  go_wp2_with (first | (go_at_call 41; refine (specFin_any _ _ hx).mono ?_; rintro e w' ⟨rfl, n, rfl⟩; rw [HF.out]) | (go_at_call 42; refine (HT.out _).mono ?_; rintro e w' ⟨n2, rfl, rfl⟩))
  go_ret2
  exact ⟨_, rfl, rfl⟩
theorem tenI_pos (x L : Nat) (w : World) (hf : finB .f32 x = true) (h2 : (FloatKind.f32.format.order x 0 == some .lt || FloatKind.f32.format.order x 0 == some .eq) = false) (hx : x < 2 ^ 32)
    (hL : Bd .f64 L 15) (hnx : isN .f64 (wi x) = false) (h : ∀ w0, Calls Try.prog 43 #[.float .f64 (wi x)] w0 (RetF .f64 L w0)) :
    Calls Try.prog 21 #[.float .f32 x] w (RetIB (ti (flF (tenF L))) true w) := by
  have HF0 := Lib.hid hf
  have HX := Lib.hid hnx
  have hT := tenF_bd hL
  have hc := conv_int (Bd.mono (flF_bd hT) (by decide : (23 : Int) ≤ 52))
  have hn := hT.notNaN
  unfold tenF tenc half at hc hn ⊢
  have HN := Lib.hid hn
  have HF := Lib.hid (fun w0 => floor_any _ w0 hn)
  clear hT hn hf hnx hL
  go_enter Try.func21, Try.ntmps21
  go_wp2_with (first | (go_at_call 38; refine (implFin_any _ _ hx).mono ?_; rintro e w' ⟨rfl, n, rfl⟩; rw [HF0.out]) | (go_at_call 43; refine (h _).mono ?_; rintro e w' ⟨r2, n2, rfl, hr2, rfl⟩) | (go_at_call 44; refine (HF.out _).mono ?_; rintro e w' ⟨rfl, rfl⟩) | (refine up_wide (by rw [Try.underlying22]; rfl) Try.underlying25 ?_; intro r1 n1 hr1; obtain rfl := is_eq hr1 HX.out) | (refine up_ar2 (op := .mul) rfl (by assumption) (is_lit (by decide)) ?_; intro r3 n3 hr3) | (refine up_ar2 (op := .add) rfl (by assumption) (is_lit (by decide)) ?_; intro r4 n4 hr4; obtain rfl := is_eq hr4 HN.out))
  go_ret2
  exact ⟨_, rfl, rfl⟩
end Go.Proofs.Ytcncobafpifimab
