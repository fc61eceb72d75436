/-
  Contracts: absolute values, of both sides; numbers that are at least nothing, or greater.
-/
import Derived.Test.YtfcegkighjnmeaaCallA
import Derived.Test.YtfcegkighjnmeaaFloShr
import Derived.Test.YtfcegkighjnmeaaFin
import Derived.Deep.RegionWith
namespace Go.Proofs.Ytfcegkighjnmeaa
open Go.RowKit Fl
set_option linter.unusedVariables false

set_option maxRecDepth 100000 in
theorem absI_any (x : Nat) (w : World) : Calls Try.prog 98 #[.float .f32 x] w fun e w' => ∃ r n, e = .returned (.float .f32 r) ∧ Is .f32 r (absF x) ∧ w' = w.drewN n := by
  go_enter Try.func98, Try.ntmps98
  go_wp2_with (first | (refine up_wide (by rw [Try.underlying47]; rfl) Try.underlying67 ?_; intro r n hr) | (go_at_call 102; refine (abs_any _ _ (And.right (by assumption))).mono ?_; rintro e w' ⟨rfl, rfl⟩) | (refine up_narrow (by rw [Try.underlying67]; rfl) Try.underlying47 (abs_road (by assumption)).1 ?_; intro r2 n2 hr2))
  go_ret
  exact ⟨_, _, rfl, by rw [← (abs_road (by assumption)).2]; assumption, rfl⟩
theorem absI_fin (x : Nat) (w : World) (hf : finB .f32 x = true) : Calls Try.prog 98 #[.float .f32 x] w fun e w' => e = .returned (.float .f32 (x % 2 ^ 31)) ∧ ∃ n, w' = w.drewN n := by
  refine (absI_any x w).mono ?_
  rintro e w' ⟨r, n, rfl, hr, rfl⟩
  rw [absF_fin x hf] at hr
  have hn : isN .f32 (x % 2 ^ 31) = false := by
    rw [isN_mod32]
    unfold finB at hf
    unfold isN
    cases hq : FloatKind.f32.format.read x <;> rw [hq] at hf <;> simp_all [Ieee.Datum.isNaN]
  exact ⟨by rw [is_eq hr hn], n, rfl⟩
set_option maxHeartbeats 400000 in
theorem sizS_any (x : Nat) (w : World) (hx : x < 2 ^ 32) (hf : finB .f32 x = true) : Calls Try.prog 89 #[.float .f32 x] w fun e w' => e = .returned (.float .f32 (x % 2 ^ 31)) ∧ ∃ n, w' = w.drewN n := by
  have hn : isN .f32 (x % 2 ^ 31) = false := by
    rw [isN_mod32]
    unfold finB at hf
    unfold isN
    cases hq : FloatKind.f32.format.read x <;> rw [hq] at hf <;> simp_all [Ieee.Datum.isNaN]
  cases hle : leB x 0 with
  | true =>
    have HA := Lib.hid (neg_abs x hx hf hle)
    have HN := Lib.hid hn
    have hle' : (FloatKind.f32.format.order x 0 == some .lt || FloatKind.f32.format.order x 0 == some .eq) = true := hle
    clear hle hf hn
    go_enter Try.func89, Try.ntmps89
    go_wp2_with (refine up_ar rfl ?_; intro r n hr)
    go_ret
    refine ⟨?_, _, rfl⟩
    rw [← is_eq (show Is .f32 r (x % 2 ^ 31) by rw [← HA.out]; exact hr) HN.out]
    rfl
  | false =>
    have HA := Lib.hid (pos_abs x hx hf hle)
    have hle' : (FloatKind.f32.format.order x 0 == some .lt || FloatKind.f32.format.order x 0 == some .eq) = false := hle
    clear hle hf hn
    go_enter Try.func89, Try.ntmps89
    go_wp2_with fail
    go_ret
    exact ⟨by rw [HA.out]; rfl, 0, rfl⟩


theorem lsI_any (x : Nat) (w : World) (hx : x < 2 ^ 32) : Calls Try.prog 53 #[.float .f32 x] w (RetBo (lsB x) w) := by
  have HC := Lib.hid (fun w => implFin_any x w hx)
  cases hf : finB .f32 x with
  | true =>
    have HT := Lib.hid hf
    have HB := Lib.hid (show lsB x = (FloatKind.f32.format.order x 0 == some .gt || FloatKind.f32.format.order x 0 == some .eq) by unfold lsB; rw [hf]; rfl)
    clear hf
    go_enter Try.func53, Try.ntmps53
    go_wp2_with (go_at_call 91; refine (HC.out _).mono ?_; rintro e w' ⟨rfl, n, rfl⟩; rw [HT.out])
    go_ret
    exact ⟨by rw [HB.out]; rfl, _, rfl⟩
  | false =>
    have HT := Lib.hid hf
    have HB := Lib.hid (show lsB x = false by unfold lsB; rw [hf]; rfl)
    clear hf
    go_enter Try.func53, Try.ntmps53
    go_wp2_with (go_at_call 91; refine (HC.out _).mono ?_; rintro e w' ⟨rfl, n, rfl⟩; rw [HT.out])
    go_ret
    exact ⟨by rw [HB.out]; rfl, _, rfl⟩
theorem lsS_any (x : Nat) (w : World) (hx : x < 2 ^ 32) : Calls Try.prog 88 #[.float .f32 x] w (RetBo (lsB x) w) := by
  have HC := Lib.hid (fun w => specFin_any x w hx)
  cases hf : finB .f32 x with
  | true =>
    have HT := Lib.hid hf
    have HB := Lib.hid (show lsB x = (FloatKind.f32.format.order x 0 == some .gt || FloatKind.f32.format.order x 0 == some .eq) by unfold lsB; rw [hf]; rfl)
    clear hf
    go_enter Try.func88, Try.ntmps88
    go_wp2_with (go_at_call 92; refine (HC.out _).mono ?_; rintro e w' ⟨rfl, n, rfl⟩; rw [HT.out])
    go_ret
    exact ⟨by rw [HB.out]; rfl, _, rfl⟩
  | false =>
    have HT := Lib.hid hf
    have HB := Lib.hid (show lsB x = false by unfold lsB; rw [hf]; rfl)
    clear hf
    go_enter Try.func88, Try.ntmps88
    go_wp2_with (go_at_call 92; refine (HC.out _).mono ?_; rintro e w' ⟨rfl, n, rfl⟩; rw [HT.out])
    go_ret
    exact ⟨by rw [HB.out]; rfl, _, rfl⟩
theorem psI_any (x : Nat) (w : World) (hx : x < 2 ^ 32) : Calls Try.prog 79 #[.float .f32 x] w (RetBo (psB x) w) := by
  have HC := Lib.hid (fun w => implFin_any x w hx)
  cases hf : finB .f32 x with
  | true =>
    have HT := Lib.hid hf
    have HB := Lib.hid (show psB x = (FloatKind.f32.format.order x 0 == some .gt) by unfold psB; rw [hf]; rfl)
    clear hf
    go_enter Try.func79, Try.ntmps79
    go_wp2_with (go_at_call 91; refine (HC.out _).mono ?_; rintro e w' ⟨rfl, n, rfl⟩; rw [HT.out])
    go_ret
    exact ⟨by rw [HB.out]; rfl, _, rfl⟩
  | false =>
    have HT := Lib.hid hf
    have HB := Lib.hid (show psB x = false by unfold psB; rw [hf]; rfl)
    clear hf
    go_enter Try.func79, Try.ntmps79
    go_wp2_with (go_at_call 91; refine (HC.out _).mono ?_; rintro e w' ⟨rfl, n, rfl⟩; rw [HT.out])
    go_ret
    exact ⟨by rw [HB.out]; rfl, _, rfl⟩
theorem psS_any (x : Nat) (w : World) (hx : x < 2 ^ 32) : Calls Try.prog 77 #[.float .f32 x] w (RetBo (psB x) w) := by
  have HC := Lib.hid (fun w => specFin_any x w hx)
  cases hf : finB .f32 x with
  | true =>
    have HT := Lib.hid hf
    have HB := Lib.hid (show psB x = (FloatKind.f32.format.order x 0 == some .gt) by unfold psB; rw [hf]; rfl)
    clear hf
    go_enter Try.func77, Try.ntmps77
    go_wp2_with (go_at_call 92; refine (HC.out _).mono ?_; rintro e w' ⟨rfl, n, rfl⟩; rw [HT.out])
    go_ret
    exact ⟨by rw [HB.out]; rfl, _, rfl⟩
  | false =>
    have HT := Lib.hid hf
    have HB := Lib.hid (show psB x = false by unfold psB; rw [hf]; rfl)
    clear hf
    go_enter Try.func77, Try.ntmps77
    go_wp2_with (go_at_call 92; refine (HC.out _).mono ?_; rintro e w' ⟨rfl, n, rfl⟩; rw [HT.out])
    go_ret
    exact ⟨by rw [HB.out]; rfl, _, rfl⟩
end Go.Proofs.Ytfcegkighjnmeaa
