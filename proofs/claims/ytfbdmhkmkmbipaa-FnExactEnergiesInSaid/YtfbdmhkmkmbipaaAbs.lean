/-
  Contracts: absolute values, of both sides; numbers that are at least nothing, or greater.
-/
import Derived.Test.YtfbdmhkmkmbipaaCallA
import Derived.Test.YtfbdmhkmkmbipaaFloShr
import Derived.Test.YtfbdmhkmkmbipaaFin
import Derived.Deep.RegionWith
namespace Go.Proofs.Ytfbdmhkmkmbipaa
open Go.RowKit Fl
set_option linter.unusedVariables false

set_option maxRecDepth 100000 in
theorem absI_any (x : Nat) (w : World) : Calls Try.prog 112 #[.float .f32 x] w fun e w' => ∃ r n, e = .returned (.float .f32 r) ∧ Is .f32 r (absF x) ∧ w' = w.drewN n := by
  go_enter Try.func112, Try.ntmps112
  go_wp2_with (first | (refine up_wide (by rw [Try.underlying23]; rfl) Try.underlying72 ?_; intro r n hr) | (go_at_call 137; refine (abs_any _ _ (And.right (by assumption))).mono ?_; rintro e w' ⟨rfl, rfl⟩) | (refine up_narrow (by rw [Try.underlying72]; rfl) Try.underlying23 (abs_road (by assumption)).1 ?_; intro r2 n2 hr2))
  go_ret
  exact ⟨_, _, rfl, by rw [← (abs_road (by assumption)).2]; assumption, rfl⟩
theorem absI_fin (x : Nat) (w : World) (hf : finB .f32 x = true) : Calls Try.prog 112 #[.float .f32 x] w fun e w' => e = .returned (.float .f32 (x % 2 ^ 31)) ∧ ∃ n, w' = w.drewN n := by
  refine (absI_any x w).mono ?_
  rintro e w' ⟨r, n, rfl, hr, rfl⟩
  rw [absF_fin x hf] at hr
  have hn : isN .f32 (x % 2 ^ 31) = false := by
    rw [isN_mod32]
    unfold finB at hf
    unfold isN
    cases hq : FloatKind.f32.format.read x <;> rw [hq] at hf <;> simp_all [Ieee.Datum.isNaN]
  exact ⟨by rw [is_eq hr hn], n, rfl⟩
theorem lsI_any (x : Nat) (w : World) (hx : x < 2 ^ 32) : Calls Try.prog 109 #[.float .f32 x] w (RetBo (lsB x) w) := by
  have HC := Lib.hid (fun w => implFin_any x w hx)
  cases hf : finB .f32 x with
  | true =>
    have HT := Lib.hid hf
    have HB := Lib.hid (show lsB x = (FloatKind.f32.format.order x 0 == some .gt || FloatKind.f32.format.order x 0 == some .eq) by unfold lsB; rw [hf]; rfl)
    clear hf
    go_enter Try.func109, Try.ntmps109
    go_wp2_with (go_at_call 118; refine (HC.out _).mono ?_; rintro e w' ⟨rfl, n, rfl⟩; rw [HT.out])
    go_ret
    exact ⟨by rw [HB.out]; rfl, _, rfl⟩
  | false =>
    have HT := Lib.hid hf
    have HB := Lib.hid (show lsB x = false by unfold lsB; rw [hf]; rfl)
    clear hf
    go_enter Try.func109, Try.ntmps109
    go_wp2_with (go_at_call 118; refine (HC.out _).mono ?_; rintro e w' ⟨rfl, n, rfl⟩; rw [HT.out])
    go_ret
    exact ⟨by rw [HB.out]; rfl, _, rfl⟩
theorem lsS_any (x : Nat) (w : World) (hx : x < 2 ^ 32) : Calls Try.prog 106 #[.float .f32 x] w (RetBo (lsB x) w) := by
  have HC := Lib.hid (fun w => specFin_any x w hx)
  cases hf : finB .f32 x with
  | true =>
    have HT := Lib.hid hf
    have HB := Lib.hid (show lsB x = (FloatKind.f32.format.order x 0 == some .gt || FloatKind.f32.format.order x 0 == some .eq) by unfold lsB; rw [hf]; rfl)
    clear hf
    go_enter Try.func106, Try.ntmps106
    go_wp2_with (go_at_call 122; refine (HC.out _).mono ?_; rintro e w' ⟨rfl, n, rfl⟩; rw [HT.out])
    go_ret
    exact ⟨by rw [HB.out]; rfl, _, rfl⟩
  | false =>
    have HT := Lib.hid hf
    have HB := Lib.hid (show lsB x = false by unfold lsB; rw [hf]; rfl)
    clear hf
    go_enter Try.func106, Try.ntmps106
    go_wp2_with (go_at_call 122; refine (HC.out _).mono ?_; rintro e w' ⟨rfl, n, rfl⟩; rw [HT.out])
    go_ret
    exact ⟨by rw [HB.out]; rfl, _, rfl⟩
theorem psS_any (x : Nat) (w : World) (hx : x < 2 ^ 32) : Calls Try.prog 116 #[.float .f32 x] w (RetBo (psB x) w) := by
  have HC := Lib.hid (fun w => specFin_any x w hx)
  cases hf : finB .f32 x with
  | true =>
    have HT := Lib.hid hf
    have HB := Lib.hid (show psB x = (FloatKind.f32.format.order x 0 == some .gt) by unfold psB; rw [hf]; rfl)
    clear hf
    go_enter Try.func116, Try.ntmps116
    go_wp2_with (go_at_call 122; refine (HC.out _).mono ?_; rintro e w' ⟨rfl, n, rfl⟩; rw [HT.out])
    go_ret
    exact ⟨by rw [HB.out]; rfl, _, rfl⟩
  | false =>
    have HT := Lib.hid hf
    have HB := Lib.hid (show psB x = false by unfold psB; rw [hf]; rfl)
    clear hf
    go_enter Try.func116, Try.ntmps116
    go_wp2_with (go_at_call 122; refine (HC.out _).mono ?_; rintro e w' ⟨rfl, n, rfl⟩; rw [HT.out])
    go_ret
    exact ⟨by rw [HB.out]; rfl, _, rfl⟩
end Go.Proofs.Ytfbdmhkmkmbipaa
