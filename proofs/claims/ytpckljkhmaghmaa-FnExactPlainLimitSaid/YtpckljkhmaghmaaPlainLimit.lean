/-
  At any noise and count, PlainLimit answers as its model does.
-/
import Derived.Test.YtpckljkhmaghmaaRows
import Derived.ProofKit
import Derived.OpenShut
import Derived.WalkLawsBesides
import Derived.KernelRfl
import Derived.Test.YtpckljkhmaghmaaPlm
import Derived.Test.YtpckljkhmaghmaaLow
namespace Go.Proofs.Ytpckljkhmaghmaa
open Go.RowKit Fl
set_option linter.unusedVariables false
set_option maxRecDepth 100000 in
set_option maxHeartbeats 1000000 in
theorem fnExactPlainLimit.walk (a0 : Nat) (a1 : Int) (w0 : (Lit.float .f32 a0).wf = true) (w1 : (Lit.int .i64 a1).wf = true) (w : World) :
    Calls Try.prog 6 #[.float .f32 a0, .int .i64 a1] w fun e w' => e = .returned (.bool true) ∧ Below w.heap.size w w' := by
  have h0 : a0 < 2 ^ 32 := wf_lt w0
  clear w0
  obtain ⟨d, hL⟩ := log_both (floatOfInt .f32 a1) (is_int32 a1).2
  have HS := Lib.hid (fun w => plS_any a0 d a1 w h0 hL)
  have HI := Lib.hid (fun w => plI_any a0 d a1 w h0 hL)
  go_enter Try.func6, Try.ntmps6
  go_wp2_with (go_at_call 26; refine (HS.out _).mono ?_; rintro e w1 ⟨s, rfl, hs, hb1⟩)
  replace hb1 := Lib.hid hb1
  go_wp2_with (go_at_call 27; refine (HI.out _).mono ?_; rintro e w2 ⟨g, rfl, hg, hb2⟩)
  have hb3 := Lib.hid (show Below w.heap.size w w2 from hb1.out.trans (hb2.mono hb1.out.size))
  clear hb1 hb2
  go_wp2_with (first | (refine up_wide (by rw [Try.underlying22]; rfl) Try.underlying26 ?_; intro r n hr) | (go_at_call 17; refine (same_wi _ _ _ (by assumption) (by assumption) (hg.1.trans hs.1.symm)).mono ?_; rintro e w' ⟨rfl, n, rfl⟩))
  go_ret
  exact ⟨rfl, below_drawn hb3.out _⟩

namespace fnExactPlainLimit
open Go.ChangeShapes Go.WideShapes Go.ChangeAt Go.RowKit
open Go.ChangeMaps (open_string shut_string)
set_option linter.unusedVariables false
theorem own : ownKnob Try.prog.godebug = none := by kernel_rfl
set_option maxRecDepth 100000 in
theorem lifted (os : Os) (started : os.Started) (H : Type) (enc : TypeId × Value → H) :
    ReturnsInHanded {} Try.checked os 6 .any (Rows.fnExactPlainLimitSpec.pre6 enc Try.prog Try.f6 Rows.fnExactPlainLimitRow.domain false) (Rows.fnExactPlainLimitSpec.post enc Try.prog Try.f6 false true false false) := by
  refine returnsInHanded_of_change (C := Try.checked) own started (by kernel_rfl) Try.func6
    (ChangeSpec.witness6 (enc := enc) (C := Try.checked) false ⟨#[], #[.float .f32 0, .int .i64 0], []⟩ 8 (by kernel_rfl) (by kernel_rfl) (by kernel_rfl) (by kernel_rfl)) ?_
  intro W base args ds gs before hval0 hW hcnd _
  have hval : ∀ (j : Nat) t v, Try.f6.params[j]? = some t → args[j]? = some v → Value.okWide Try.prog W .any base t v := hval0
  have hW' := hW
  obtain ⟨p, q, hA0, hV, rfl, hfz, hnd⟩ := hW
  have hA : DataW.TrodAll enc Try.prog W 0 (fun _ => true) true Try.f6.params.toList args.toList ds p := hA0
  rw [Try.params6] at hA hval
  obtain ⟨v0, vs0, d0, ds0, p0, q0, hargs, rfl, rfl, h0, r0⟩ := trodAll_cons hA
  obtain ⟨v1, vs1, d1, ds1, p1, q1, rfl, rfl, rfl, h1, r1⟩ := trodAll_cons r0
  obtain ⟨rfl, rfl, rfl⟩ := trodAll_nil r1
  obtain rfl : args = #[v0, v1] := by cases args; simp_all
  obtain ⟨rfl, rfl⟩ := trodVars_none hV
  obtain ⟨a0, rfl, rfl, rfl, w0⟩ := open_float Try.underlying22 (hval 0 22 v0 rfl rfl) h0
  obtain ⟨a1, rfl, rfl, rfl, w1⟩ := open_int Try.underlying2 (hval 1 2 v1 rfl rfl) h1
  clear hA0 hval0
  simp only [List.append_nil] at hW'
  refine (walk a0 a1 w0 w1 W).mono fun e W' ⟨he, hg⟩ => ?_
  subst he
  exact ⟨_, rfl, post_low (pa := []) (pv := []) hW' hg (fun _ _ _ => (trodAll_cons_mk (shut_bool Try.underlying4 _) trodAll_mk0)) (fun sp _ => (trodAll_cons_mk (shut_float Try.underlying22 w0) (trodAll_cons_mk (shut_int Try.underlying2 w1) trodAll_mk0))) (fun _ _ => rfl) rfl⟩

theorem over : Rows.fnExactPlainLimitRow.holds Try.pinned (OpenSpec.ofChange Rows.fnExactPlainLimitSpec) :=
  OpenClaim.holds_of_wide 6 Try.f6 rfl rfl rfl rfl rfl rfl rfl ⟨rfl, rfl, rfl, rfl, rfl⟩ rfl rfl rfl rfl rfl (by kernel_rfl) Try.func6 (by kernel_rfl)
    (of_decide_eq_true (by kernel_rfl)) (by unfold Func.isWrapper; first | (rw [if_pos (by decide +kernel)]; kernel_rfl) | (rw [if_neg (by decide +kernel)]; exact ⟨rfl, rfl⟩))
    (fun os started H enc _ => lifted os started H enc)

theorem proved : Rows.FnExactPlainLimitSaid := over
end fnExactPlainLimit
end Go.Proofs.Ytpckljkhmaghmaa
