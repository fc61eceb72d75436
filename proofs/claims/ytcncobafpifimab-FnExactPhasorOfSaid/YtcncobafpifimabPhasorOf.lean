/-
  At any number of turns, PhasorOf answers as its model does.
-/
import Derived.Test.YtcncobafpifimabRows
import Derived.ProofKit
import Derived.OpenShut
import Derived.WalkLawsBesides
import Derived.KernelRfl
import Derived.Test.YtcncobafpifimabPhasorI
namespace Go.Proofs.Ytcncobafpifimab
open Go.RowKit Fl
set_option linter.unusedVariables false
theorem fnExactPhasorOf.walk (a0 : Nat) (w0 : (Lit.float .f64 a0).wf = true) (w : World) :
    Calls Try.prog 4 #[.float .f64 a0] w fun e w' => e = .returned (.bool true) ∧ Grown w w' := by
  have hl : a0 < 2 ^ 64 := wf_lt w0
  clear w0
  cases hf : finB .f64 a0 with
  | false =>
    have hy : Is .f64 a0 (cn .f64 a0) := ⟨rfl, hl⟩
    have hf' : finB .f64 (cn .f64 a0) = false := by rw [finB_cn]; exact hf
    have HF := Lib.hid hf
    have HF' := Lib.hid hf'
    clear hf hf'
    go_enter Try.func4, Try.ntmps4
    go_wp2_with (first | (go_at_call 29; refine (phS_nan _ _ _ hy HF'.out).mono ?_; rintro e w' ⟨s1, s2, n, rfl, hs1, hs2, rfl⟩) | (go_at_call 14; refine (phI_nan _ _ hl HF.out).mono ?_; rintro e w' ⟨g1, g2, n, rfl, hg1, hg2, rfl⟩) | (refine up_cwide (by rw [Try.underlying27]; rfl) Try.underlying30 ?_; intro p q n hp hq) | (go_at_call 15; refine (sameC_wi _ _ _ _ _ (by assumption) (by assumption) (by assumption) (by assumption) (hg1.1.trans hs1.1.symm) (hg2.1.trans hs2.1.symm)).mono ?_; rintro e w' ⟨rfl, n, rfl⟩) | (go_at_call 13; go_in))
    all_goals (go_ret; exact ⟨rfl, Grown.refl w⟩)
  | true =>
    cases hb : bigB a0 with
    | true =>
      have hy : Is .f64 a0 a0 := ⟨cn_of_not (nan_of_not_fin hf), hl⟩
      have HF := Lib.hid hf
      have HB := Lib.hid hb
      clear hf hb
      go_enter Try.func4, Try.ntmps4
      go_wp2_with (first | (go_at_call 29; refine (phS_big _ _ hy HF.out HB.out).mono ?_; rintro e w' ⟨s1, s2, n, rfl, hs1, hs2, rfl⟩) | (go_at_call 14; refine (phI_big _ _ hl HF.out HB.out).mono ?_; rintro e w' ⟨g1, g2, n, rfl, hg1, hg2, rfl⟩) | (refine up_cwide (by rw [Try.underlying27]; rfl) Try.underlying30 ?_; intro p q n hp hq) | (go_at_call 15; refine (sameC_wi _ _ _ _ _ (by assumption) (by assumption) (by assumption) (by assumption) (hg1.1.trans hs1.1.symm) (hg2.1.trans hs2.1.symm)).mono ?_; rintro e w' ⟨rfl, n, rfl⟩) | (go_at_call 13; go_in))
      all_goals (go_ret; exact ⟨rfl, Grown.refl w⟩)
    | false =>
      have h52 := not_big hf hb
      obtain ⟨J, hJ, _⟩ := q_exists (partOf_one h52)
      have HB := Lib.hid hb
      have HJ := Lib.hid hJ
      clear hf hb hJ
      go_enter Try.func4, Try.ntmps4
      go_wp2_with (first | (go_at_call 29; refine (phS_any _ _ h52 hl HB.out J HJ.out).mono ?_; rintro e w' ⟨s1, s2, n, rfl, hs1, hs2, rfl⟩) | (go_at_call 14; refine (phI_any _ _ h52 hl HB.out J HJ.out).mono ?_; rintro e w' ⟨g1, g2, n, rfl, hg1, hg2, rfl⟩) | (refine up_cwide (by rw [Try.underlying27]; rfl) Try.underlying30 ?_; intro p q n hp hq) | (go_at_call 15; refine (sameC_wi _ _ _ _ _ (by assumption) (by assumption) (by assumption) (by assumption) (hg1.1.trans hs1.1.symm) (hg2.1.trans hs2.1.symm)).mono ?_; rintro e w' ⟨rfl, n, rfl⟩) | (go_at_call 13; go_in))
      all_goals (go_ret; exact ⟨rfl, Grown.refl w⟩)

namespace fnExactPhasorOf
open Go.ChangeShapes Go.WideShapes Go.ChangeAt Go.RowKit
open Go.ChangeMaps (open_string shut_string)
set_option linter.unusedVariables false
theorem own : ownKnob Try.prog.godebug = none := by kernel_rfl
set_option maxRecDepth 100000 in
theorem lifted (os : Os) (started : os.Started) (H : Type) (enc : TypeId × Value → H) :
    ReturnsInHanded {} Try.checked os 4 .any (Rows.fnExactPhasorOfSpec.pre6 enc Try.prog Try.f4 Rows.fnExactPhasorOfRow.domain false) (Rows.fnExactPhasorOfSpec.post enc Try.prog Try.f4 false true false false) := by
  refine returnsInHanded_of_change (C := Try.checked) own started (by kernel_rfl) Try.func4
    (ChangeSpec.witness6 (enc := enc) (C := Try.checked) false ⟨#[], #[.float .f64 0], []⟩ 8 (by kernel_rfl) (by kernel_rfl) (by kernel_rfl) (by kernel_rfl)) ?_
  intro W base args ds gs before hval0 hW hcnd _
  have hval : ∀ (j : Nat) t v, Try.f4.params[j]? = some t → args[j]? = some v → Value.okWide Try.prog W .any base t v := hval0
  have hW' := hW
  obtain ⟨p, q, hA0, hV, rfl, hfz, hnd⟩ := hW
  have hA : DataW.TrodAll enc Try.prog W 0 (fun _ => true) true Try.f4.params.toList args.toList ds p := hA0
  rw [Try.params4] at hA hval
  obtain ⟨v0, vs0, d0, ds0, p0, q0, hargs, rfl, rfl, h0, r0⟩ := trodAll_cons hA
  obtain ⟨rfl, rfl, rfl⟩ := trodAll_nil r0
  obtain rfl : args = #[v0] := by cases args; simp_all
  obtain ⟨rfl, rfl⟩ := trodVars_none hV
  obtain ⟨a0, rfl, rfl, rfl, w0⟩ := open_float Try.underlying25 (hval 0 25 v0 rfl rfl) h0
  clear hA0 hval0
  simp only [List.append_nil] at hW'
  refine (walk a0 w0 W).mono fun e W' ⟨he, hg⟩ => ?_
  subst he
  exact ⟨_, rfl, post_of_same (pa := []) (pv := []) hW' (fun _ _ _ => (trodAll_cons_mk (shut_bool Try.underlying4 _) trodAll_mk0)) (fun sp _ => (trodAll_cons_mk (shut_float Try.underlying25 w0) trodAll_mk0)) (fun _ _ => rfl) rfl
    (hg.frame _) hg.2.1 (ok_one (by kernel_rfl) rfl (okWide_bool_mk Try.underlying4 _))⟩

theorem over : Rows.fnExactPhasorOfRow.holds Try.pinned (OpenSpec.ofChange Rows.fnExactPhasorOfSpec) :=
  OpenClaim.holds_of_wide 4 Try.f4 rfl rfl rfl rfl rfl rfl rfl ⟨rfl, rfl, rfl, rfl, rfl⟩ rfl rfl rfl rfl rfl (by kernel_rfl) Try.func4 (by kernel_rfl)
    (of_decide_eq_true (by kernel_rfl)) (by unfold Func.isWrapper; first | (rw [if_pos (by decide +kernel)]; kernel_rfl) | (rw [if_neg (by decide +kernel)]; exact ⟨rfl, rfl⟩))
    (fun os started H enc _ => lifted os started H enc)

theorem proved : Rows.FnExactPhasorOfSaid := over
end fnExactPhasorOf
end Go.Proofs.Ytcncobafpifimab
