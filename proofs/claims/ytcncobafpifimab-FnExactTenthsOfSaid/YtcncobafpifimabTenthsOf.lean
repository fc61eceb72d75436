/-
  At any number, TenthsOf answers as its model does.
-/
import Derived.Test.YtcncobafpifimabRows
import Derived.ProofKit
import Derived.OpenShut
import Derived.WalkLawsBesides
import Derived.KernelRfl
import Derived.Test.YtcncobafpifimabTen
namespace Go.Proofs.Ytcncobafpifimab
open Go.RowKit Fl
set_option linter.unusedVariables false
theorem fnExactTenthsOf.walk (a0 : Nat) (w0 : (Lit.float .f32 a0).wf = true) (w : World) :
    Calls Try.prog 7 #[.float .f32 a0] w fun e w' => e = .returned (.bool true) ∧ Grown w w' := by
  have hl : a0 < 2 ^ 32 := wf_lt w0
  clear w0
  have hno : (finB .f32 a0 = false ∨ (FloatKind.f32.format.order a0 0 == some .lt || FloatKind.f32.format.order a0 0 == some .eq) = true) → Calls Try.prog 7 #[.float .f32 a0] w fun e w' => e = .returned (.bool true) ∧ Grown w w' := by
    intro h
    have H := Lib.hid h
    clear h
    go_enter Try.func7, Try.ntmps7
    go_wp2_with (first | (go_at_call 20; refine (tenS_no _ _ H.out hl).mono ?_; rintro e w' ⟨n, rfl, rfl⟩) | (go_at_call 21; refine (tenI_no _ _ H.out hl).mono ?_; rintro e w' ⟨n9, rfl, rfl⟩))
    all_goals (go_ret; exact ⟨rfl, Grown.refl w⟩)
  rcases log_cases a0 hl with h | h | h | h | ⟨h, hf, m, e0, hm, he1, he2⟩
  · refine hno (.inl ?_)
    cases hq : finB .f32 a0 with
    | false => rfl
    | true =>
      exfalso
      have hq' : finB .f64 (wi a0) = true := by rw [finB_wi]; exact hq
      have hn := nan_of_not_fin hq'
      rw [isN_wi, h] at hn
      cases hn
  · exact hno (.inr (by rw [h]; rfl))
  · exact hno (.inr (by rw [h]; rfl))
  · subst h
    exact hno (.inl (by decide))
  · clear hno
    obtain ⟨J, K, hJ, hK, hJ3, hK3, e1, hz, hz1, hz2⟩ := log_steps hm he1 he2
    have hb := lgF_bd15 (n := (J : Int) - (K : Int)) hz hz2 hz1 (by omega)
    have q2 : (FloatKind.f32.format.order a0 0 == some .lt || FloatKind.f32.format.order a0 0 == some .eq) = false := by rw [h]; rfl
    have HS := Lib.hid (fun w0 => tenS_pos a0 _ w0 hf q2 hl hb (fun r w1 hr => by
      obtain rfl := is_eq hr (nrm_nan hm)
      exact lgS_any _ w1 hr (by rw [neq_self]; exact nrm_nan hm) (by rw [nrm_zero hm]; rfl) (by rw [nrm_zero hm]; rfl) (by rw [nrm_max hm (by omega)]; rfl) J K hJ hK hJ3 hK3))
    have HI := Lib.hid (fun w0 => tenI_pos a0 _ w0 hf q2 hl hb (nrm_nan hm) (fun w1 => natLog_any (wi a0) w1 (is_wi_log a0) J K hJ hK hJ3 hK3))
    clear q2 h hf hJ hK hm he1 he2 hz hz1 hz2 hb
    generalize ti (flF (tenF (lgF (dF (hF (wi a0) J) K) ((J : Int) - (K : Int))))) = G at HS HI
    go_enter Try.func7, Try.ntmps7
    go_wp2_with (first | (go_at_call 20; refine (HS.out _).mono ?_; rintro e w' ⟨n, rfl, rfl⟩) | (go_at_call 21; refine (HI.out _).mono ?_; rintro e w' ⟨n9, rfl, rfl⟩))
    all_goals (go_ret; exact ⟨rfl, Grown.refl w⟩)

namespace fnExactTenthsOf
open Go.ChangeShapes Go.WideShapes Go.ChangeAt Go.RowKit
open Go.ChangeMaps (open_string shut_string)
set_option linter.unusedVariables false
theorem own : ownKnob Try.prog.godebug = none := by kernel_rfl
set_option maxRecDepth 100000 in
theorem lifted (os : Os) (started : os.Started) (H : Type) (enc : TypeId × Value → H) :
    ReturnsInHanded {} Try.checked os 7 .any (Rows.fnExactTenthsOfSpec.pre6 enc Try.prog Try.f7 Rows.fnExactTenthsOfRow.domain false) (Rows.fnExactTenthsOfSpec.post enc Try.prog Try.f7 false true false false) := by
  refine returnsInHanded_of_change (C := Try.checked) own started (by kernel_rfl) Try.func7
    (ChangeSpec.witness6 (enc := enc) (C := Try.checked) false ⟨#[], #[.float .f32 0], []⟩ 8 (by kernel_rfl) (by kernel_rfl) (by kernel_rfl) (by kernel_rfl)) ?_
  intro W base args ds gs before hval0 hW hcnd _
  have hval : ∀ (j : Nat) t v, Try.f7.params[j]? = some t → args[j]? = some v → Value.okWide Try.prog W .any base t v := hval0
  have hW' := hW
  obtain ⟨p, q, hA0, hV, rfl, hfz, hnd⟩ := hW
  have hA : DataW.TrodAll enc Try.prog W 0 (fun _ => true) true Try.f7.params.toList args.toList ds p := hA0
  rw [Try.params7] at hA hval
  obtain ⟨v0, vs0, d0, ds0, p0, q0, hargs, rfl, rfl, h0, r0⟩ := trodAll_cons hA
  obtain ⟨rfl, rfl, rfl⟩ := trodAll_nil r0
  obtain rfl : args = #[v0] := by cases args; simp_all
  obtain ⟨rfl, rfl⟩ := trodVars_none hV
  obtain ⟨a0, rfl, rfl, rfl, w0⟩ := open_float Try.underlying22 (hval 0 22 v0 rfl rfl) h0
  clear hA0 hval0
  simp only [List.append_nil] at hW'
  refine (walk a0 w0 W).mono fun e W' ⟨he, hg⟩ => ?_
  subst he
  exact ⟨_, rfl, post_of_same (pa := []) (pv := []) hW' (fun _ _ _ => (trodAll_cons_mk (shut_bool Try.underlying4 _) trodAll_mk0)) (fun sp _ => (trodAll_cons_mk (shut_float Try.underlying22 w0) trodAll_mk0)) (fun _ _ => rfl) rfl
    (hg.frame _) hg.2.1 (ok_one (by kernel_rfl) rfl (okWide_bool_mk Try.underlying4 _))⟩

theorem over : Rows.fnExactTenthsOfRow.holds Try.pinned (OpenSpec.ofChange Rows.fnExactTenthsOfSpec) :=
  OpenClaim.holds_of_wide 7 Try.f7 rfl rfl rfl rfl rfl rfl rfl ⟨rfl, rfl, rfl, rfl, rfl⟩ rfl rfl rfl rfl rfl (by kernel_rfl) Try.func7 (by kernel_rfl)
    (of_decide_eq_true (by kernel_rfl)) (by unfold Func.isWrapper; first | (rw [if_pos (by decide +kernel)]; kernel_rfl) | (rw [if_neg (by decide +kernel)]; exact ⟨rfl, rfl⟩))
    (fun os started H enc _ => lifted os started H enc)

theorem proved : Rows.FnExactTenthsOfSaid := over
end fnExactTenthsOf
end Go.Proofs.Ytcncobafpifimab
