/-
  At any number, LogNumber answers as its model does.
-/
import Derived.Test.YtcncobafpifimabRows
import Derived.ProofKit
import Derived.OpenShut
import Derived.WalkLawsBesides
import Derived.KernelRfl
import Derived.Test.YtcncobafpifimabLogT
namespace Go.Proofs.Ytcncobafpifimab
open Go.RowKit Fl
set_option linter.unusedVariables false
theorem fnExactLogNumber.walk (a0 : Nat) (w0 : (Lit.float .f32 a0).wf = true) (w : World) :
    Calls Try.prog 9 #[.float .f32 a0] w fun e w' => e = .returned (.bool true) ∧ Grown w w' := by
  have hl : a0 < 2 ^ 32 := wf_lt w0
  clear w0
  have hnum : ∀ o, FloatKind.f32.format.order a0 0 = some o → isN .f32 a0 = false := by
    intro o ho
    cases hn : isN .f32 a0 with
    | false => rfl
    | true => rw [order_nan_l hn] at ho; cases ho
  rcases log_cases a0 hl with h | h | h | h | ⟨h, hf, m, e0, hm, he1, he2⟩
  · have q1 : (FloatKind.f32.format.order a0 0 == some .eq) = false := by rw [order_nan_l h]; rfl
    have q2 : (FloatKind.f32.format.order a0 0 == some .gt) = false := by rw [order_nan_l h]; rfl
    have HN := Lib.hid h
    have Q1 := Lib.hid q1
    have Q2 := Lib.hid q2
    clear q1 q2 h hnum
    go_enter Try.func9, Try.ntmps9
    go_wp2_with (first | (go_at_call 47; refine (logS_nan _ _ HN.out).mono ?_; rintro e w' ⟨s, n, rfl, hs, rfl⟩) | (go_at_call 25; refine (logI_no _ _ Q1.out Q2.out).mono ?_; rintro e w' ⟨g, n, rfl, hg, rfl⟩) | (refine up_wide (by rw [Try.underlying22]; rfl) Try.underlying25 ?_; intro r n hr) | (go_at_call 12; refine (same_wi _ _ _ (by assumption) (by assumption) (hg.1.trans hs.1.symm)).mono ?_; rintro e w' ⟨rfl, n, rfl⟩) | (go_at_call 24; go_in))
    all_goals (go_ret; exact ⟨rfl, Grown.refl w⟩)
  · have q1 : (FloatKind.f32.format.order a0 0 == some .eq) = false := by rw [h]; rfl
    have q2 : (FloatKind.f32.format.order a0 0 == some .gt) = false := by rw [h]; rfl
    have HN := Lib.hid (hnum _ h)
    have HH := Lib.hid h
    have Q1 := Lib.hid q1
    have Q2 := Lib.hid q2
    clear q1 q2 h hnum
    go_enter Try.func9, Try.ntmps9
    go_wp2_with (first | (go_at_call 47; refine (logS_neg _ _ HH.out HN.out).mono ?_; rintro e w' ⟨s, n, rfl, hs, rfl⟩) | (go_at_call 25; refine (logI_no _ _ Q1.out Q2.out).mono ?_; rintro e w' ⟨g, n, rfl, hg, rfl⟩) | (refine up_wide (by rw [Try.underlying22]; rfl) Try.underlying25 ?_; intro r n hr) | (go_at_call 12; refine (same_wi _ _ _ (by assumption) (by assumption) (hg.1.trans hs.1.symm)).mono ?_; rintro e w' ⟨rfl, n, rfl⟩) | (go_at_call 24; go_in))
    all_goals (go_ret; exact ⟨rfl, Grown.refl w⟩)
  · have q1 : (FloatKind.f32.format.order a0 0 == some .eq) = true := by rw [h]; rfl
    have HN := Lib.hid (hnum _ h)
    have HH := Lib.hid h
    have Q1 := Lib.hid q1
    clear q1 h hnum
    go_enter Try.func9, Try.ntmps9
    go_wp2_with (first | (go_at_call 47; refine (logS_zero _ _ HH.out HN.out).mono ?_; rintro e w' ⟨s, n, rfl, hs, rfl⟩) | (go_at_call 25; refine (logI_zero _ _ Q1.out).mono ?_; rintro e w' ⟨g, n, rfl, hg, rfl⟩) | (refine up_wide (by rw [Try.underlying22]; rfl) Try.underlying25 ?_; intro r n hr) | (go_at_call 12; refine (same_wi _ _ _ (by assumption) (by assumption) (hg.1.trans hs.1.symm)).mono ?_; rintro e w' ⟨rfl, n, rfl⟩) | (go_at_call 24; go_in))
    all_goals (go_ret; exact ⟨rfl, Grown.refl w⟩)
  · subst h
    clear hnum
    go_enter Try.func9, Try.ntmps9
    go_wp2_with (first | (go_at_call 47; refine (logS_inf _).mono ?_; rintro e w' ⟨s, n, rfl, hs, rfl⟩) | (go_at_call 25; refine (logI_inf _).mono ?_; rintro e w' ⟨g, n, rfl, hg, rfl⟩) | (refine up_wide (by rw [Try.underlying22]; rfl) Try.underlying25 ?_; intro r n hr) | (go_at_call 12; refine (same_wi _ _ _ (by assumption) (by assumption) (hg.1.trans hs.1.symm)).mono ?_; rintro e w' ⟨rfl, n, rfl⟩) | (go_at_call 24; go_in))
    all_goals (go_ret; exact ⟨rfl, Grown.refl w⟩)
  · obtain ⟨J, K, hJ, hK, hJ3, hK3, e1, hz, hz1, hz2⟩ := log_steps hm he1 he2
    have hb := lgF_bd (n := (J : Int) - (K : Int)) hz hz2 hz1 (by omega)
    have HK := Lib.hid (Bd.naOk hb (by decide) (by decide)).1
    have q1 : (FloatKind.f32.format.order a0 0 == some .eq) = false := by rw [h]; rfl
    have q2 : (FloatKind.f32.format.order a0 0 == some .gt) = true := by rw [h]; rfl
    have HS := Lib.hid (fun w0 => logS_pos a0 m e0 w0 hm he2 J K hJ hK hJ3 hK3 HK.out)
    have HI := Lib.hid (fun w0 => logI_pos a0 w0 hl q1 q2 hf (nrm_nan hm) J K hJ hK hJ3 hK3 HK.out)
    clear q1 q2 h hf hnum hJ hK hm he1 he2 hz hz1 hz2 hb HK
    generalize lgF (dF (hF (wi a0) J) K) ((J : Int) - (K : Int)) = G at HS HI
    go_enter Try.func9, Try.ntmps9
    go_wp2_with (first | (go_at_call 47; refine (HS.out _).mono ?_; rintro e w' ⟨s, n, rfl, hs, rfl⟩) | (go_at_call 25; refine (HI.out _).mono ?_; rintro e w' ⟨g, n, rfl, hg, rfl⟩) | (refine up_wide (by rw [Try.underlying22]; rfl) Try.underlying25 ?_; intro r n hr) | (go_at_call 12; refine (same_wi _ _ _ (by assumption) (by assumption) (hg.1.trans hs.1.symm)).mono ?_; rintro e w' ⟨rfl, n, rfl⟩) | (go_at_call 24; go_in))
    all_goals (go_ret; exact ⟨rfl, Grown.refl w⟩)

namespace fnExactLogNumber
open Go.ChangeShapes Go.WideShapes Go.ChangeAt Go.RowKit
open Go.ChangeMaps (open_string shut_string)
set_option linter.unusedVariables false
theorem own : ownKnob Try.prog.godebug = none := by kernel_rfl
set_option maxRecDepth 100000 in
theorem lifted (os : Os) (started : os.Started) (H : Type) (enc : TypeId × Value → H) :
    ReturnsInHanded {} Try.checked os 9 .any (Rows.fnExactLogNumberSpec.pre6 enc Try.prog Try.f9 Rows.fnExactLogNumberRow.domain false) (Rows.fnExactLogNumberSpec.post enc Try.prog Try.f9 false true false false) := by
  refine returnsInHanded_of_change (C := Try.checked) own started (by kernel_rfl) Try.func9
    (ChangeSpec.witness6 (enc := enc) (C := Try.checked) false ⟨#[], #[.float .f32 0], []⟩ 8 (by kernel_rfl) (by kernel_rfl) (by kernel_rfl) (by kernel_rfl)) ?_
  intro W base args ds gs before hval0 hW hcnd _
  have hval : ∀ (j : Nat) t v, Try.f9.params[j]? = some t → args[j]? = some v → Value.okWide Try.prog W .any base t v := hval0
  have hW' := hW
  obtain ⟨p, q, hA0, hV, rfl, hfz, hnd⟩ := hW
  have hA : DataW.TrodAll enc Try.prog W 0 (fun _ => true) true Try.f9.params.toList args.toList ds p := hA0
  rw [Try.params9] at hA hval
  obtain ⟨v0, vs0, d0, ds0, p0, q0, hargs, rfl, rfl, h0, r0⟩ := trodAll_cons hA
  obtain ⟨rfl, rfl, rfl⟩ := trodAll_nil r0
  obtain rfl : args = #[v0] := by cases args; simp_all
  obtain ⟨rfl, rfl⟩ := trodVars_none hV
  obtain ⟨a0, rfl, rfl, rfl, w0⟩ := open_float Try.underlying22 (hval 0 22 v0 rfl rfl) h0
  clear hA0 hval0
  simp only [List.append_nil] at hW'
  refine (walk a0 w0 W).mono fun e W' ⟨he, hg⟩ => ?_
  subst he
  exact ⟨_, rfl, post_of_same (pa := []) (pv := []) hW' (fun _ _ _ => (trodAll_cons_mk (shut_bool Try.underlying4 _) trodAll_mk0)) (fun sp _ => (trodAll_cons_mk (shut_float Try.underlying22 w0) trodAll_mk0)) (fun _ _ => rfl) rfl
    (hg.frame _) hg.2.1 (ok_one (by kernel_rfl) rfl (okWide_bool_mk Try.underlying4 _))⟩

theorem over : Rows.fnExactLogNumberRow.holds Try.pinned (OpenSpec.ofChange Rows.fnExactLogNumberSpec) :=
  OpenClaim.holds_of_wide 9 Try.f9 rfl rfl rfl rfl rfl rfl rfl ⟨rfl, rfl, rfl, rfl, rfl⟩ rfl rfl rfl rfl rfl (by kernel_rfl) Try.func9 (by kernel_rfl)
    (of_decide_eq_true (by kernel_rfl)) (by unfold Func.isWrapper; first | (rw [if_pos (by decide +kernel)]; kernel_rfl) | (rw [if_neg (by decide +kernel)]; exact ⟨rfl, rfl⟩))
    (fun os started H enc _ => lifted os started H enc)

theorem proved : Rows.FnExactLogNumberSaid := over
end fnExactLogNumber
end Go.Proofs.Ytcncobafpifimab
