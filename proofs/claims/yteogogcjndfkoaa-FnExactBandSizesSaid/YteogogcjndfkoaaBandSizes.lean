/-
  At any numbers, BandSizes answers as its model does, in memory of its own.
-/
import Derived.Test.YteogogcjndfkoaaRows
import Derived.ProofKit
import Derived.OpenShut
import Derived.WalkLawsBesides
import Derived.KernelRfl
import Derived.Test.YteogogcjndfkoaaSz
namespace Go.Proofs.Yteogogcjndfkoaa
open Go.RowKit
set_option linter.unusedVariables false
theorem fnExactBandSizes.walk (w : World) (a0 : Int) (w0 : (Lit.int .i64 a0).wf = true) (a1 : Int) (w1 : (Lit.int .i64 a1).wf = true) :
    Calls Try.prog 9 #[.int .i64 a0, .int .i64 a1] w fun e w' => e = .returned (.bool true) ∧ Below w.heap.size w w' := by
  have hm : (bsL a0 a1).length ≤ 1048576 := by have := bsL_len a0 a1; omega
  go_enter Try.func9, Try.ntmps9
  have B_0 : Below w.heap.size w w := Below.refl _ _
  go_wp2_with fail
  refine (bsS_any _ _ _).mono ?_
  rintro e w1 ⟨v1, rfl, O1v, hb1⟩
  have S1 : w.heap.size ≤ w.heap.size := B_0.size
  have B_1 : Below w.heap.size w w1 := B_0.trans (hb1.mono B_0.size)
  clear B_0
  clear hb1
  go_wp2_with fail
  refine (bsI_any _ _ _).mono ?_
  rintro e w2 ⟨v2, rfl, O2v, hb2⟩
  have A2x0x0 : Apart v2 v1 := apart_of O2v O1v.rd (Nat.le_refl _)
  have S2 : w.heap.size ≤ w1.heap.size := B_1.size
  have O1v_2 : Own w2 w.heap.size v1 (il (bsL a0 a1)) := O1v.below hb2
  have B_2 : Below w.heap.size w w2 := B_1.trans (hb2.mono B_1.size)
  clear O1v B_1
  clear hb2
  go_wp2_with fail
  refine (eqI_any _ _ (bsL a0 a1) _ _ _ O2v.rd O1v_2.rd hm).mono ?_
  rintro e w3 ⟨rfl, n3, hw3⟩
  have O1v_3 : Own w3 w.heap.size v1 (il (bsL a0 a1)) := by subst hw3; exact O1v_2
  have O2v_3 : Own w3 w1.heap.size v2 (il (bsL a0 a1)) := by subst hw3; exact O2v
  have B_3 : Below w.heap.size w w3 := by subst hw3; exact below_drawn B_2 _
  clear O1v_2 O2v B_2
  clear hw3
  go_wp2_with fail
  refine (markI_any _ (bsL a0 a1) _ _ _ O2v_3 hm (by omega) (by omega)).mono ?_
  rintro e w4 ⟨rfl, hw4⟩
  have O1v_4 : Own w4 w.heap.size v1 (il (bsL a0 a1)) := by subst hw4; exact over_ownOther O2v_3 O1v_3 A2x0x0 _
  have O2v_4 : Own w4 w1.heap.size v2 ((List.range (bsL a0 a1).length).map (mkI (1))) := by subst hw4; have := over_own O2v_3 (mkI (1)); rw [il_len] at this; exact this
  have B_4 : Below w.heap.size w w4 := by subst hw4; exact B_3.trans ((over_below O2v_3 _).mono S2)
  clear O1v_3 O2v_3 B_3
  clear hw4
  go_wp2_with fail
  refine (heldI_any _ (bsL a0 a1).length _ _ _ O2v_4.rd hm (by omega) (by omega)).mono ?_
  rintro e w' ⟨rfl, rfl⟩
  go_wp2_with fail
  refine (bsI_any _ _ _).mono ?_
  rintro e w5 ⟨v5, rfl, O5v, hb5⟩
  have A5x0x2 : Apart v5 v1 := apart_of O5v O1v_4.rd (Nat.le_refl _)
  have A5x0x4 : Apart v5 v2 := apart_of O5v O2v_4.rd (Nat.le_refl _)
  have S5 : w.heap.size ≤ w4.heap.size := B_4.size
  have O1v_5 : Own w5 w.heap.size v1 (il (bsL a0 a1)) := O1v_4.below hb5
  have O2v_5 : Own w5 w1.heap.size v2 ((List.range (bsL a0 a1).length).map (mkI (1))) := O2v_4.below hb5
  have B_5 : Below w.heap.size w w5 := B_4.trans (hb5.mono B_4.size)
  clear O1v_4 O2v_4 B_4
  clear hb5
  go_wp2_with fail
  refine (eqI_any _ _ (bsL a0 a1) _ _ _ O5v.rd O1v_5.rd hm).mono ?_
  rintro e w6 ⟨rfl, n6, hw6⟩
  have O1v_6 : Own w6 w.heap.size v1 (il (bsL a0 a1)) := by subst hw6; exact O1v_5
  have O2v_6 : Own w6 w1.heap.size v2 ((List.range (bsL a0 a1).length).map (mkI (1))) := by subst hw6; exact O2v_5
  have O5v_6 : Own w6 w4.heap.size v5 (il (bsL a0 a1)) := by subst hw6; exact O5v
  have B_6 : Below w.heap.size w w6 := by subst hw6; exact below_drawn B_5 _
  clear O1v_5 O2v_5 O5v B_5
  clear hw6
  go_wp2_with fail
  refine (heldI_any _ (bsL a0 a1).length _ _ _ O2v_6.rd hm (by omega) (by omega)).mono ?_
  rintro e w' ⟨rfl, rfl⟩
  go_wp2_with fail
  go_ret
  exact ⟨rfl, B_6⟩

namespace fnExactBandSizes
open Go.ChangeShapes Go.WideShapes Go.ChangeAt Go.RowKit
open Go.ChangeMaps (open_string)
set_option linter.unusedVariables false
theorem own : ownKnob Try.prog.godebug = none := by kernel_rfl
theorem laidOut : laidOutB Try.prog = true := by kernel_rfl
set_option maxRecDepth 100000 in
theorem lifted (os : Os) (started : os.Started) (H : Type) (enc : TypeId × Value → H) :
    ReturnsInHanded {} Try.checked os 9 .any (Rows.fnExactBandSizesSpec.pre6 enc Try.prog Try.f9 Rows.fnExactBandSizesRow.domain false) (Rows.fnExactBandSizesSpec.post enc Try.prog Try.f9 false true false false) := by
  refine returnsInHanded_of_change (C := Try.checked) own started (by kernel_rfl) Try.func9
    (ChangeSpec.witness6 (enc := enc) (C := Try.checked) false ⟨#[], #[.int .i64 0, .int .i64 0], []⟩ 8 (by kernel_rfl) (by kernel_rfl) (by kernel_rfl) (by kernel_rfl)) ?_
  intro W base args ds gs before hval0 hW hcnd _
  have hval : ∀ (j : Nat) t v, Try.f9.params[j]? = some t → args[j]? = some v → Value.okWide Try.prog W .any base t v := hval0
  have hW' := hW
  have hlt0 := hW.lt
  obtain ⟨p, q, hA0, hV, rfl, hfz, hnd⟩ := hW
  have hA : DataW.TrodAll enc Try.prog W 0 (fun _ => true) true Try.f9.params.toList args.toList ds p := hA0
  have hAk := hA
  have hltp : ∀ x ∈ p, x.block < W.heap.size := fun x hx => hlt0 x (List.mem_append_left _ hx)
  have hread : ∀ t ∈ Try.f9.params.toList, Try.prog.readableRec t = true ∧ t < Try.prog.types.size := by
    rw [Try.params9]
    intro t ht
    simp only [List.mem_cons, List.not_mem_nil, or_false] at ht
    rcases ht with rfl | rfl <;> exact ⟨by kernel_rfl, of_decide_eq_true (by kernel_rfl)⟩
  rw [Try.params9] at hA hval
  obtain ⟨v0, vs0, d0, ds0, p0, q0, hargs, rfl, rfl, h0, r0⟩ := trodAll_cons hA
  obtain ⟨v1, vs1, d1, ds1, p1, q1, rfl, rfl, rfl, h1, r1⟩ := trodAll_cons r0
  obtain ⟨rfl, rfl, rfl⟩ := trodAll_nil r1
  obtain rfl : args = #[v0, v1] := by cases args; simp_all
  obtain ⟨rfl, rfl⟩ := trodVars_none hV
  obtain ⟨a0, rfl, rfl, rfl, w0⟩ := open_int Try.underlying2 (hval 0 2 v0 rfl rfl) h0
  obtain ⟨a1, rfl, rfl, rfl, w1⟩ := open_int Try.underlying2 (hval 1 2 v1 rfl rfl) h1
  clear hA0 hval0
  refine (walk W a0 w0 a1 w1).mono fun e W' ⟨he, hg⟩ => ?_
  subst he
  exact ⟨_, rfl, post_grown (pv := []) hW' hg (fun _ _ _ => (trodAll_cons_mk (shut_bool Try.underlying4 _) trodAll_mk0)) (trodAll_low laidOut hg _ _ _ _ hread hltp hAk) rfl rfl⟩

theorem over : Rows.fnExactBandSizesRow.holds Try.pinned (OpenSpec.ofChange Rows.fnExactBandSizesSpec) :=
  OpenClaim.holds_of_wide 9 Try.f9 rfl rfl rfl rfl rfl rfl rfl ⟨rfl, rfl, rfl, rfl, rfl⟩ rfl rfl rfl rfl rfl (by kernel_rfl) Try.func9 (by kernel_rfl)
    (of_decide_eq_true (by kernel_rfl)) (by unfold Func.isWrapper; first | (rw [if_pos (by decide +kernel)]; kernel_rfl) | (rw [if_neg (by decide +kernel)]; exact ⟨rfl, rfl⟩))
    (fun os started H enc _ => lifted os started H enc)

theorem proved : Rows.FnExactBandSizesSaid := over
end fnExactBandSizes
end Go.Proofs.Yteogogcjndfkoaa
