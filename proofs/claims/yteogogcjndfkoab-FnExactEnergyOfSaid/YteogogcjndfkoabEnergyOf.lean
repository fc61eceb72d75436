/-
  At any list, EnergyOf answers as its model does, and leaves the list as it was.
-/
import Derived.Test.YteogogcjndfkoabRows
import Derived.ProofKit
import Derived.OpenShut
import Derived.WalkLawsBesides
import Derived.KernelRfl
import Derived.Test.YteogogcjndfkoabEn
namespace Go.Proofs.Yteogogcjndfkoab
open Go.RowKit Fl
set_option linter.unusedVariables false
set_option maxRecDepth 100000 in
theorem fnExactEnergyOf.walk (w : World) (v0 : Value) (a0 : List Nat) (h0 : Rd w w.heap.size v0 (a0.map (.float .f32))) (w0 : ∀ x ∈ a0, x < 2 ^ 32) :
    Calls Try.prog 3 #[v0] w fun e w' => e = .returned (.bool true) ∧ Below w.heap.size w w' := by
  have hle := h0.le
  rw [show (a0.map (.float .f32)) = fl a0 from rfl, fl_len] at hle
  unfold maxLen at hle
  replace h0 : Rd w w.heap.size v0 (fl a0) := h0
  by_cases hbig : 1048576 < a0.length
  · obtain ⟨A, c, hv, _, _, _⟩ := h0
    rw [fl_len] at hv
    subst hv
    go_enter Try.func3, Try.ntmps3
    go_wp2_with fail
    go_ret
    exact ⟨rfl, Below.refl _ _⟩
  have hm : a0.length ≤ 1048576 := by omega
  obtain ⟨A0, c0, hv0, hc01, hc02, hcell0⟩ := id h0
  rw [fl_len] at hv0
  clear hcell0
  subst hv0
  have HX := Lib.hid w0
  clear w0
  go_enter Try.func3, Try.ntmps3
  go_wp2_with fail
  refine (toF_any _ a0 _ _ h0 (Nat.le_refl _) hm).mono ?_
  rintro e w1 ⟨g1, rfl, ho1, hb1⟩
  have hr1 := Rd.own ho1 (Nat.le_refl _) (by unfold maxLen; omega)
  have hz1 := Lib.hid hb1.size
  have hB1 := Lib.hid hb1
  clear ho1 hb1
  go_wp2_with fail
  refine (eoS_any _ a0 _ _ hr1 hm HX.out).mono ?_
  rintro e w2 ⟨s, n2, rfl, hs, rfl⟩
  go_wp2_with fail
  refine (toF_any _ a0 _ w.heap.size ((h0.below hB1.out).drewN n2) hz1.out hm).mono ?_
  rintro e w3 ⟨g3, rfl, ho3, hb3⟩
  have hr3 := Rd.own ho3 (Nat.le_refl _) (by unfold maxLen; omega)
  have hB3 := Lib.hid (show Below w.heap.size w w3 from (below_drawn hB1.out n2).trans (hb3.mono hz1.out))
  clear ho3 hb3 hr1
  go_wp2_with (first | (go_at_call 13; refine (eoI_any _ a0 _ _ hr3 hm HX.out).mono ?_; rintro e w4 ⟨g, n4, rfl, hg, rfl⟩) | (refine up_wide (by rw [Try.underlying23]; rfl) Try.underlying28 ?_; intro r n hr) | (go_at_call 14; refine (same_wi _ _ _ (by assumption) (by assumption) (hg.1.trans hs.1.symm)).mono ?_; rintro e w' ⟨rfl, n5, rfl⟩))
  refine (toF_any _ a0 _ w.heap.size ((h0.below hB3.out).drewN _) hB3.out.size hm).mono ?_
  rintro e w6 ⟨g6, rfl, ho6, hb6⟩
  have hr6 := Rd.own ho6 (Nat.le_refl _) (by unfold maxLen; omega)
  have hr36 := (hr3.drewN _).below hb6
  have hB6 := Lib.hid (show Below w.heap.size w w6 from (below_drawn hB3.out _).trans (hb6.mono hB3.out.size))
  have hz6 := hb6.size
  clear ho6 hb6 hr3
  go_wp2_with fail
  refine (eqF_any _ _ a0 a0 _ _ (hr36.more hz6) hr6 (Worth.refl _) hm).mono ?_
  rintro e w7 ⟨rfl, n7, rfl⟩
  go_wp2_with fail
  go_ret
  exact ⟨rfl, below_drawn hB6.out _⟩

namespace fnExactEnergyOf
open Go.ChangeShapes Go.WideShapes Go.ChangeAt Go.RowKit
open Go.ChangeMaps (open_string)
set_option linter.unusedVariables false
theorem own : ownKnob Try.prog.godebug = none := by kernel_rfl
theorem laidOut : laidOutB Try.prog = true := by kernel_rfl
set_option maxRecDepth 100000 in
theorem lifted (os : Os) (started : os.Started) (H : Type) (enc : TypeId × Value → H) :
    ReturnsInHanded {} Try.checked os 3 .any (Rows.fnExactEnergyOfSpec.pre6 enc Try.prog Try.f3 Rows.fnExactEnergyOfRow.domain false) (Rows.fnExactEnergyOfSpec.post enc Try.prog Try.f3 false true false false) := by
  refine returnsInHanded_of_change (C := Try.checked) own started (by kernel_rfl) Try.func3
    (ChangeSpec.witness6 (enc := enc) (C := Try.checked) false ⟨#[], #[.slice none 0 0], []⟩ 8 (by kernel_rfl) (by kernel_rfl) (by kernel_rfl) (by kernel_rfl)) ?_
  intro W base args ds gs before hval0 hW hcnd _
  have hval : ∀ (j : Nat) t v, Try.f3.params[j]? = some t → args[j]? = some v → Value.okWide Try.prog W .any base t v := hval0
  have hW' := hW
  have hlt0 := hW.lt
  obtain ⟨p, q, hA0, hV, rfl, hfz, hnd⟩ := hW
  have hA : DataW.TrodAll enc Try.prog W 0 (fun _ => true) true Try.f3.params.toList args.toList ds p := hA0
  have hAk := hA
  have hltp : ∀ x ∈ p, x.block < W.heap.size := fun x hx => hlt0 x (List.mem_append_left _ hx)
  have hread : ∀ t ∈ Try.f3.params.toList, Try.prog.readableRec t = true ∧ t < Try.prog.types.size := by
    rw [Try.params3]
    intro t ht
    simp only [List.mem_cons, List.not_mem_nil, or_false] at ht
    rcases ht with rfl <;> exact ⟨by kernel_rfl, of_decide_eq_true (by kernel_rfl)⟩
  rw [Try.params3] at hA hval
  obtain ⟨v0, vs0, d0, ds0, p0, q0, hargs, rfl, rfl, h0, r0⟩ := trodAll_cons hA
  obtain ⟨rfl, rfl, rfl⟩ := trodAll_nil r0
  obtain rfl : args = #[v0] := by cases args; simp_all
  obtain ⟨rfl, rfl⟩ := trodVars_none hV
  obtain ⟨a0, g0, w0⟩ := open_floats Try.underlying22 Try.underlying23 (by kernel_rfl) (hval 0 22 v0 rfl rfl) h0 (fun x hx => hltp x (by simp [hx]))
  clear hA0 hval0
  refine (walk W v0 a0 g0 w0).mono fun e W' ⟨he, hg⟩ => ?_
  subst he
  exact ⟨_, rfl, post_grown (pv := []) hW' hg (fun _ _ _ => (trodAll_cons_mk (shut_bool Try.underlying4 _) trodAll_mk0)) (trodAll_low laidOut hg _ _ _ _ hread hltp hAk) rfl rfl⟩

theorem over : Rows.fnExactEnergyOfRow.holds Try.pinned (OpenSpec.ofChange Rows.fnExactEnergyOfSpec) :=
  OpenClaim.holds_of_wide 3 Try.f3 rfl rfl rfl rfl rfl rfl rfl ⟨rfl, rfl, rfl, rfl, rfl⟩ rfl rfl rfl rfl rfl (by kernel_rfl) Try.func3 (by kernel_rfl)
    (of_decide_eq_true (by kernel_rfl)) (by unfold Func.isWrapper; first | (rw [if_pos (by decide +kernel)]; kernel_rfl) | (rw [if_neg (by decide +kernel)]; exact ⟨rfl, rfl⟩))
    (fun os started H enc _ => lifted os started H enc)

theorem proved : Rows.FnExactEnergyOfSaid := over
end fnExactEnergyOf
end Go.Proofs.Yteogogcjndfkoab
