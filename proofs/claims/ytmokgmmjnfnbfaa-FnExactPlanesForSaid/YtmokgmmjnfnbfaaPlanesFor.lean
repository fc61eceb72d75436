/-
  At any list of integers, PlanesFor answers as its model does, and leaves the list as it was.
-/
import Derived.Test.YtmokgmmjnfnbfaaRows
import Derived.ProofKit
import Derived.OpenShut
import Derived.WalkLawsBesides
import Derived.KernelRfl
import Derived.Test.YtmokgmmjnfnbfaaPfS
import Derived.Test.YtmokgmmjnfnbfaaPfI
import Derived.Test.YtmokgmmjnfnbfaaMkF
import Derived.Test.YtmokgmmjnfnbfaaTw
import Derived.Test.YtmokgmmjnfnbfaaBls
namespace Go.Proofs.Ytmokgmmjnfnbfaa
open Go.RowKit Fl
set_option linter.unusedVariables false
set_option maxRecDepth 100000 in
set_option maxHeartbeats 8000000 in
theorem fnExactPlanesFor.walk (w : World) (v0 : Value) (a0 : List Int) (h0 : Rd w w.heap.size v0 (il a0)) (w0 : ∀ x ∈ a0, (Lit.int .i64 x).wf = true) :
    Calls Try.prog 3 #[v0] w fun e w' => e = .returned (.bool true) ∧ Below w.heap.size w w' := by
  have hle0 := h0.le
  rw [il_len] at hle0
  unfold maxLen at hle0
  obtain ⟨A0, c0, hv0, hc01, hc02, hcell0⟩ := id h0
  rw [il_len] at hv0
  clear hcell0 hc01 hc02
  subst hv0
  have HX0 := Lib.hid w0
  clear w0
  by_cases hbig0 : 1048576 < a0.length
  · go_enter Try.func3, Try.ntmps3
    go_wp2_with fail
    go_ret
    exact ⟨rfl, Below.refl _ _⟩
  have hm0 : a0.length ≤ 1048576 := by omega
  clear hbig0
  obtain ⟨z, hze⟩ : ∃ x, x = pfV a0 := ⟨_, rfl⟩
  obtain ⟨b, hbe⟩ : ∃ x, x = areB a0 := ⟨_, rfl⟩
  have HS := Lib.hid (fun (w' : World) (u0 : Value) (hr0 : Rd w' w'.heap.size u0 (il a0)) => (show Calls Try.prog 15 #[u0] w' (RetV (.tuple #[.int .i64 z, .bool b]) w') by rw [hze, hbe]; exact (pfS_any u0 a0 w' hr0 hm0)))
  have HI := Lib.hid (fun (w' : World) (u0 : Value) (hr0 : Rd w' w'.heap.size u0 (il a0)) => (show Calls Try.prog 17 #[u0] w' (RetV (.tuple #[.int .i64 z, .bool b]) w') by rw [hze, hbe]; exact (pfI_any u0 a0 w' hr0 hm0)))
  clear hze hbe
  go_enter Try.func3, Try.ntmps3
  have F_a0_w : Rd w w.heap.size (.slice A0 a0.length c0) (il a0) := h0
  have B_w : Below w.heap.size w w := Below.refl _ _
  clear h0
  go_wp2_with fail
  refine (toI_any _ a0 _ _ (F_a0_w.more B_w.size) (Nat.le_refl _) hm0).mono ?_
  rintro e w1 ⟨g1, rfl, P1, hb1⟩
  have O1 := P1
  clear P1
  have F_a0_w1 : Rd w1 w.heap.size (.slice A0 a0.length c0) (il a0) := F_a0_w.below (hb1.mono B_w.size)
  have B_w1 : Below w.heap.size w w1 := B_w.trans (hb1.mono B_w.size)
  have S_c0 : w.heap.size ≤ w.heap.size := B_w.size
  clear F_a0_w B_w
  have F_c0_w1 : In w1 w.heap.size w1.heap.size (.slice (some ⟨g1, 0, none⟩) a0.length a0.length) (il a0) := In.made O1
  have T_c0_w1 : w1.heap.size ≤ w1.heap.size := Nat.le_refl _
  clear O1
  clear hb1
  go_wp2_with fail
  refine (HS.out _ _ F_c0_w1.rd).mono ?_
  rintro e w2 ⟨rfl, hb2⟩
  have F_a0_w2 : Rd w2 w.heap.size (.slice A0 a0.length c0) (il a0) := F_a0_w1.below (hb2.mono B_w1.size)
  have F_c0_w2 : In w2 w.heap.size w1.heap.size (.slice (some ⟨g1, 0, none⟩) a0.length a0.length) (il a0) := F_c0_w1.step hb2
  have T_c0_w2 : w1.heap.size ≤ w2.heap.size := Nat.le_trans T_c0_w1 hb2.size
  have B_w2 : Below w.heap.size w w2 := B_w1.trans (hb2.mono B_w1.size)
  clear F_a0_w1 F_c0_w1 T_c0_w1 B_w1
  clear hb2
  clear F_c0_w2 T_c0_w2
  go_wp2_with fail
  refine (toI_any _ a0 _ _ (F_a0_w2.more B_w2.size) (Nat.le_refl _) hm0).mono ?_
  rintro e w3 ⟨g3, rfl, P3, hb3⟩
  have O3 := P3
  clear P3
  have F_a0_w3 : Rd w3 w.heap.size (.slice A0 a0.length c0) (il a0) := F_a0_w2.below (hb3.mono B_w2.size)
  have B_w3 : Below w.heap.size w w3 := B_w2.trans (hb3.mono B_w2.size)
  have S_x0 : w.heap.size ≤ w2.heap.size := B_w2.size
  clear F_a0_w2 B_w2
  have F_x0_w3 : In w3 w2.heap.size w3.heap.size (.slice (some ⟨g3, 0, none⟩) a0.length a0.length) (il a0) := In.made O3
  have T_x0_w3 : w3.heap.size ≤ w3.heap.size := Nat.le_refl _
  clear O3
  clear hb3
  go_wp2_with fail
  refine (HI.out _ _ F_x0_w3.rd).mono ?_
  rintro e w4 ⟨rfl, hb4⟩
  have F_a0_w4 : Rd w4 w.heap.size (.slice A0 a0.length c0) (il a0) := F_a0_w3.below (hb4.mono B_w3.size)
  have F_x0_w4 : In w4 w2.heap.size w3.heap.size (.slice (some ⟨g3, 0, none⟩) a0.length a0.length) (il a0) := F_x0_w3.step hb4
  have T_x0_w4 : w3.heap.size ≤ w4.heap.size := Nat.le_trans T_x0_w3 hb4.size
  have B_w4 : Below w.heap.size w w4 := B_w3.trans (hb4.mono B_w3.size)
  clear F_a0_w3 F_x0_w3 T_x0_w3 B_w3
  clear hb4
  go_wp2_with fail
  refine (toI_any _ a0 _ _ (F_a0_w4.more B_w4.size) (Nat.le_refl _) hm0).mono ?_
  rintro e w5 ⟨g5, rfl, P5, hb5⟩
  have O5 := P5
  clear P5
  have F_a0_w5 : Rd w5 w.heap.size (.slice A0 a0.length c0) (il a0) := F_a0_w4.below (hb5.mono B_w4.size)
  have F_x0_w5 : In w5 w2.heap.size w3.heap.size (.slice (some ⟨g3, 0, none⟩) a0.length a0.length) (il a0) := F_x0_w4.step hb5
  have T_x0_w5 : w3.heap.size ≤ w5.heap.size := Nat.le_trans T_x0_w4 hb5.size
  have B_w5 : Below w.heap.size w w5 := B_w4.trans (hb5.mono B_w4.size)
  have S_d0 : w.heap.size ≤ w4.heap.size := B_w4.size
  have D_x0_d0 : w3.heap.size ≤ w4.heap.size := T_x0_w4
  clear F_a0_w4 F_x0_w4 T_x0_w4 B_w4
  have F_d0_w5 : In w5 w4.heap.size w5.heap.size (.slice (some ⟨g5, 0, none⟩) a0.length a0.length) (il a0) := In.made O5
  have T_d0_w5 : w5.heap.size ≤ w5.heap.size := Nat.le_refl _
  clear O5
  clear hb5
  go_wp2_with fail
  refine (eqI_any _ _ a0 _ _ _ F_x0_w5.rd F_d0_w5.rd hm0).mono ?_
  rintro e w6 ⟨rfl, q6, hw6⟩
  have hb6 : Below w5.heap.size w5 w6 := by rw [hw6]; exact below_drawn (Below.refl _ _) _
  clear hw6
  have F_a0_w6 : Rd w6 w.heap.size (.slice A0 a0.length c0) (il a0) := F_a0_w5.below (hb6.mono B_w5.size)
  have F_x0_w6 : In w6 w2.heap.size w3.heap.size (.slice (some ⟨g3, 0, none⟩) a0.length a0.length) (il a0) := F_x0_w5.step hb6
  have T_x0_w6 : w3.heap.size ≤ w6.heap.size := Nat.le_trans T_x0_w5 hb6.size
  have F_d0_w6 : In w6 w4.heap.size w5.heap.size (.slice (some ⟨g5, 0, none⟩) a0.length a0.length) (il a0) := F_d0_w5.step hb6
  have T_d0_w6 : w5.heap.size ≤ w6.heap.size := Nat.le_trans T_d0_w5 hb6.size
  have B_w6 : Below w.heap.size w w6 := B_w5.trans (hb6.mono B_w5.size)
  clear F_a0_w5 F_x0_w5 T_x0_w5 F_d0_w5 T_d0_w5 B_w5
  clear hb6
  clear F_d0_w6 T_d0_w6
  go_wp2_with fail
  go_ret
  exact ⟨rfl, B_w6⟩

namespace fnExactPlanesFor
open Go.ChangeShapes Go.WideShapes Go.ChangeAt Go.RowKit
open Go.ChangeMaps (open_string)
set_option linter.unusedVariables false
theorem own : ownKnob Try.prog.godebug = none := by kernel_rfl
theorem laidOut : laidOutB Try.prog = true := by kernel_rfl
set_option maxRecDepth 100000 in
theorem lifted (os : Os) (started : os.Started) (H : Type) (enc : TypeId × Value → H) :
    ReturnsInHanded {} Try.checked os 3 .any (Rows.fnExactPlanesForSpec.pre6 enc Try.prog Try.f3 Rows.fnExactPlanesForRow.domain false) (Rows.fnExactPlanesForSpec.post enc Try.prog Try.f3 false true false false) := by
  refine returnsInHanded_of_change (C := Try.checked) own started (by kernel_rfl) Try.func3
    (ChangeSpec.witness6 (enc := enc) (C := Try.checked) false ⟨#[], #[.slice none 0 0], []⟩ 8 (by kernel_rfl) (by kernel_rfl) (by kernel_rfl) (by kernel_rfl)) ?_
  intro W base args ds gs before hval0 hW hcnd _
  have hval : ∀ (j : Nat) t v, Try.f3.params[j]? = some t → args[j]? = some v → Value.okWide Try.prog W .any base t v := hval0
  have hW' := hW
  have hlt0 := hW.lt
  obtain ⟨p, q, hA0, hV, rfl, hfz, hnd⟩ := hW
  have hA : DataW.TrodAll enc Try.prog W 0 (fun _ => true) true Try.f3.params.toList args.toList ds p := hA0
  have hAk := hA
  have hltp : ∀ x ∈ p, x.block < W.heap.size := fun x hx => hlt0 x (List.mem_append_left _ hx)
  have hread : ∀ t ∈ Try.f3.params.toList, Try.prog.readableRec t = true ∧ t < Try.prog.types.size := by
    rw [Try.params3]
    intro t ht
    simp only [List.mem_cons, List.not_mem_nil, or_false] at ht
    rcases ht with rfl <;> exact ⟨by kernel_rfl, of_decide_eq_true (by kernel_rfl)⟩
  rw [Try.params3] at hA hval
  obtain ⟨v0, vs0, d0, ds0, p0, q0, hargs, rfl, rfl, h0, r0⟩ := trodAll_cons hA
  obtain ⟨rfl, rfl, rfl⟩ := trodAll_nil r0
  obtain rfl : args = #[v0] := by cases args; simp_all
  obtain ⟨rfl, rfl⟩ := trodVars_none hV
  obtain ⟨a0, g0, w0⟩ := open_i64s Try.underlying22 Try.underlying2 (by kernel_rfl) (hval 0 22 v0 rfl rfl) h0 (fun x hx => hltp x (by simp [hx]))
  clear hA0 hval0
  refine (walk W v0 a0 g0 w0).mono fun e W' ⟨he, hg⟩ => ?_
  subst he
  exact ⟨_, rfl, post_grown (pv := []) hW' hg (fun _ _ _ => (trodAll_cons_mk (shut_bool Try.underlying4 _) trodAll_mk0)) (trodAll_low laidOut hg _ _ _ _ hread hltp hAk) rfl rfl⟩

theorem over : Rows.fnExactPlanesForRow.holds Try.pinned (OpenSpec.ofChange Rows.fnExactPlanesForSpec) :=
  OpenClaim.holds_of_wide 3 Try.f3 rfl rfl rfl rfl rfl rfl rfl ⟨rfl, rfl, rfl, rfl, rfl⟩ rfl rfl rfl rfl rfl (by kernel_rfl) Try.func3 (by kernel_rfl)
    (of_decide_eq_true (by kernel_rfl)) (by unfold Func.isWrapper; first | (rw [if_pos (by decide +kernel)]; kernel_rfl) | (rw [if_neg (by decide +kernel)]; exact ⟨rfl, rfl⟩))
    (fun os started H enc _ => lifted os started H enc)

theorem proved : Rows.FnExactPlanesForSaid := over
end fnExactPlanesFor
end Go.Proofs.Ytmokgmmjnfnbfaa
