/-
  At any list, BestBreak answers as its model does, and leaves the list as it was.
-/
import Derived.Test.YtpckljkhmaghmaaRows
import Derived.ProofKit
import Derived.OpenShut
import Derived.WalkLawsBesides
import Derived.KernelRfl
import Derived.Test.YtpckljkhmaghmaaBbo
import Derived.Test.YtpckljkhmaghmaaMkF
import Derived.Test.YtpckljkhmaghmaaTw
namespace Go.Proofs.Ytpckljkhmaghmaa
open Go.RowKit Fl
set_option linter.unusedVariables false
set_option maxRecDepth 100000 in
set_option maxHeartbeats 8000000 in
theorem fnExactBestBreak.walk (w : World) (v0 : Value) (a0 : List Nat) (h0 : Rd w w.heap.size v0 (a0.map (.float .f32))) (w0 : ∀ x ∈ a0, x < 2 ^ 32) :
    Calls Try.prog 14 #[v0] w fun e w' => e = .returned (.bool true) ∧ Below w.heap.size w w' := by
  have hle0 := h0.le
  rw [show (a0.map (.float .f32)) = fl a0 from rfl, fl_len] at hle0
  unfold maxLen at hle0
  replace h0 : Rd w w.heap.size v0 (fl a0) := h0
  obtain ⟨A0, c0, hv0, hc01, hc02, hcell0⟩ := id h0
  rw [fl_len] at hv0
  clear hcell0 hc01 hc02
  subst hv0
  have HX0 := Lib.hid w0
  clear w0
  by_cases hbig0 : 1048576 < a0.length
  · skip
    go_enter Try.func14, Try.ntmps14
    go_wp2_with fail
    go_ret
    exact ⟨rfl, Below.refl _ _⟩
  have hm0 : a0.length ≤ 1048576 := by omega
  clear hbig0
  obtain ⟨k, hke⟩ : ∃ x, x = bb1 a0 := ⟨_, rfl⟩
  obtain ⟨d, hde⟩ : ∃ x, x = bb2 a0 := ⟨_, rfl⟩
  obtain ⟨b, hbe⟩ : ∃ x, x = bbG a0 := ⟨_, rfl⟩
  have HS := Lib.hid (fun (w' : World) (u0 : Value) (hr0 : Rd w' w'.heap.size u0 (fl a0)) => (show Calls Try.prog 45 #[u0] w' (RetIB k d b w') by rw [hke, hde, hbe]; exact bbS_any u0 a0 w' hr0 hm0 HX0.out))
  have HI := Lib.hid (fun (w' : World) (u0 : Value) (hr0 : Rd w' w'.heap.size u0 (fl a0)) => (show Calls Try.prog 46 #[u0] w' (RetIB k d b w') by rw [hke, hde, hbe]; exact bbI_any u0 a0 w' hr0 hm0 HX0.out))
  clear hke hde hbe
  go_enter Try.func14, Try.ntmps14
  have F_a0_w : Rd w w.heap.size (.slice A0 a0.length c0) (fl a0) := h0
  have B_w : Below w.heap.size w w := Below.refl _ _
  clear h0
  go_wp2_with fail
  refine (toF_any _ a0 _ _ (F_a0_w.more B_w.size) (Nat.le_refl _) hm0).mono ?_
  rintro e w1 ⟨g1, rfl, P1, hb1⟩
  have O1 := Own.row P1
  clear P1
  have F_a0_w1 : Rd w1 w.heap.size (.slice A0 a0.length c0) (fl a0) := F_a0_w.below (hb1.mono B_w.size)
  have B_w1 : Below w.heap.size w w1 := B_w.trans (hb1.mono B_w.size)
  have S_rc0 : w.heap.size ≤ w.heap.size := B_w.size
  clear F_a0_w B_w
  have F_rc0_w1 : In w1 w.heap.size w1.heap.size (.slice (some ⟨g1, 0, none⟩) a0.length a0.length) (fl a0) := In.made O1
  have T_rc0_w1 : w1.heap.size ≤ w1.heap.size := Nat.le_refl _
  clear O1
  clear hb1
  go_wp2_with fail
  refine (HS.out _ _ F_rc0_w1.rd).mono ?_
  rintro e w2 ⟨r1, rfl, hr1, hb2⟩
  have F_a0_w2 : Rd w2 w.heap.size (.slice A0 a0.length c0) (fl a0) := F_a0_w1.below (hb2.mono B_w1.size)
  have F_rc0_w2 : In w2 w.heap.size w1.heap.size (.slice (some ⟨g1, 0, none⟩) a0.length a0.length) (fl a0) := F_rc0_w1.step hb2
  have T_rc0_w2 : w1.heap.size ≤ w2.heap.size := Nat.le_trans T_rc0_w1 hb2.size
  have B_w2 : Below w.heap.size w w2 := B_w1.trans (hb2.mono B_w1.size)
  clear F_a0_w1 F_rc0_w1 T_rc0_w1 B_w1
  clear hb2
  clear F_rc0_w2 T_rc0_w2
  go_wp2_with fail
  refine (toF_any _ a0 _ _ (F_a0_w2.more B_w2.size) (Nat.le_refl _) hm0).mono ?_
  rintro e w3 ⟨g3, rfl, P3, hb3⟩
  have O3 := Own.row P3
  clear P3
  have F_a0_w3 : Rd w3 w.heap.size (.slice A0 a0.length c0) (fl a0) := F_a0_w2.below (hb3.mono B_w2.size)
  have B_w3 : Below w.heap.size w w3 := B_w2.trans (hb3.mono B_w2.size)
  have S_gc0 : w.heap.size ≤ w2.heap.size := B_w2.size
  clear F_a0_w2 B_w2
  have F_gc0_w3 : In w3 w2.heap.size w3.heap.size (.slice (some ⟨g3, 0, none⟩) a0.length a0.length) (fl a0) := In.made O3
  have T_gc0_w3 : w3.heap.size ≤ w3.heap.size := Nat.le_refl _
  clear O3
  clear hb3
  go_wp2_with fail
  refine (HI.out _ _ F_gc0_w3.rd).mono ?_
  rintro e w4 ⟨g1, rfl, hg1, hb4⟩
  have F_a0_w4 : Rd w4 w.heap.size (.slice A0 a0.length c0) (fl a0) := F_a0_w3.below (hb4.mono B_w3.size)
  have F_gc0_w4 : In w4 w2.heap.size w3.heap.size (.slice (some ⟨g3, 0, none⟩) a0.length a0.length) (fl a0) := F_gc0_w3.step hb4
  have T_gc0_w4 : w3.heap.size ≤ w4.heap.size := Nat.le_trans T_gc0_w3 hb4.size
  have B_w4 : Below w.heap.size w w4 := B_w3.trans (hb4.mono B_w3.size)
  clear F_a0_w3 F_gc0_w3 T_gc0_w3 B_w3
  clear hb4
  go_wp2_with (refine up_wide (by rw [Try.underlying22]; rfl) Try.underlying26 ?_; intro r n hr)
  refine (same_wi _ _ _ (by assumption) (by assumption) (hg1.1.trans hr1.1.symm)).mono ?_
  rintro e w5 ⟨rfl, n5, hw5⟩
  have hb5 : Below w4.heap.size w4 w5 := by rw [hw5]; first | exact below_drawn (Below.refl _ _) _ | exact below_drawn (below_drawn (Below.refl _ _) _) _ | exact below_drawn (below_drawn (below_drawn (Below.refl _ _) _) _) _
  clear hw5
  have F_a0_w5 : Rd w5 w.heap.size (.slice A0 a0.length c0) (fl a0) := F_a0_w4.below (hb5.mono B_w4.size)
  have F_gc0_w5 : In w5 w2.heap.size w3.heap.size (.slice (some ⟨g3, 0, none⟩) a0.length a0.length) (fl a0) := F_gc0_w4.step hb5
  have T_gc0_w5 : w3.heap.size ≤ w5.heap.size := Nat.le_trans T_gc0_w4 hb5.size
  have B_w5 : Below w.heap.size w w5 := B_w4.trans (hb5.mono B_w4.size)
  clear F_a0_w4 F_gc0_w4 T_gc0_w4 B_w4
  clear hb5
  go_wp2_with fail
  refine (toF_any _ a0 _ _ (F_a0_w5.more B_w5.size) (Nat.le_refl _) hm0).mono ?_
  rintro e w6 ⟨g6, rfl, P6, hb6⟩
  have O6 := Own.row P6
  clear P6
  have F_a0_w6 : Rd w6 w.heap.size (.slice A0 a0.length c0) (fl a0) := F_a0_w5.below (hb6.mono B_w5.size)
  have F_gc0_w6 : In w6 w2.heap.size w3.heap.size (.slice (some ⟨g3, 0, none⟩) a0.length a0.length) (fl a0) := F_gc0_w5.step hb6
  have T_gc0_w6 : w3.heap.size ≤ w6.heap.size := Nat.le_trans T_gc0_w5 hb6.size
  have B_w6 : Below w.heap.size w w6 := B_w5.trans (hb6.mono B_w5.size)
  have S_d0 : w.heap.size ≤ w5.heap.size := B_w5.size
  have D_gc0_d0 : w3.heap.size ≤ w5.heap.size := T_gc0_w5
  clear F_a0_w5 F_gc0_w5 T_gc0_w5 B_w5
  have F_d0_w6 : In w6 w5.heap.size w6.heap.size (.slice (some ⟨g6, 0, none⟩) a0.length a0.length) (fl a0) := In.made O6
  have T_d0_w6 : w6.heap.size ≤ w6.heap.size := Nat.le_refl _
  clear O6
  clear hb6
  go_wp2_with fail
  refine (eqF_any _ _ a0 a0 _ _ F_gc0_w6.rd F_d0_w6.rd (Worth.refl _) hm0).mono ?_
  rintro e w7 ⟨rfl, q7, hw7⟩
  have hb7 : Below w6.heap.size w6 w7 := by rw [hw7]; exact below_drawn (Below.refl _ _) _
  clear hw7
  have F_a0_w7 : Rd w7 w.heap.size (.slice A0 a0.length c0) (fl a0) := F_a0_w6.below (hb7.mono B_w6.size)
  have F_gc0_w7 : In w7 w2.heap.size w3.heap.size (.slice (some ⟨g3, 0, none⟩) a0.length a0.length) (fl a0) := F_gc0_w6.step hb7
  have T_gc0_w7 : w3.heap.size ≤ w7.heap.size := Nat.le_trans T_gc0_w6 hb7.size
  have F_d0_w7 : In w7 w5.heap.size w6.heap.size (.slice (some ⟨g6, 0, none⟩) a0.length a0.length) (fl a0) := F_d0_w6.step hb7
  have T_d0_w7 : w6.heap.size ≤ w7.heap.size := Nat.le_trans T_d0_w6 hb7.size
  have B_w7 : Below w.heap.size w w7 := B_w6.trans (hb7.mono B_w6.size)
  clear F_a0_w6 F_gc0_w6 T_gc0_w6 F_d0_w6 T_d0_w6 B_w6
  clear hb7
  clear F_d0_w7 T_d0_w7
  go_wp2_with fail
  go_ret
  exact ⟨rfl, B_w7⟩

namespace fnExactBestBreak
open Go.ChangeShapes Go.WideShapes Go.ChangeAt Go.RowKit
open Go.ChangeMaps (open_string)
set_option linter.unusedVariables false
theorem own : ownKnob Try.prog.godebug = none := by kernel_rfl
theorem laidOut : laidOutB Try.prog = true := by kernel_rfl
set_option maxRecDepth 100000 in
theorem lifted (os : Os) (started : os.Started) (H : Type) (enc : TypeId × Value → H) :
    ReturnsInHanded {} Try.checked os 14 .any (Rows.fnExactBestBreakSpec.pre6 enc Try.prog Try.f14 Rows.fnExactBestBreakRow.domain false) (Rows.fnExactBestBreakSpec.post enc Try.prog Try.f14 false true false false) := by
  refine returnsInHanded_of_change (C := Try.checked) own started (by kernel_rfl) Try.func14
    (ChangeSpec.witness6 (enc := enc) (C := Try.checked) false ⟨#[], #[.slice none 0 0], []⟩ 8 (by kernel_rfl) (by kernel_rfl) (by kernel_rfl) (by kernel_rfl)) ?_
  intro W base args ds gs before hval0 hW hcnd _
  have hval : ∀ (j : Nat) t v, Try.f14.params[j]? = some t → args[j]? = some v → Value.okWide Try.prog W .any base t v := hval0
  have hW' := hW
  have hlt0 := hW.lt
  obtain ⟨p, q, hA0, hV, rfl, hfz, hnd⟩ := hW
  have hA : DataW.TrodAll enc Try.prog W 0 (fun _ => true) true Try.f14.params.toList args.toList ds p := hA0
  have hAk := hA
  have hltp : ∀ x ∈ p, x.block < W.heap.size := fun x hx => hlt0 x (List.mem_append_left _ hx)
  have hread : ∀ t ∈ Try.f14.params.toList, Try.prog.readableRec t = true ∧ t < Try.prog.types.size := by
    rw [Try.params14]
    intro t ht
    simp only [List.mem_cons, List.not_mem_nil, or_false] at ht
    rcases ht with rfl <;> exact ⟨by kernel_rfl, of_decide_eq_true (by kernel_rfl)⟩
  rw [Try.params14] at hA hval
  obtain ⟨v0, vs0, d0, ds0, p0, q0, hargs, rfl, rfl, h0, r0⟩ := trodAll_cons hA
  obtain ⟨rfl, rfl, rfl⟩ := trodAll_nil r0
  obtain rfl : args = #[v0] := by cases args; simp_all
  obtain ⟨rfl, rfl⟩ := trodVars_none hV
  obtain ⟨a0, g0, w0⟩ := open_floats Try.underlying28 Try.underlying22 (by kernel_rfl) (hval 0 28 v0 rfl rfl) h0 (fun x hx => hltp x (by simp [hx]))
  clear hA0 hval0
  refine (walk W v0 a0 g0 w0).mono fun e W' ⟨he, hg⟩ => ?_
  subst he
  exact ⟨_, rfl, post_grown (pv := []) hW' hg (fun _ _ _ => (trodAll_cons_mk (shut_bool Try.underlying4 _) trodAll_mk0)) (trodAll_low laidOut hg _ _ _ _ hread hltp hAk) rfl rfl⟩

theorem over : Rows.fnExactBestBreakRow.holds Try.pinned (OpenSpec.ofChange Rows.fnExactBestBreakSpec) :=
  OpenClaim.holds_of_wide 14 Try.f14 rfl rfl rfl rfl rfl rfl rfl ⟨rfl, rfl, rfl, rfl, rfl⟩ rfl rfl rfl rfl rfl (by kernel_rfl) Try.func14 (by kernel_rfl)
    (of_decide_eq_true (by kernel_rfl)) (by unfold Func.isWrapper; first | (rw [if_pos (by decide +kernel)]; kernel_rfl) | (rw [if_neg (by decide +kernel)]; exact ⟨rfl, rfl⟩))
    (fun os started H enc _ => lifted os started H enc)

theorem proved : Rows.FnExactBestBreakSaid := over
end fnExactBestBreak
end Go.Proofs.Ytpckljkhmaghmaa
