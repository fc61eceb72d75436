/-
  At any text, ReadBits answers as its model does, in memory of its own.
-/
import Derived.Test.YtmokgmmjnfnbfaaRows
import Derived.ProofKit
import Derived.OpenShut
import Derived.WalkLawsBesides
import Derived.KernelRfl
import Derived.Test.YtmokgmmjnfnbfaaRb
import Derived.Test.YtmokgmmjnfnbfaaMkF
import Derived.Test.YtmokgmmjnfnbfaaTw
import Derived.Test.YtmokgmmjnfnbfaaBls
namespace Go.Proofs.Ytmokgmmjnfnbfaa
open Go.RowKit Fl
set_option linter.unusedVariables false
set_option maxRecDepth 100000 in
set_option maxHeartbeats 8000000 in
theorem fnExactReadBits.walk (w : World) (a0 : ByteArray) (w0 : a0.size ≤ maxLen) :
    Calls Try.prog 9 #[.string a0] w fun e w' => e = .returned (.bool true) ∧ Below w.heap.size w w' := by
  by_cases hbig0 : 1048576 < a0.size
  · unfold maxLen at w0
    go_enter Try.func9, Try.ntmps9
    go_wp2_with fail
    go_ret
    exact ⟨rfl, Below.refl _ _⟩
  have hm0 : a0.size ≤ 1048576 := by omega
  clear hbig0
  obtain ⟨L0, hL0e⟩ : ∃ L, L = rbV a0 := ⟨_, rfl⟩
  have hL0 : L0.length ≤ 1048576 := by rw [hL0e]; exact rbV_len _
  obtain ⟨b, hbe⟩ : ∃ x, x = rbG a0 := ⟨_, rfl⟩
  have HS := Lib.hid (fun (w' : World)   => (show Calls Try.prog 40 #[.string a0] w' (RetBl L0 b w') by rw [hL0e, hbe]; exact (rdoS_any a0 w' w0)))
  have HI := Lib.hid (fun (w' : World)   => (show Calls Try.prog 41 #[.string a0] w' (RetBl L0 b w') by rw [hL0e, hbe]; exact (rdoI_any a0 w' w0)))
  clear hL0e hbe
  go_enter Try.func9, Try.ntmps9
  have B_w : Below w.heap.size w w := Below.refl _ _
  go_wp2_with fail
  refine (HS.out _  ).mono ?_
  rintro e w1 ⟨r0, rfl, O1x0, hb1⟩
  have B_w1 : Below w.heap.size w w1 := B_w.trans (hb1.mono B_w.size)
  have S_r0 : w.heap.size ≤ w.heap.size := B_w.size
  clear B_w
  have F_r0_w1 : In w1 w.heap.size w1.heap.size r0 (bl L0) := In.made O1x0
  have T_r0_w1 : w1.heap.size ≤ w1.heap.size := Nat.le_refl _
  clear O1x0
  clear hb1
  go_wp2_with fail
  refine (HI.out _  ).mono ?_
  rintro e w2 ⟨g0, rfl, O2x0, hb2⟩
  have F_r0_w2 : In w2 w.heap.size w1.heap.size r0 (bl L0) := F_r0_w1.step hb2
  have T_r0_w2 : w1.heap.size ≤ w2.heap.size := Nat.le_trans T_r0_w1 hb2.size
  have B_w2 : Below w.heap.size w w2 := B_w1.trans (hb2.mono B_w1.size)
  have S_g0 : w.heap.size ≤ w1.heap.size := B_w1.size
  have D_r0_g0 : w1.heap.size ≤ w1.heap.size := T_r0_w1
  clear F_r0_w1 T_r0_w1 B_w1
  have F_g0_w2 : In w2 w1.heap.size w2.heap.size g0 (bl L0) := In.made O2x0
  have T_g0_w2 : w2.heap.size ≤ w2.heap.size := Nat.le_refl _
  clear O2x0
  clear hb2
  go_wp2_with fail
  refine (eqB_any _ _ L0 _ _ _ F_g0_w2.rd F_r0_w2.rd hL0).mono ?_
  rintro e w3 ⟨rfl, q3, hw3⟩
  have hb3 : Below w2.heap.size w2 w3 := by rw [hw3]; exact below_drawn (Below.refl _ _) _
  clear hw3
  have F_r0_w3 : In w3 w.heap.size w1.heap.size r0 (bl L0) := F_r0_w2.step hb3
  have T_r0_w3 : w1.heap.size ≤ w3.heap.size := Nat.le_trans T_r0_w2 hb3.size
  have F_g0_w3 : In w3 w1.heap.size w2.heap.size g0 (bl L0) := F_g0_w2.step hb3
  have T_g0_w3 : w2.heap.size ≤ w3.heap.size := Nat.le_trans T_g0_w2 hb3.size
  have B_w3 : Below w.heap.size w w3 := B_w2.trans (hb3.mono B_w2.size)
  clear F_r0_w2 T_r0_w2 F_g0_w2 T_g0_w2 B_w2
  clear hb3
  go_wp2_with fail
  refine (markB_any _ L0 _ _ _ F_g0_w3.1 hL0 (by omega) (by omega)).mono ?_
  rintro e w4 ⟨rfl, hw4⟩
  have ht4 : Tw w1.heap.size w2.heap.size w3 w4 := by rw [hw4]; exact over_tw F_g0_w3.1 F_g0_w3.2 _
  have NF4 : In w4 w1.heap.size w2.heap.size g0 ((List.range L0.length).map (mkB (1))) := by rw [hw4]; have := F_g0_w3.over (mkB (1)); rw [bl_len] at this; exact this
  clear hw4
  have F_r0_w4 : In w4 w.heap.size w1.heap.size r0 (bl L0) := F_r0_w3.tw ht4 (.inl D_r0_g0)
  have T_r0_w4 : w1.heap.size ≤ w4.heap.size := Nat.le_trans T_r0_w3 ht4.size
  have F_g0_w4 : In w4 w1.heap.size w2.heap.size g0 ((List.range L0.length).map (mkB (1))) := NF4
  have T_g0_w4 : w2.heap.size ≤ w4.heap.size := Nat.le_trans T_g0_w3 ht4.size
  have B_w4 : Below w.heap.size w w4 := B_w3.trans (ht4.below S_g0 B_w3.size)
  clear F_r0_w3 T_r0_w3 F_g0_w3 T_g0_w3 B_w3
  clear ht4 NF4
  go_wp2_with fail
  refine (heldB_any _ L0.length _ _ _ F_g0_w4.rd hL0 (by omega) (by omega)).mono ?_
  rintro e w' ⟨rfl, rfl⟩
  go_wp2_with fail
  refine (HI.out _  ).mono ?_
  rintro e w5 ⟨h0, rfl, O5x0, hb5⟩
  have F_r0_w5 : In w5 w.heap.size w1.heap.size r0 (bl L0) := F_r0_w4.step hb5
  have T_r0_w5 : w1.heap.size ≤ w5.heap.size := Nat.le_trans T_r0_w4 hb5.size
  have F_g0_w5 : In w5 w1.heap.size w2.heap.size g0 ((List.range L0.length).map (mkB (1))) := F_g0_w4.step hb5
  have T_g0_w5 : w2.heap.size ≤ w5.heap.size := Nat.le_trans T_g0_w4 hb5.size
  have B_w5 : Below w.heap.size w w5 := B_w4.trans (hb5.mono B_w4.size)
  have S_h0 : w.heap.size ≤ w4.heap.size := B_w4.size
  have D_r0_h0 : w1.heap.size ≤ w4.heap.size := T_r0_w4
  have D_g0_h0 : w2.heap.size ≤ w4.heap.size := T_g0_w4
  clear F_r0_w4 T_r0_w4 F_g0_w4 T_g0_w4 B_w4
  have F_h0_w5 : In w5 w4.heap.size w5.heap.size h0 (bl L0) := In.made O5x0
  have T_h0_w5 : w5.heap.size ≤ w5.heap.size := Nat.le_refl _
  clear O5x0
  clear hb5
  go_wp2_with fail
  refine (eqB_any _ _ L0 _ _ _ F_h0_w5.rd F_r0_w5.rd hL0).mono ?_
  rintro e w6 ⟨rfl, q6, hw6⟩
  have hb6 : Below w5.heap.size w5 w6 := by rw [hw6]; exact below_drawn (Below.refl _ _) _
  clear hw6
  have F_r0_w6 : In w6 w.heap.size w1.heap.size r0 (bl L0) := F_r0_w5.step hb6
  have T_r0_w6 : w1.heap.size ≤ w6.heap.size := Nat.le_trans T_r0_w5 hb6.size
  have F_g0_w6 : In w6 w1.heap.size w2.heap.size g0 ((List.range L0.length).map (mkB (1))) := F_g0_w5.step hb6
  have T_g0_w6 : w2.heap.size ≤ w6.heap.size := Nat.le_trans T_g0_w5 hb6.size
  have F_h0_w6 : In w6 w4.heap.size w5.heap.size h0 (bl L0) := F_h0_w5.step hb6
  have T_h0_w6 : w5.heap.size ≤ w6.heap.size := Nat.le_trans T_h0_w5 hb6.size
  have B_w6 : Below w.heap.size w w6 := B_w5.trans (hb6.mono B_w5.size)
  clear F_r0_w5 T_r0_w5 F_g0_w5 T_g0_w5 F_h0_w5 T_h0_w5 B_w5
  clear hb6
  go_wp2_with fail
  refine (heldB_any _ L0.length _ _ _ F_g0_w6.rd hL0 (by omega) (by omega)).mono ?_
  rintro e w' ⟨rfl, rfl⟩
  go_wp2_with fail
  go_ret
  exact ⟨rfl, B_w6⟩

namespace fnExactReadBits
open Go.ChangeShapes Go.WideShapes Go.ChangeAt Go.RowKit
open Go.ChangeMaps (open_string)
set_option linter.unusedVariables false
theorem own : ownKnob Try.prog.godebug = none := by kernel_rfl
theorem laidOut : laidOutB Try.prog = true := by kernel_rfl
set_option maxRecDepth 100000 in
theorem lifted (os : Os) (started : os.Started) (H : Type) (enc : TypeId × Value → H) :
    ReturnsInHanded {} Try.checked os 9 .any (Rows.fnExactReadBitsSpec.pre6 enc Try.prog Try.f9 Rows.fnExactReadBitsRow.domain false) (Rows.fnExactReadBitsSpec.post enc Try.prog Try.f9 false true false false) := by
  refine returnsInHanded_of_change (C := Try.checked) own started (by kernel_rfl) Try.func9
    (ChangeSpec.witness6 (enc := enc) (C := Try.checked) false ⟨#[], #[.string ⟨#[]⟩], []⟩ 8 (by kernel_rfl) (by kernel_rfl) (by kernel_rfl) (by kernel_rfl)) ?_
  intro W base args ds gs before hval0 hW hcnd _
  have hval : ∀ (j : Nat) t v, Try.f9.params[j]? = some t → args[j]? = some v → Value.okWide Try.prog W .any base t v := hval0
  have hW' := hW
  have hlt0 := hW.lt
  obtain ⟨p, q, hA0, hV, rfl, hfz, hnd⟩ := hW
  have hA : DataW.TrodAll enc Try.prog W 0 (fun _ => true) true Try.f9.params.toList args.toList ds p := hA0
  have hAk := hA
  have hltp : ∀ x ∈ p, x.block < W.heap.size := fun x hx => hlt0 x (List.mem_append_left _ hx)
  have hread : ∀ t ∈ Try.f9.params.toList, Try.prog.readableRec t = true ∧ t < Try.prog.types.size := by
    rw [Try.params9]
    intro t ht
    simp only [List.mem_cons, List.not_mem_nil, or_false] at ht
    rcases ht with rfl <;> exact ⟨by kernel_rfl, of_decide_eq_true (by kernel_rfl)⟩
  rw [Try.params9] at hA hval
  obtain ⟨v0, vs0, d0, ds0, p0, q0, hargs, rfl, rfl, h0, r0⟩ := trodAll_cons hA
  obtain ⟨rfl, rfl, rfl⟩ := trodAll_nil r0
  obtain rfl : args = #[v0] := by cases args; simp_all
  obtain ⟨rfl, rfl⟩ := trodVars_none hV
  obtain ⟨a0, rfl, rfl, rfl, w0⟩ := open_string Try.underlying9 (hval 0 9 v0 rfl rfl) h0
  clear hA0 hval0
  refine (walk W a0 w0).mono fun e W' ⟨he, hg⟩ => ?_
  subst he
  exact ⟨_, rfl, post_grown (pv := []) hW' hg (fun _ _ _ => (trodAll_cons_mk (shut_bool Try.underlying4 _) trodAll_mk0)) (trodAll_low laidOut hg _ _ _ _ hread hltp hAk) rfl rfl⟩

theorem over : Rows.fnExactReadBitsRow.holds Try.pinned (OpenSpec.ofChange Rows.fnExactReadBitsSpec) :=
  OpenClaim.holds_of_wide 9 Try.f9 rfl rfl rfl rfl rfl rfl rfl ⟨rfl, rfl, rfl, rfl, rfl⟩ rfl rfl rfl rfl rfl (by kernel_rfl) Try.func9 (by kernel_rfl)
    (of_decide_eq_true (by kernel_rfl)) (by unfold Func.isWrapper; first | (rw [if_pos (by decide +kernel)]; kernel_rfl) | (rw [if_neg (by decide +kernel)]; exact ⟨rfl, rfl⟩))
    (fun os started H enc _ => lifted os started H enc)

theorem proved : Rows.FnExactReadBitsSaid := over
end fnExactReadBits
end Go.Proofs.Ytmokgmmjnfnbfaa
