/-
  At any two lists, DotNumbers answers as its model does, and leaves both lists as they were.
-/
import Derived.Test.YtcncobafpifimacRows
import Derived.ProofKit
import Derived.OpenShut
import Derived.WalkLawsBesides
import Derived.KernelRfl
import Derived.Test.YtcncobafpifimacDot
namespace Go.Proofs.Ytcncobafpifimac
open Go.RowKit Fl
set_option linter.unusedVariables false
theorem fnExactDotNumbers.walk (w : World) (v0 : Value) (a0 : List Nat) (h0 : Rd w w.heap.size v0 (a0.map (.float .f32))) (w0 : ∀ x ∈ a0, x < 2 ^ 32) (v1 : Value) (a1 : List Nat) (h1 : Rd w w.heap.size v1 (a1.map (.float .f32))) (w1 : ∀ x ∈ a1, x < 2 ^ 32) :
    Calls Try.prog 4 #[v0, v1] w fun e w' => e = .returned (.bool true) ∧ Below w.heap.size w w' := by
  have hle := h0.le
  have hle' := h1.le
  rw [show (a0.map (.float .f32)) = fl a0 from rfl, fl_len] at hle
  rw [show (a1.map (.float .f32)) = fl a1 from rfl, fl_len] at hle'
  unfold maxLen at hle hle'
  replace h0 : Rd w w.heap.size v0 (fl a0) := h0
  replace h1 : Rd w w.heap.size v1 (fl a1) := h1
  obtain ⟨A0, c0, hv0, q1, q2, q3⟩ := id h0
  obtain ⟨A1, c1, hv1, q4, q5, q6⟩ := id h1
  clear q1 q2 q3 q4 q5 q6
  rw [fl_len] at hv0 hv1
  subst hv0 hv1
  by_cases hbig : 1048576 < a0.length
  · go_enter Try.func4, Try.ntmps4
    go_wp2_with fail
    go_ret
    exact ⟨rfl, Below.refl _ _⟩
  have hm : a0.length ≤ 1048576 := by omega
  by_cases hbig' : 1048576 < a1.length
  · clear hbig
    go_enter Try.func4, Try.ntmps4
    go_wp2_with fail
    go_ret
    exact ⟨rfl, Below.refl _ _⟩
  have hm' : a1.length ≤ 1048576 := by omega
  clear hbig hbig'
  by_cases hc : a1.length = a0.length ∧ a0.length ≤ 256
  · have hl := Lib.hid hc.1
    have hmm := Lib.hid hc.2
    clear hc
    go_enter Try.func4, Try.ntmps4
    go_wp2_with fail
    refine (toF_any _ a0 _ _ h0 (Nat.le_refl _) hm).mono ?_
    rintro e w1 ⟨g1, rfl, ho1, hb1⟩
    have hr1 := Rd.own ho1 (Nat.le_refl _) (by unfold maxLen; omega)
    have hB1 := Lib.hid hb1
    clear ho1 hb1
    go_wp2_with fail
    refine (toF_any _ a1 _ w.heap.size (h1.below hB1.out) hB1.out.size hm').mono ?_
    rintro e w2 ⟨g2, rfl, ho2, hb2⟩
    have hr2 := Rd.own ho2 (Nat.le_refl _) (by unfold maxLen; omega)
    have hr12 := (hr1.below hb2).more hb2.size
    have hB2 := Lib.hid (show Below w.heap.size w w2 from hB1.out.trans (hb2.mono hB1.out.size))
    clear ho2 hb2 hr1 hB1
    go_wp2_with fail
    refine (dotSp_yes _ _ a0 a1 _ _ hr12 hr2 hl.out hmm.out).mono ?_
    rintro e w3 ⟨s, n3, rfl, hs, rfl⟩
    clear hr12 hr2
    go_wp2_with fail
    refine (toF_any _ a0 _ w.heap.size ((h0.below hB2.out).drewN n3) hB2.out.size hm).mono ?_
    rintro e w4 ⟨g4, rfl, ho4, hb4⟩
    have hr4 := Rd.own ho4 (Nat.le_refl _) (by unfold maxLen; omega)
    have hB4 := Lib.hid (show Below w.heap.size w w4 from (below_drawn hB2.out n3).trans (hb4.mono hB2.out.size))
    clear ho4 hb4 hB2
    go_wp2_with fail
    refine (toF_any _ a1 _ w.heap.size (h1.below hB4.out) hB4.out.size hm').mono ?_
    rintro e w5 ⟨g5, rfl, ho5, hb5⟩
    have hr5 := Rd.own ho5 (Nat.le_refl _) (by unfold maxLen; omega)
    have hr45 := (hr4.below hb5).more hb5.size
    have hB5 := Lib.hid (show Below w.heap.size w w5 from hB4.out.trans (hb5.mono hB4.out.size))
    clear ho5 hb5 hr4 hB4
    go_wp2_with (first | (go_at_call 22; refine (dotI_any _ _ a0 a1 _ _ hr45 hr5 hl.out hmm.out).mono ?_; rintro e w6 ⟨g, n6, rfl, hg, rfl⟩) | (refine up_wide (by rw [Try.underlying23]; rfl) Try.underlying28 ?_; intro r n hr) | (go_at_call 10; refine (same_wi _ _ _ (by assumption) (by assumption) (hg.1.trans hs.1.symm)).mono ?_; rintro e w' ⟨rfl, n7, rfl⟩) | (go_at_call 13; go_in))
    refine (toF_any _ a0 _ w.heap.size ((h0.below hB5.out).drewN _) hB5.out.size hm).mono ?_
    rintro e w8 ⟨g8, rfl, ho8, hb8⟩
    have hr8 := Rd.own ho8 (Nat.le_refl _) (by unfold maxLen; omega)
    have hr48 := (hr45.drewN _).below hb8
    have hr58 := (hr5.drewN _).below hb8
    have hB8 := Lib.hid (show Below w.heap.size w w8 from (below_drawn hB5.out _).trans (hb8.mono hB5.out.size))
    have hz8 := Lib.hid hb8.size
    clear ho8 hb8 hr45 hr5 hB5
    go_wp2_with fail
    refine (eqF_any _ _ a0 a0 _ _ (hr48.more hz8.out) hr8 (Worth.refl _) hm).mono ?_
    rintro e w9 ⟨rfl, n9, rfl⟩
    go_wp2_with fail
    refine (toF_any _ a1 _ w.heap.size ((h1.below hB8.out).drewN _) hB8.out.size hm').mono ?_
    rintro e w10 ⟨g10, rfl, ho10, hb10⟩
    have hr10 := Rd.own ho10 (Nat.le_refl _) (by unfold maxLen; omega)
    have hr510 := ((hr58.more hz8.out).drewN _).below hb10
    have hz10 := Lib.hid hb10.size
    have hB10 := Lib.hid (show Below w.heap.size w w10 from (below_drawn hB8.out _).trans (hb10.mono hB8.out.size))
    clear ho10 hb10
    go_wp2_with fail
    refine (eqF_any _ _ a1 a1 _ _ (hr510.more hz10.out) hr10 (Worth.refl _) hm').mono ?_
    rintro e w11 ⟨rfl, n11, rfl⟩
    go_wp2_with fail
    go_ret
    exact ⟨rfl, below_drawn hB10.out _⟩
  · have hno := Lib.hid (show 256 < a0.length ∨ a1.length ≠ a0.length by omega)
    clear hc
    go_enter Try.func4, Try.ntmps4
    go_wp2_with fail
    refine (toF_any _ a0 _ _ h0 (Nat.le_refl _) hm).mono ?_
    rintro e w1 ⟨g1, rfl, ho1, hb1⟩
    have hr1 := Rd.own ho1 (Nat.le_refl _) (by unfold maxLen; omega)
    have hB1 := Lib.hid hb1
    clear ho1 hb1
    go_wp2_with fail
    refine (toF_any _ a1 _ w.heap.size (h1.below hB1.out) hB1.out.size hm').mono ?_
    rintro e w2 ⟨g2, rfl, ho2, hb2⟩
    have hr2 := Rd.own ho2 (Nat.le_refl _) (by unfold maxLen; omega)
    have hr12 := (hr1.below hb2).more hb2.size
    have hB2 := Lib.hid (show Below w.heap.size w w2 from hB1.out.trans (hb2.mono hB1.out.size))
    clear ho2 hb2 hr1 hB1
    go_wp2_with fail
    refine (dotSp_no _ _ a0 a1 _ _ hr12 hr2 hno.out hm hm').mono ?_
    rintro e w3 ⟨s, n3, rfl, hs, rfl⟩
    clear hr12 hr2
    go_wp2_with fail
    refine (toF_any _ a0 _ w.heap.size ((h0.below hB2.out).drewN n3) hB2.out.size hm).mono ?_
    rintro e w4 ⟨g4, rfl, ho4, hb4⟩
    have hr4 := Rd.own ho4 (Nat.le_refl _) (by unfold maxLen; omega)
    have hB4 := Lib.hid (show Below w.heap.size w w4 from (below_drawn hB2.out n3).trans (hb4.mono hB2.out.size))
    clear ho4 hb4 hB2
    go_wp2_with fail
    refine (toF_any _ a1 _ w.heap.size (h1.below hB4.out) hB4.out.size hm').mono ?_
    rintro e w5 ⟨g5, rfl, ho5, hb5⟩
    have hr5 := Rd.own ho5 (Nat.le_refl _) (by unfold maxLen; omega)
    have hr45 := (hr4.below hb5).more hb5.size
    have hB5 := Lib.hid (show Below w.heap.size w w5 from hB4.out.trans (hb5.mono hB4.out.size))
    clear ho5 hb5 hr4 hB4
    go_wp2_with (first | (go_at_call 22; refine (dotI_no _ _ a0 a1 _ _ hr45 hr5 hno.out hm hm').mono ?_; rintro e w6 ⟨g, n6, rfl, hg, rfl⟩) | (refine up_wide (by rw [Try.underlying23]; rfl) Try.underlying28 ?_; intro r n hr) | (go_at_call 10; refine (same_wi _ _ _ (by assumption) (by assumption) (hg.1.trans hs.1.symm)).mono ?_; rintro e w' ⟨rfl, n7, rfl⟩) | (go_at_call 13; go_in))
    refine (toF_any _ a0 _ w.heap.size ((h0.below hB5.out).drewN _) hB5.out.size hm).mono ?_
    rintro e w8 ⟨g8, rfl, ho8, hb8⟩
    have hr8 := Rd.own ho8 (Nat.le_refl _) (by unfold maxLen; omega)
    have hr48 := (hr45.drewN _).below hb8
    have hr58 := (hr5.drewN _).below hb8
    have hB8 := Lib.hid (show Below w.heap.size w w8 from (below_drawn hB5.out _).trans (hb8.mono hB5.out.size))
    have hz8 := Lib.hid hb8.size
    clear ho8 hb8 hr45 hr5 hB5
    go_wp2_with fail
    refine (eqF_any _ _ a0 a0 _ _ (hr48.more hz8.out) hr8 (Worth.refl _) hm).mono ?_
    rintro e w9 ⟨rfl, n9, rfl⟩
    go_wp2_with fail
    refine (toF_any _ a1 _ w.heap.size ((h1.below hB8.out).drewN _) hB8.out.size hm').mono ?_
    rintro e w10 ⟨g10, rfl, ho10, hb10⟩
    have hr10 := Rd.own ho10 (Nat.le_refl _) (by unfold maxLen; omega)
    have hr510 := ((hr58.more hz8.out).drewN _).below hb10
    have hz10 := Lib.hid hb10.size
    have hB10 := Lib.hid (show Below w.heap.size w w10 from (below_drawn hB8.out _).trans (hb10.mono hB8.out.size))
    clear ho10 hb10
    go_wp2_with fail
    refine (eqF_any _ _ a1 a1 _ _ (hr510.more hz10.out) hr10 (Worth.refl _) hm').mono ?_
    rintro e w11 ⟨rfl, n11, rfl⟩
    go_wp2_with fail
    go_ret
    exact ⟨rfl, below_drawn hB10.out _⟩

namespace fnExactDotNumbers
open Go.ChangeShapes Go.WideShapes Go.ChangeAt Go.RowKit
open Go.ChangeMaps (open_string)
set_option linter.unusedVariables false
theorem own : ownKnob Try.prog.godebug = none := by kernel_rfl
theorem laidOut : laidOutB Try.prog = true := by kernel_rfl
set_option maxRecDepth 100000 in
theorem lifted (os : Os) (started : os.Started) (H : Type) (enc : TypeId × Value → H) :
    ReturnsInHanded {} Try.checked os 4 .any (Rows.fnExactDotNumbersSpec.pre6 enc Try.prog Try.f4 Rows.fnExactDotNumbersRow.domain false) (Rows.fnExactDotNumbersSpec.post enc Try.prog Try.f4 false true false false) := by
  refine returnsInHanded_of_change (C := Try.checked) own started (by kernel_rfl) Try.func4
    (ChangeSpec.witness6 (enc := enc) (C := Try.checked) false ⟨#[], #[.slice none 0 0, .slice none 0 0], []⟩ 8 (by kernel_rfl) (by kernel_rfl) (by kernel_rfl) (by kernel_rfl)) ?_
  intro W base args ds gs before hval0 hW hcnd _
  have hval : ∀ (j : Nat) t v, Try.f4.params[j]? = some t → args[j]? = some v → Value.okWide Try.prog W .any base t v := hval0
  have hW' := hW
  have hlt0 := hW.lt
  obtain ⟨p, q, hA0, hV, rfl, hfz, hnd⟩ := hW
  have hA : DataW.TrodAll enc Try.prog W 0 (fun _ => true) true Try.f4.params.toList args.toList ds p := hA0
  have hAk := hA
  have hltp : ∀ x ∈ p, x.block < W.heap.size := fun x hx => hlt0 x (List.mem_append_left _ hx)
  have hread : ∀ t ∈ Try.f4.params.toList, Try.prog.readableRec t = true ∧ t < Try.prog.types.size := by
    rw [Try.params4]
    intro t ht
    simp only [List.mem_cons, List.not_mem_nil, or_false] at ht
    rcases ht with rfl | rfl <;> exact ⟨by kernel_rfl, of_decide_eq_true (by kernel_rfl)⟩
  rw [Try.params4] at hA hval
  obtain ⟨v0, vs0, d0, ds0, p0, q0, hargs, rfl, rfl, h0, r0⟩ := trodAll_cons hA
  obtain ⟨v1, vs1, d1, ds1, p1, q1, rfl, rfl, rfl, h1, r1⟩ := trodAll_cons r0
  obtain ⟨rfl, rfl, rfl⟩ := trodAll_nil r1
  obtain rfl : args = #[v0, v1] := by cases args; simp_all
  obtain ⟨rfl, rfl⟩ := trodVars_none hV
  obtain ⟨a0, g0, w0⟩ := open_floats Try.underlying22 Try.underlying23 (by kernel_rfl) (hval 0 22 v0 rfl rfl) h0 (fun x hx => hltp x (by simp [hx]))
  obtain ⟨a1, g1, w1⟩ := open_floats Try.underlying22 Try.underlying23 (by kernel_rfl) (hval 1 22 v1 rfl rfl) h1 (fun x hx => hltp x (by simp [hx]))
  clear hA0 hval0
  refine (walk W v0 a0 g0 w0 v1 a1 g1 w1).mono fun e W' ⟨he, hg⟩ => ?_
  subst he
  exact ⟨_, rfl, post_grown (pv := []) hW' hg (fun _ _ _ => (trodAll_cons_mk (shut_bool Try.underlying4 _) trodAll_mk0)) (trodAll_low laidOut hg _ _ _ _ hread hltp hAk) rfl rfl⟩

theorem over : Rows.fnExactDotNumbersRow.holds Try.pinned (OpenSpec.ofChange Rows.fnExactDotNumbersSpec) :=
  OpenClaim.holds_of_wide 4 Try.f4 rfl rfl rfl rfl rfl rfl rfl ⟨rfl, rfl, rfl, rfl, rfl⟩ rfl rfl rfl rfl rfl (by kernel_rfl) Try.func4 (by kernel_rfl)
    (of_decide_eq_true (by kernel_rfl)) (by unfold Func.isWrapper; first | (rw [if_pos (by decide +kernel)]; kernel_rfl) | (rw [if_neg (by decide +kernel)]; exact ⟨rfl, rfl⟩))
    (fun os started H enc _ => lifted os started H enc)

theorem proved : Rows.FnExactDotNumbersSaid := over
end fnExactDotNumbers
end Go.Proofs.Ytcncobafpifimac
