/-
  At any kind, list and number of levels, LiftLevels answers as its model does, leaves the list as it was, and answers in memory of its own.
-/
import Derived.Test.YteogogcjndfkoabRows
import Derived.ProofKit
import Derived.OpenShut
import Derived.WalkLawsBesides
import Derived.KernelRfl
import Derived.Test.YteogogcjndfkoabLvL
namespace Go.Proofs.Yteogogcjndfkoab
open Go.RowKit
set_option linter.unusedVariables false
theorem fnExactLiftLevels.walk (w : World) (a0 : Int) (w0 : (Lit.int .i64 a0).wf = true) (v1 : Value) (a1 : List Int) (h1 : Rd w w.heap.size v1 (il a1)) (w1 : ∀ x ∈ a1, (Lit.int .i64 x).wf = true) (a2 : Int) (w2 : (Lit.int .i64 a2).wf = true) :
    Calls Try.prog 8 #[.int .i64 a0, v1, .int .i64 a2] w fun e w' => e = .returned (.bool true) ∧ Below w.heap.size w w' := by
  have hle := h1.le
  rw [il_len] at hle
  unfold maxLen at hle
  obtain ⟨A1, c1, hv1, hc11, hc12, hcell1⟩ := id h1
  rw [il_len] at hv1
  clear hcell1 hc11 hc12
  subst hv1
  by_cases hbig : 1048576 < a1.length
  · go_enter Try.func8, Try.ntmps8
    go_wp2_with fail
    go_ret
    exact ⟨rfl, Below.refl _ _⟩
  have hm : a1.length ≤ 1048576 := by omega
  clear hbig hle
  have hl8 := lvR_len a0 a1 a2
  have hl1 : (lvR a0 a1 a2).length ≤ 1048576 := by omega
  have HM := Lib.hid (lvR_mem a0 a1 a2)
  go_enter Try.func8, Try.ntmps8
  go_wp2_with fail
  refine (toI_any _ a1 _ _ h1 (Nat.le_refl _) hm).mono ?_
  rintro e w1 ⟨g1, rfl, O1, b1⟩
  have z1 := b1.size
  have h1b := h1.below b1
  go_wp2_with fail
  refine (lvS_any a0 _ _ _ a2 _ O1.rd hm).mono ?_
  rintro e w2 ⟨v2, rfl, O2, b2⟩
  have R2 := O2.rd
  have h2 := h1b.below (b2.mono z1)
  have B2 := b1.trans (b2.mono z1)
  have z2 := B2.size
  clear O1 O2 b1 b2 h1b h1
  go_wp2_with fail
  refine (toI_any _ a1 _ _ h2 z2 hm).mono ?_
  rintro e w3 ⟨g3, rfl, O3, b3⟩
  have h3 := h2.below (b3.mono z2)
  have R3 := R2.below b3
  have B3 := B2.trans (b3.mono z2)
  have z3 := B3.size
  have y3 := b3.size
  have rx := O3.rd
  clear b3 h2 R2 B2
  go_wp2_with fail
  refine (lvI_any a0 _ _ _ a2 _ O3.rd hm).mono ?_
  rintro e w4 ⟨v4, rfl, O4, b4⟩
  have h4 := h3.below (b4.mono z3)
  have R4 := R3.below (b4.mono y3)
  have X4 := O3.below b4
  have B4 := B3.trans (b4.mono z3)
  have y4 : w2.heap.size ≤ w4.heap.size := Nat.le_trans y3 b4.size
  clear O3 b4 h3 R3 B3
  go_wp2_with fail
  refine (eqL_any _ _ (lvR a0 a1 a2) _ _ _ O4.rd R4 hl1 HM.out).mono ?_
  rintro e w5 ⟨rfl, n5, hw5⟩
  have h5 : Rd w5 w.heap.size (.slice A1 a1.length c1) (il a1) := by subst hw5; exact h4
  have R5 : RdL w5 w2.heap.size v2 (ill (lvR a0 a1 a2)) := by subst hw5; exact R4
  have X5 : Own w5 w2.heap.size (.slice (some ⟨g3, 0, none⟩) a1.length a1.length) (il a1) := by subst hw5; exact X4
  have O5 : OwnL w5 w3.heap.size v4 (ill (lvR a0 a1 a2)) := by subst hw5; exact O4
  have B5 : Below w.heap.size w w5 := by subst hw5; exact below_drawn B4 _
  have y5 : w2.heap.size ≤ w5.heap.size := by subst hw5; exact y4
  clear hw5 h4 R4 X4 O4 B4 y4
  go_wp2_with fail
  refine (toI_any _ a1 _ _ h5 B5.size hm).mono ?_
  rintro e w6 ⟨g6, rfl, O6, b6⟩
  have h6 := h5.below (b6.mono B5.size)
  have R6 := R5.below (b6.mono y5)
  have X6 := X5.below b6
  have P6 := O5.below b6
  have B6 := B5.trans (b6.mono B5.size)
  have y6 : w2.heap.size ≤ w6.heap.size := Nat.le_trans y5 b6.size
  clear b6 h5 R5 X5 O5 B5 y5
  go_wp2_with fail
  refine (eqI_any _ _ a1 _ _ _ X6.rd O6.rd hm).mono ?_
  rintro e w7 ⟨rfl, n7, hw7⟩
  have h7 : Rd w7 w.heap.size (.slice A1 a1.length c1) (il a1) := by subst hw7; exact h6
  have R7 : RdL w7 w2.heap.size v2 (ill (lvR a0 a1 a2)) := by subst hw7; exact R6
  have X7 : Own w7 w2.heap.size (.slice (some ⟨g3, 0, none⟩) a1.length a1.length) (il a1) := by subst hw7; exact X6
  have O7 : OwnL w7 w3.heap.size v4 (ill (lvR a0 a1 a2)) := by subst hw7; exact P6
  have B7 : Below w.heap.size w w7 := by subst hw7; exact below_drawn B6 _
  have y7 : w2.heap.size ≤ w7.heap.size := by subst hw7; exact y6
  clear hw7 h6 R6 X6 P6 B6 y6 O6
  go_wp2_with fail
  refine (markI_any _ a1 1 _ _ X7 hm (by decide) (by decide)).mono ?_
  rintro e w8 ⟨rfl, hw8⟩
  have b8 : Below w2.heap.size w7 w8 := by rw [hw8]; exact over_below X7 (mkI 1)
  have O8 : OwnL w8 w3.heap.size v4 (ill (lvR a0 a1 a2)) := by rw [hw8]; exact O7.over X7 rx (Nat.le_refl _) (mkI 1)
  have h8 := h7.below (b8.mono z2)
  have R8 := R7.below b8
  have B8 := B7.trans (b8.mono z2)
  have y8 : w2.heap.size ≤ w8.heap.size := Nat.le_trans y7 b8.size
  clear hw8 b8 h7 R7 X7 O7 B7 y7 rx
  go_wp2_with fail
  refine (eqL_any _ _ (lvR a0 a1 a2) _ _ _ O8.rd R8 hl1 HM.out).mono ?_
  rintro e w9 ⟨rfl, n9, hw9⟩
  have h9 : Rd w9 w.heap.size (.slice A1 a1.length c1) (il a1) := by subst hw9; exact h8
  have R9 : RdL w9 w2.heap.size v2 (ill (lvR a0 a1 a2)) := by subst hw9; exact R8
  have O9 : OwnL w9 w3.heap.size v4 (ill (lvR a0 a1 a2)) := by subst hw9; exact O8
  have B9 : Below w.heap.size w w9 := by subst hw9; exact below_drawn B8 _
  have y9 : w2.heap.size ≤ w9.heap.size := by subst hw9; exact y8
  clear hw9 h8 R8 O8 B8 y8
  go_wp2_with fail
  refine (markL_any _ (lvR a0 a1 a2) 1 _ _ O9 hl8 HM.out (by decide) (by decide)).mono ?_
  rintro e w10 ⟨rfl, O10, b10⟩
  have h10 := h9.below (b10.mono z3)
  have R10 := R9.below (b10.mono y3)
  have B10 := B9.trans (b10.mono z3)
  have y10 : w2.heap.size ≤ w10.heap.size := Nat.le_trans y9 b10.size
  clear b10 h9 R9 O9 B9 y9
  go_wp2_with fail
  refine (heldL_any _ (lvR a0 a1 a2) 1 _ _ O10.rd hl8 HM.out (by decide) (by decide)).mono ?_
  rintro e w' ⟨rfl, rfl⟩
  go_wp2_with fail
  refine (toI_any _ a1 _ _ h10 B10.size hm).mono ?_
  rintro e w11 ⟨g11, rfl, O11, b11⟩
  have R11 := R10.below (b11.mono y10)
  have P11 := O10.below b11
  have B11 := B10.trans (b11.mono B10.size)
  have y11 : w2.heap.size ≤ w11.heap.size := Nat.le_trans y10 b11.size
  clear b11 h10 R10 O10 B10 y10
  go_wp2_with fail
  refine (lvI_any a0 _ _ _ a2 _ O11.rd hm).mono ?_
  rintro e w12 ⟨v12, rfl, O12, b12⟩
  have R12 := R11.below (b12.mono y11)
  have P12 := P11.below b12
  have B12 := B11.trans (b12.mono B11.size)
  clear b12 R11 P11 B11 y11 O11
  go_wp2_with fail
  refine (eqL_any _ _ (lvR a0 a1 a2) _ _ _ O12.rd R12 hl1 HM.out).mono ?_
  rintro e w13 ⟨rfl, n13, hw13⟩
  have P13 : OwnL w13 w3.heap.size v4 (ill (mkS 1 (lvR a0 a1 a2))) := by subst hw13; exact P12
  have B13 : Below w.heap.size w w13 := by subst hw13; exact below_drawn B12 _
  clear hw13 R12 P12 B12 O12
  go_wp2_with fail
  refine (heldL_any _ (lvR a0 a1 a2) 1 _ _ P13.rd hl8 HM.out (by decide) (by decide)).mono ?_
  rintro e w' ⟨rfl, rfl⟩
  go_wp2_with fail
  go_ret
  exact ⟨rfl, B13⟩

namespace fnExactLiftLevels
open Go.ChangeShapes Go.WideShapes Go.ChangeAt Go.RowKit
open Go.ChangeMaps (open_string)
set_option linter.unusedVariables false
theorem own : ownKnob Try.prog.godebug = none := by kernel_rfl
theorem laidOut : laidOutB Try.prog = true := by kernel_rfl
set_option maxRecDepth 100000 in
theorem lifted (os : Os) (started : os.Started) (H : Type) (enc : TypeId × Value → H) :
    ReturnsInHanded {} Try.checked os 8 .any (Rows.fnExactLiftLevelsSpec.pre6 enc Try.prog Try.f8 Rows.fnExactLiftLevelsRow.domain false) (Rows.fnExactLiftLevelsSpec.post enc Try.prog Try.f8 false true false false) := by
  refine returnsInHanded_of_change (C := Try.checked) own started (by kernel_rfl) Try.func8
    (ChangeSpec.witness6 (enc := enc) (C := Try.checked) false ⟨#[], #[.int .i64 0, .slice none 0 0, .int .i64 0], []⟩ 8 (by kernel_rfl) (by kernel_rfl) (by kernel_rfl) (by kernel_rfl)) ?_
  intro W base args ds gs before hval0 hW hcnd _
  have hval : ∀ (j : Nat) t v, Try.f8.params[j]? = some t → args[j]? = some v → Value.okWide Try.prog W .any base t v := hval0
  have hW' := hW
  have hlt0 := hW.lt
  obtain ⟨p, q, hA0, hV, rfl, hfz, hnd⟩ := hW
  have hA : DataW.TrodAll enc Try.prog W 0 (fun _ => true) true Try.f8.params.toList args.toList ds p := hA0
  have hAk := hA
  have hltp : ∀ x ∈ p, x.block < W.heap.size := fun x hx => hlt0 x (List.mem_append_left _ hx)
  have hread : ∀ t ∈ Try.f8.params.toList, Try.prog.readableRec t = true ∧ t < Try.prog.types.size := by
    rw [Try.params8]
    intro t ht
    simp only [List.mem_cons, List.not_mem_nil, or_false] at ht
    rcases ht with rfl | rfl | rfl <;> exact ⟨by kernel_rfl, of_decide_eq_true (by kernel_rfl)⟩
  rw [Try.params8] at hA hval
  obtain ⟨v0, vs0, d0, ds0, p0, q0, hargs, rfl, rfl, h0, r0⟩ := trodAll_cons hA
  obtain ⟨v1, vs1, d1, ds1, p1, q1, rfl, rfl, rfl, h1, r1⟩ := trodAll_cons r0
  obtain ⟨v2, vs2, d2, ds2, p2, q2, rfl, rfl, rfl, h2, r2⟩ := trodAll_cons r1
  obtain ⟨rfl, rfl, rfl⟩ := trodAll_nil r2
  obtain rfl : args = #[v0, v1, v2] := by cases args; simp_all
  obtain ⟨rfl, rfl⟩ := trodVars_none hV
  obtain ⟨a0, rfl, rfl, rfl, w0⟩ := open_int Try.underlying2 (hval 0 2 v0 rfl rfl) h0
  obtain ⟨a1, g1, w1⟩ := open_i64s Try.underlying52 Try.underlying2 (by kernel_rfl) (hval 1 52 v1 rfl rfl) h1 (fun x hx => hltp x (by simp [hx]))
  obtain ⟨a2, rfl, rfl, rfl, w2⟩ := open_int Try.underlying2 (hval 2 2 v2 rfl rfl) h2
  clear hA0 hval0
  refine (walk W a0 w0 v1 a1 g1 w1 a2 w2).mono fun e W' ⟨he, hg⟩ => ?_
  subst he
  exact ⟨_, rfl, post_grown (pv := []) hW' hg (fun _ _ _ => (trodAll_cons_mk (shut_bool Try.underlying4 _) trodAll_mk0)) (trodAll_low laidOut hg _ _ _ _ hread hltp hAk) rfl rfl⟩

theorem over : Rows.fnExactLiftLevelsRow.holds Try.pinned (OpenSpec.ofChange Rows.fnExactLiftLevelsSpec) :=
  OpenClaim.holds_of_wide 8 Try.f8 rfl rfl rfl rfl rfl rfl rfl ⟨rfl, rfl, rfl, rfl, rfl⟩ rfl rfl rfl rfl rfl (by kernel_rfl) Try.func8 (by kernel_rfl)
    (of_decide_eq_true (by kernel_rfl)) (by unfold Func.isWrapper; first | (rw [if_pos (by decide +kernel)]; kernel_rfl) | (rw [if_neg (by decide +kernel)]; exact ⟨rfl, rfl⟩))
    (fun os started H enc _ => lifted os started H enc)

theorem proved : Rows.FnExactLiftLevelsSaid := over
end fnExactLiftLevels
end Go.Proofs.Yteogogcjndfkoab
