/-
  At any list of costs, AreCosts answers as its model does, and leaves the list as it was.
-/
import Derived.Test.YtfcegkighjnmeaaRows
import Derived.ProofKit
import Derived.OpenShut
import Derived.WalkLawsBesides
import Derived.KernelRfl
import Derived.Test.YtfcegkighjnmeaaAcS
import Derived.Test.YtfcegkighjnmeaaAcI
import Derived.Test.YtfcegkighjnmeaaOpC
namespace Go.Proofs.Ytfcegkighjnmeaa
open Go.RowKit Fl
set_option linter.unusedVariables false
set_option maxRecDepth 100000 in
set_option maxHeartbeats 1000000 in
theorem acS_any (v : Value) (xs : List (Int × Nat)) (w : World) (h : RdC w w.heap.size v xs) (hm : xs.length ≤ 1048576) (hx : ∀ x ∈ xs, x.2 < 2 ^ 32) :
    Calls Try.prog 16 #[v] w fun e w' => e = .returned (.bool (acB xs)) ∧ Below w.heap.size w w' := by
  have HS := Lib.hid (l7S_any v xs w h hm hx)
  obtain ⟨A, c, hv, _⟩ := h
  subst hv
  generalize acB xs = b at *
  clear hx
  go_enter Try.func16, Try.ntmps16
  go_wp2_with fail
  refine HS.out.mono ?_
  rintro e w1 ⟨rfl, hb1⟩
  have HB := Lib.hid hb1
  clear hb1
  go_wp2_with fail
  go_ret
  exact ⟨rfl, HB.out⟩
set_option maxRecDepth 100000 in
set_option maxHeartbeats 8000000 in
theorem fnExactAreCosts.walk (w : World) (v0 : Value) (a0 : List (Int × Nat)) (h0 : RdC w w.heap.size v0 a0) (hl0 : a0.length ≤ maxLen) (hx0 : ∀ x ∈ a0, x.2 < 2 ^ 32) :
    Calls Try.prog 3 #[v0] w fun e w' => e = .returned (.bool true) ∧ Below w.heap.size w w' := by
  unfold maxLen at hl0
  obtain ⟨A, c, hv, _⟩ := id h0
  subst hv
  by_cases hbig : 1048576 < a0.length
  · clear h0 hx0
    go_enter Try.func3, Try.ntmps3
    go_wp2_with fail
    refine (szC_any _ _ _ _ _ (by omega) (by omega) (by omega)).mono ?_
    rintro e w' ⟨rfl, rfl⟩
    rw [if_pos (by omega)]
    go_wp2_with fail
    go_ret
    exact ⟨rfl, Below.refl _ _⟩
  have hm : a0.length ≤ 1048576 := by omega
  obtain ⟨b, hbe⟩ : ∃ x, acB a0 = x := ⟨_, rfl⟩
  have HS := Lib.hid (fun W u (h : RdC W W.heap.size u a0) => acS_any u a0 W h hm hx0)
  have HI := Lib.hid (fun W u (h : RdC W W.heap.size u a0) => acI_any u a0 W h hm hx0)
  rw [hbe] at HS HI
  have HR0 := Lib.hid h0
  have B0 := Lib.hid (Below.refl w.heap.size w)
  clear hbig hl0 h0 hx0 hbe
  go_enter Try.func3, Try.ntmps3
  go_wp2_with fail
  refine (szC_any _ _ _ _ _ (by omega) (by omega) (by omega)).mono ?_
  rintro e w' ⟨rfl, rfl⟩
  rw [if_neg (by omega)]
  go_wp2_with fail
  refine (toC_any _ a0 _ HR0.out hm).mono ?_
  rintro e w1 ⟨u1, rfl, r1, hb1⟩
  have HR1 := Lib.hid (HR0.out.step hb1)
  have B1 := Lib.hid (B0.out.trans (hb1.mono B0.out.size))
  have R1 := Lib.hid r1
  clear r1 hb1
  go_wp2_with fail
  refine (HS.out _ _ R1.out).mono ?_
  rintro e w2 ⟨rfl, hb2⟩
  have HR2 := Lib.hid (HR1.out.step hb2)
  have B2 := Lib.hid (B1.out.trans (hb2.mono B1.out.size))
  clear hb2 R1
  go_wp2_with fail
  refine (toC_any _ a0 _ HR2.out hm).mono ?_
  rintro e w3 ⟨u3, rfl, r3, hb3⟩
  have HR3 := Lib.hid (HR2.out.step hb3)
  have B3 := Lib.hid (B2.out.trans (hb3.mono B2.out.size))
  have R3 := Lib.hid r3
  clear r3 hb3
  go_wp2_with fail
  refine (HI.out _ _ R3.out).mono ?_
  rintro e w4 ⟨rfl, hb4⟩
  have HR4 := Lib.hid (HR3.out.step hb4)
  have B4 := Lib.hid (B3.out.trans (hb4.mono B3.out.size))
  have R4 := Lib.hid (R3.out.step hb4)
  clear hb4 R3
  go_wp2_with fail
  refine (toC_any _ a0 _ HR4.out hm).mono ?_
  rintro e w5 ⟨u5, rfl, r5, hb5⟩
  have HR5 := Lib.hid (HR4.out.step hb5)
  have B5 := Lib.hid (B4.out.trans (hb5.mono B4.out.size))
  have R5 := Lib.hid (R4.out.step hb5)
  have R6 := Lib.hid r5
  clear r5 hb5 R4
  go_wp2_with fail
  refine (eqC_any _ _ a0 _ R5.out R6.out hm).mono ?_
  rintro e w6 ⟨rfl, hb6⟩
  have B6 := Lib.hid (B5.out.trans (hb6.mono B5.out.size))
  clear hb6
  go_wp2_with fail
  go_ret
  exact ⟨rfl, B6.out⟩

namespace fnExactAreCosts
open Go.ChangeShapes Go.WideShapes Go.ChangeAt Go.RowKit
open Go.ChangeMaps (open_string)
set_option linter.unusedVariables false
theorem own : ownKnob Try.prog.godebug = none := by kernel_rfl
theorem laidOut : laidOutB Try.prog = true := by kernel_rfl
set_option maxRecDepth 100000 in
theorem lifted (os : Os) (started : os.Started) (H : Type) (enc : TypeId × Value → H) :
    ReturnsInHanded {} Try.checked os 3 .any (Rows.fnExactAreCostsSpec.pre6 enc Try.prog Try.f3 Rows.fnExactAreCostsRow.domain false) (Rows.fnExactAreCostsSpec.post enc Try.prog Try.f3 false true false false) := by
  refine returnsInHanded_of_change (C := Try.checked) own started (by kernel_rfl) Try.func3
    (ChangeSpec.witness6 (enc := enc) (C := Try.checked) false ⟨#[], #[.slice none 0 0], []⟩ 8 (by kernel_rfl) (by kernel_rfl) (by kernel_rfl) (by kernel_rfl)) ?_
  intro W base args ds gs before hval0 hW hcnd _
  have hval : ∀ (j : Nat) t v, Try.f3.params[j]? = some t → args[j]? = some v → Value.okWide Try.prog W .any base t v := hval0
  have hW' := hW
  have hlt0 := hW.lt
  obtain ⟨p, q, hA0, hV, rfl, hfz, hnd⟩ := hW
  have hA : DataW.TrodAll enc Try.prog W 0 (fun _ => true) true Try.f3.params.toList args.toList ds p := hA0
  have hAk := hA
  have hltp : ∀ x ∈ p, x.block < W.heap.size := fun x hx => hlt0 x (List.mem_append_left _ hx)
  have hread : ∀ t ∈ Try.f3.params.toList, Try.prog.readableRec t = true ∧ t < Try.prog.types.size := by
    rw [Try.params3]
    intro t ht
    simp only [List.mem_cons, List.not_mem_nil, or_false] at ht
    rcases ht with rfl <;> exact ⟨by kernel_rfl, of_decide_eq_true (by kernel_rfl)⟩
  rw [Try.params3] at hA hval
  obtain ⟨v0, vs0, d0, ds0, p0, q0, hargs, rfl, rfl, h0, r0⟩ := trodAll_cons hA
  obtain ⟨rfl, rfl, rfl⟩ := trodAll_nil r0
  obtain rfl : args = #[v0] := by cases args; simp_all
  obtain ⟨rfl, rfl⟩ := trodVars_none hV
  obtain ⟨a0, g0, l0, w0⟩ := open_costs Try.underlying22 Try.underlying59 (by kernel_rfl) rfl rfl (by kernel_rfl) (by kernel_rfl) Try.underlying2 Try.underlying47 (hval 0 22 v0 rfl rfl) h0 (fun x hx => hltp x (by simp [hx]))
  clear hA0 hval0
  refine (walk W v0 a0 g0 l0 w0).mono fun e W' ⟨he, hg⟩ => ?_
  subst he
  exact ⟨_, rfl, post_grown (pv := []) hW' hg (fun _ _ _ => (trodAll_cons_mk (shut_bool Try.underlying4 _) trodAll_mk0)) (trodAll_low laidOut hg _ _ _ _ hread hltp hAk) rfl rfl⟩

theorem over : Rows.fnExactAreCostsRow.holds Try.pinned (OpenSpec.ofChange Rows.fnExactAreCostsSpec) :=
  OpenClaim.holds_of_wide 3 Try.f3 rfl rfl rfl rfl rfl rfl rfl ⟨rfl, rfl, rfl, rfl, rfl⟩ rfl rfl rfl rfl rfl (by kernel_rfl) Try.func3 (by kernel_rfl)
    (of_decide_eq_true (by kernel_rfl)) (by unfold Func.isWrapper; first | (rw [if_pos (by decide +kernel)]; kernel_rfl) | (rw [if_neg (by decide +kernel)]; exact ⟨rfl, rfl⟩))
    (fun os started H enc _ => lifted os started H enc)

theorem proved : Rows.FnExactAreCostsSaid := over
end fnExactAreCosts
end Go.Proofs.Ytfcegkighjnmeaa
