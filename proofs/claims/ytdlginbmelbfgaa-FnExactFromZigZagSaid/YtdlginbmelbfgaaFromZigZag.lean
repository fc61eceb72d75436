/-
  At any integer, FromZigZag answers as its model does.
-/
import Derived.Test.YtdlginbmelbfgaaRows
import Derived.ProofKit
import Derived.OpenShut
import Derived.WalkLawsBesides
import Derived.KernelRfl
import Derived.Test.YtdlginbmelbfgaaRlo
import Derived.Test.YtdlginbmelbfgaaMkF
import Derived.Test.YtdlginbmelbfgaaTw
import Derived.Test.YtdlginbmelbfgaaBls
namespace Go.Proofs.Ytdlginbmelbfgaa
open Go.RowKit Fl
set_option linter.unusedVariables false
set_option maxRecDepth 100000 in
set_option maxHeartbeats 8000000 in
theorem fnExactFromZigZag.walk (w : World) (a0 : Int) (w0 : (Lit.int .i64 a0).wf = true) :
    Calls Try.prog 4 #[.int .i64 a0] w fun e w' => e = .returned (.bool true) ∧ Below w.heap.size w w' := by
  have hi0 := Lib.hid w0
  clear w0
  obtain ⟨z, hze⟩ : ∃ x, x = zgV a0 := ⟨_, rfl⟩
  obtain ⟨b, hbe⟩ : ∃ x, x = inG a0 := ⟨_, rfl⟩
  have HS := Lib.hid (fun (w' : World)   => (show Calls Try.prog 17 #[.int .i64 a0] w' (RetV (.tuple #[.int .i64 z, .bool b]) w') by rw [hze, hbe]; exact (fzS_any a0 w' hi0.out)))
  have HI := Lib.hid (fun (w' : World)   => (show Calls Try.prog 18 #[.int .i64 a0] w' (RetV (.tuple #[.int .i64 z, .bool b]) w') by rw [hze, hbe]; exact (fzI_any a0 w' hi0.out)))
  clear hze hbe
  go_enter Try.func4, Try.ntmps4
  have B_w : Below w.heap.size w w := Below.refl _ _
  go_wp2_with fail
  refine (HS.out _  ).mono ?_
  rintro e w1 ⟨rfl, hb1⟩
  have B_w1 : Below w.heap.size w w1 := B_w.trans (hb1.mono B_w.size)
  clear B_w
  clear hb1
  go_wp2_with fail
  refine (HI.out _  ).mono ?_
  rintro e w2 ⟨rfl, hb2⟩
  have B_w2 : Below w.heap.size w w2 := B_w1.trans (hb2.mono B_w1.size)
  clear B_w1
  clear hb2
  go_wp2_with fail
  go_ret
  exact ⟨rfl, B_w2⟩

namespace fnExactFromZigZag
open Go.ChangeShapes Go.WideShapes Go.ChangeAt Go.RowKit
open Go.ChangeMaps (open_string)
set_option linter.unusedVariables false
theorem own : ownKnob Try.prog.godebug = none := by kernel_rfl
theorem laidOut : laidOutB Try.prog = true := by kernel_rfl
set_option maxRecDepth 100000 in
theorem lifted (os : Os) (started : os.Started) (H : Type) (enc : TypeId × Value → H) :
    ReturnsInHanded {} Try.checked os 4 .any (Rows.fnExactFromZigZagSpec.pre6 enc Try.prog Try.f4 Rows.fnExactFromZigZagRow.domain false) (Rows.fnExactFromZigZagSpec.post enc Try.prog Try.f4 false true false false) := by
  refine returnsInHanded_of_change (C := Try.checked) own started (by kernel_rfl) Try.func4
    (ChangeSpec.witness6 (enc := enc) (C := Try.checked) false ⟨#[], #[.int .i64 0], []⟩ 8 (by kernel_rfl) (by kernel_rfl) (by kernel_rfl) (by kernel_rfl)) ?_
  intro W base args ds gs before hval0 hW hcnd _
  have hval : ∀ (j : Nat) t v, Try.f4.params[j]? = some t → args[j]? = some v → Value.okWide Try.prog W .any base t v := hval0
  have hW' := hW
  have hlt0 := hW.lt
  obtain ⟨p, q, hA0, hV, rfl, hfz, hnd⟩ := hW
  have hA : DataW.TrodAll enc Try.prog W 0 (fun _ => true) true Try.f4.params.toList args.toList ds p := hA0
  have hAk := hA
  have hltp : ∀ x ∈ p, x.block < W.heap.size := fun x hx => hlt0 x (List.mem_append_left _ hx)
  have hread : ∀ t ∈ Try.f4.params.toList, Try.prog.readableRec t = true ∧ t < Try.prog.types.size := by
    rw [Try.params4]
    intro t ht
    simp only [List.mem_cons, List.not_mem_nil, or_false] at ht
    rcases ht with rfl <;> exact ⟨by kernel_rfl, of_decide_eq_true (by kernel_rfl)⟩
  rw [Try.params4] at hA hval
  obtain ⟨v0, vs0, d0, ds0, p0, q0, hargs, rfl, rfl, h0, r0⟩ := trodAll_cons hA
  obtain ⟨rfl, rfl, rfl⟩ := trodAll_nil r0
  obtain rfl : args = #[v0] := by cases args; simp_all
  obtain ⟨rfl, rfl⟩ := trodVars_none hV
  obtain ⟨a0, rfl, rfl, rfl, w0⟩ := open_int Try.underlying2 (hval 0 2 v0 rfl rfl) h0
  clear hA0 hval0
  refine (walk W a0 w0).mono fun e W' ⟨he, hg⟩ => ?_
  subst he
  exact ⟨_, rfl, post_grown (pv := []) hW' hg (fun _ _ _ => (trodAll_cons_mk (shut_bool Try.underlying4 _) trodAll_mk0)) (trodAll_low laidOut hg _ _ _ _ hread hltp hAk) rfl rfl⟩

theorem over : Rows.fnExactFromZigZagRow.holds Try.pinned (OpenSpec.ofChange Rows.fnExactFromZigZagSpec) :=
  OpenClaim.holds_of_wide 4 Try.f4 rfl rfl rfl rfl rfl rfl rfl ⟨rfl, rfl, rfl, rfl, rfl⟩ rfl rfl rfl rfl rfl (by kernel_rfl) Try.func4 (by kernel_rfl)
    (of_decide_eq_true (by kernel_rfl)) (by unfold Func.isWrapper; first | (rw [if_pos (by decide +kernel)]; kernel_rfl) | (rw [if_neg (by decide +kernel)]; exact ⟨rfl, rfl⟩))
    (fun os started H enc _ => lifted os started H enc)

theorem proved : Rows.FnExactFromZigZagSaid := over
end fnExactFromZigZag
end Go.Proofs.Ytdlginbmelbfgaa
