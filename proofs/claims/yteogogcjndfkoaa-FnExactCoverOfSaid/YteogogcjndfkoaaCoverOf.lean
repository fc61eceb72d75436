/-
  At any numbers, CoverOf answers as its model does.
-/
import Derived.Test.YteogogcjndfkoaaRows
import Derived.ProofKit
import Derived.OpenShut
import Derived.WalkLawsBesides
import Derived.KernelRfl
import Derived.Test.YteogogcjndfkoaaCov
namespace Go.Proofs.Yteogogcjndfkoaa
open Go.RowKit
set_option linter.unusedVariables false
theorem cvc {P : Program} {F : FuncId} {gs : Array Value} {w : World} {k i B : Int} {c : Bool} (h : Calls P F gs w (RetCv (k * i) B c w)) : Calls P F gs w (RetCv (i * k) B c w) := by rw [Int.mul_comm]; exact h
theorem cov_law (n L b i A B : Int) (c : Bool) (w : World) (hS : ∀ w, Calls Try.prog 35 #[.int .i64 n, .int .i64 L, .int .i64 b, .int .i64 i] w (RetCv A B c w)) (hI : ∀ w, Calls Try.prog 36 #[.int .i64 n, .int .i64 L, .int .i64 b, .int .i64 i] w (RetCv A B c w)) :
    Calls Try.prog 10 #[.int .i64 n, .int .i64 L, .int .i64 b, .int .i64 i] w fun e w' => e = .returned (.bool true) ∧ Below w.heap.size w w' := by
  have HS := Lib.hid hS
  have HI := Lib.hid hI
  clear hS hI
  go_enter Try.func10, Try.ntmps10
  go_wp2_with (first | (go_at_call 35; refine (HS.out _).mono ?_; rintro e w1 ⟨rfl, hb1⟩) | (go_at_call 36; refine (HI.out _).mono ?_; rintro e w2 ⟨rfl, hb2⟩))
  go_ret
  exact ⟨rfl, hb1.trans (hb2.mono hb1.size)⟩
theorem fnExactCoverOf.walk (w : World) (a0 : Int) (w0 : (Lit.int .i64 a0).wf = true) (a1 : Int) (w1 : (Lit.int .i64 a1).wf = true) (a2 : Int) (w2 : (Lit.int .i64 a2).wf = true) (a3 : Int) (w3 : (Lit.int .i64 a3).wf = true) :
    Calls Try.prog 10 #[.int .i64 a0, .int .i64 a1, .int .i64 a2, .int .i64 a3] w fun e w' => e = .returned (.bool true) ∧ Below w.heap.size w w' := by
  clear w0 w1 w2 w3
  cases hB : bsB a0 a1 with
  | false => exact cov_law _ _ _ _ _ _ _ _ (fun w => cvS_f1 _ _ _ _ w hB) (fun w => cvI_f1 _ _ _ _ w hB)
  | true =>
    have hlm := bsL_len a0 a1
    by_cases h1 : a2 < 0
    · exact cov_law _ _ _ _ _ _ _ _ (fun w => cvS_f2 _ _ _ _ w hB h1) (fun w => cvI_f2 _ _ _ _ w hB h1)
    by_cases h2 : ((bsL a0 a1).length : Int) ≤ a2
    · exact cov_law _ _ _ _ _ _ _ _ (fun w => cvS_f3 _ _ _ _ w hB h2) (fun w => cvI_f3 _ _ _ _ w hB h2)
    obtain ⟨b, rfl⟩ := Int.eq_ofNat_of_zero_le (by omega : 0 ≤ a2)
    have hbl : b < (bsL a0 a1).length := by omega
    obtain ⟨x, hx⟩ := bsL_get a0 a1 b hbl
    by_cases h3 : a3 < 0
    · exact cov_law _ _ _ _ _ _ _ _ (fun w => cvS_f4 _ _ _ _ b w hB hbl hx h3) (fun w => cvI_f4 _ _ _ _ b w hB hbl hx h3)
    by_cases h4 : x ≤ a3
    · exact cov_law _ _ _ _ _ _ _ _ (fun w => cvS_f5 _ _ _ _ b w hB hbl hx h4) (fun w => cvI_f5 _ _ _ _ b w hB hbl hx h4)
    have h5 : 0 ≤ a3 := by omega
    have h6 : a3 < x := by omega
    by_cases h7 : (bsL a0 a1).length = b + 1
    · have hbb : b = 0 ∨ b = 1 ∨ b = 2 ∨ b = 3 ∨ b = 4 ∨ b = 5 ∨ b = 6 := by omega
      rcases hbb with rfl | rfl | rfl | rfl | rfl | rfl | rfl
      · exact cov_law _ _ _ _ _ _ _ _ (fun w => cvS_last0 _ _ _ _ w hB h7 hx h5 h6) (fun w => cvI_last0 _ _ _ _ w hB h7 hx h5 h6)
      · exact cov_law _ _ _ _ _ _ _ _ (fun w => cvc (cvS_last1 _ _ _ _ w hB h7 hx h5 h6)) (fun w => cvI_last1 _ _ _ _ w hB h7 hx h5 h6)
      · exact cov_law _ _ _ _ _ _ _ _ (fun w => cvc (cvS_last2 _ _ _ _ w hB h7 hx h5 h6)) (fun w => cvI_last2 _ _ _ _ w hB h7 hx h5 h6)
      · exact cov_law _ _ _ _ _ _ _ _ (fun w => cvc (cvS_last3 _ _ _ _ w hB h7 hx h5 h6)) (fun w => cvI_last3 _ _ _ _ w hB h7 hx h5 h6)
      · exact cov_law _ _ _ _ _ _ _ _ (fun w => cvc (cvS_last4 _ _ _ _ w hB h7 hx h5 h6)) (fun w => cvI_last4 _ _ _ _ w hB h7 hx h5 h6)
      · exact cov_law _ _ _ _ _ _ _ _ (fun w => cvc (cvS_last5 _ _ _ _ w hB h7 hx h5 h6)) (fun w => cvI_last5 _ _ _ _ w hB h7 hx h5 h6)
      · exact cov_law _ _ _ _ _ _ _ _ (fun w => cvc (cvS_last6 _ _ _ _ w hB h7 hx h5 h6)) (fun w => cvI_last6 _ _ _ _ w hB h7 hx h5 h6)
    · have hbb : b = 0 ∨ b = 1 ∨ b = 2 ∨ b = 3 ∨ b = 4 ∨ b = 5 := by omega
      rcases hbb with rfl | rfl | rfl | rfl | rfl | rfl
      · exact cov_law _ _ _ _ _ _ _ _ (fun w => cvS_mid0 _ _ _ _ w hB (by omega) hx h5 h6) (fun w => cvI_mid0 _ _ _ _ w hB (by omega) hx h5 h6)
      · exact cov_law _ _ _ _ _ _ _ _ (fun w => cvS_mid1 _ _ _ _ w hB (by omega) hx h5 h6) (fun w => cvI_mid1 _ _ _ _ w hB (by omega) hx h5 h6)
      · exact cov_law _ _ _ _ _ _ _ _ (fun w => cvS_mid2 _ _ _ _ w hB (by omega) hx h5 h6) (fun w => cvI_mid2 _ _ _ _ w hB (by omega) hx h5 h6)
      · exact cov_law _ _ _ _ _ _ _ _ (fun w => cvS_mid3 _ _ _ _ w hB (by omega) hx h5 h6) (fun w => cvI_mid3 _ _ _ _ w hB (by omega) hx h5 h6)
      · exact cov_law _ _ _ _ _ _ _ _ (fun w => cvS_mid4 _ _ _ _ w hB (by omega) hx h5 h6) (fun w => cvI_mid4 _ _ _ _ w hB (by omega) hx h5 h6)
      · exact cov_law _ _ _ _ _ _ _ _ (fun w => cvS_mid5 _ _ _ _ w hB (by omega) hx h5 h6) (fun w => cvI_mid5 _ _ _ _ w hB (by omega) hx h5 h6)

namespace fnExactCoverOf
open Go.ChangeShapes Go.WideShapes Go.ChangeAt Go.RowKit
open Go.ChangeMaps (open_string)
set_option linter.unusedVariables false
theorem own : ownKnob Try.prog.godebug = none := by kernel_rfl
theorem laidOut : laidOutB Try.prog = true := by kernel_rfl
set_option maxRecDepth 100000 in
theorem lifted (os : Os) (started : os.Started) (H : Type) (enc : TypeId × Value → H) :
    ReturnsInHanded {} Try.checked os 10 .any (Rows.fnExactCoverOfSpec.pre6 enc Try.prog Try.f10 Rows.fnExactCoverOfRow.domain false) (Rows.fnExactCoverOfSpec.post enc Try.prog Try.f10 false true false false) := by
  refine returnsInHanded_of_change (C := Try.checked) own started (by kernel_rfl) Try.func10
    (ChangeSpec.witness6 (enc := enc) (C := Try.checked) false ⟨#[], #[.int .i64 0, .int .i64 0, .int .i64 0, .int .i64 0], []⟩ 8 (by kernel_rfl) (by kernel_rfl) (by kernel_rfl) (by kernel_rfl)) ?_
  intro W base args ds gs before hval0 hW hcnd _
  have hval : ∀ (j : Nat) t v, Try.f10.params[j]? = some t → args[j]? = some v → Value.okWide Try.prog W .any base t v := hval0
  have hW' := hW
  have hlt0 := hW.lt
  obtain ⟨p, q, hA0, hV, rfl, hfz, hnd⟩ := hW
  have hA : DataW.TrodAll enc Try.prog W 0 (fun _ => true) true Try.f10.params.toList args.toList ds p := hA0
  have hAk := hA
  have hltp : ∀ x ∈ p, x.block < W.heap.size := fun x hx => hlt0 x (List.mem_append_left _ hx)
  have hread : ∀ t ∈ Try.f10.params.toList, Try.prog.readableRec t = true ∧ t < Try.prog.types.size := by
    rw [Try.params10]
    intro t ht
    simp only [List.mem_cons, List.not_mem_nil, or_false] at ht
    rcases ht with rfl | rfl | rfl | rfl <;> exact ⟨by kernel_rfl, of_decide_eq_true (by kernel_rfl)⟩
  rw [Try.params10] at hA hval
  obtain ⟨v0, vs0, d0, ds0, p0, q0, hargs, rfl, rfl, h0, r0⟩ := trodAll_cons hA
  obtain ⟨v1, vs1, d1, ds1, p1, q1, rfl, rfl, rfl, h1, r1⟩ := trodAll_cons r0
  obtain ⟨v2, vs2, d2, ds2, p2, q2, rfl, rfl, rfl, h2, r2⟩ := trodAll_cons r1
  obtain ⟨v3, vs3, d3, ds3, p3, q3, rfl, rfl, rfl, h3, r3⟩ := trodAll_cons r2
  obtain ⟨rfl, rfl, rfl⟩ := trodAll_nil r3
  obtain rfl : args = #[v0, v1, v2, v3] := by cases args; simp_all
  obtain ⟨rfl, rfl⟩ := trodVars_none hV
  obtain ⟨a0, rfl, rfl, rfl, w0⟩ := open_int Try.underlying2 (hval 0 2 v0 rfl rfl) h0
  obtain ⟨a1, rfl, rfl, rfl, w1⟩ := open_int Try.underlying2 (hval 1 2 v1 rfl rfl) h1
  obtain ⟨a2, rfl, rfl, rfl, w2⟩ := open_int Try.underlying2 (hval 2 2 v2 rfl rfl) h2
  obtain ⟨a3, rfl, rfl, rfl, w3⟩ := open_int Try.underlying2 (hval 3 2 v3 rfl rfl) h3
  clear hA0 hval0
  refine (walk W a0 w0 a1 w1 a2 w2 a3 w3).mono fun e W' ⟨he, hg⟩ => ?_
  subst he
  exact ⟨_, rfl, post_grown (pv := []) hW' hg (fun _ _ _ => (trodAll_cons_mk (shut_bool Try.underlying4 _) trodAll_mk0)) (trodAll_low laidOut hg _ _ _ _ hread hltp hAk) rfl rfl⟩

theorem over : Rows.fnExactCoverOfRow.holds Try.pinned (OpenSpec.ofChange Rows.fnExactCoverOfSpec) :=
  OpenClaim.holds_of_wide 10 Try.f10 rfl rfl rfl rfl rfl rfl rfl ⟨rfl, rfl, rfl, rfl, rfl⟩ rfl rfl rfl rfl rfl (by kernel_rfl) Try.func10 (by kernel_rfl)
    (of_decide_eq_true (by kernel_rfl)) (by unfold Func.isWrapper; first | (rw [if_pos (by decide +kernel)]; kernel_rfl) | (rw [if_neg (by decide +kernel)]; exact ⟨rfl, rfl⟩))
    (fun os started H enc _ => lifted os started H enc)

theorem proved : Rows.FnExactCoverOfSaid := over
end fnExactCoverOf
end Go.Proofs.Yteogogcjndfkoaa
