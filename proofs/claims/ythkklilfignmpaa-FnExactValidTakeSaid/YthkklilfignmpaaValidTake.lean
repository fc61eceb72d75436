/-
  At any take, ValidTake answers as its model does, and leaves the take as it was.
-/
import Derived.Test.YthkklilfignmpaaRows
import Derived.ProofKit
import Derived.OpenShut
import Derived.WalkLawsBesides
import Derived.KernelRfl
import Derived.Test.YthkklilfignmpaaTk
import Derived.Deep.RegionHeld3
namespace Go.Proofs.Ythkklilfignmpaa
open Go.RowKit Fl
set_option linter.unusedVariables false
set_option maxRecDepth 100000 in
set_option maxHeartbeats 8000000 in
theorem fnExactValidTake.walk (w : World) (v00 : Value) (x00 : List Nat) (nm0 : ByteArray) (r0 : Int) (h0 : TkR w v00 x00) (hw0 : nm0.size ≤ maxLen) :
    Calls Try.prog 5 #[.agg #[.string nm0, .int .i64 r0, v00]] w fun e w' => e = .returned (.bool true) ∧ Below w.heap.size w w' := by
  have hn0 : nm0.size ≤ 9223372036854775807 := by have := hw0; unfold maxLen at this; omega
  have hle00 : x00.length ≤ 9223372036854775807 := by
    have := Rd.le h0
    rw [fl_len] at this
    unfold maxLen at this
    omega
  have N0 : tkN nm0 x00 = (nm0.size : Int) + x00.length := rfl
  have hsf : ∀ (a : Addr) (x : Nat) (w : World), (store a (.float .f32 x)).run Try.prog w = stored Try.prog w a (.float .f32 x) .plain := fun a x w => run_store _ w a _ _ rfl
  have B := Lib.hid (Below.refl w.heap.size w)
  have E_a0 := Lib.hid (show TkR w v00 x00 from h0)
  clear h0
  obtain ⟨w1, hw1⟩ : ∃ W, w.alloc (.cells #[.string nm0, .int .i64 r0, v00] 45) = W := ⟨_, rfl⟩
  have hb : Below w.heap.size w w1 := by rw [← hw1]; exact (Below.refl _ _).alloc (Nat.le_refl _) _
  have hx : Bx w1 w.heap.size [.string nm0, .int .i64 r0, v00] := by rw [← hw1]; exact bx_new w [.string nm0, .int .i64 r0, v00] _
  replace E_a0 := Lib.hid (E_a0.out.step hb)
  replace B := Lib.hid (B.out.trans (hb.mono B.out.size))
  have X_a0 := Lib.hid hx
  clear hb hx
  have Q_a00 := (X_a0.out.2 0 _ rfl).1
  have Q_a01 := (X_a0.out.2 1 _ rfl).1
  have Q_a02 := (X_a0.out.2 2 _ rfl).1
  go_enter Try.func5, Try.ntmps5
  go_wp2_with fail
  refine (szT_R v00 x00 nm0 r0 (1048576) _ E_a0.out (by omega) (by have := N0; omega) hn0 hle00).mono ?_
  rintro e w2 ⟨rfl, hb⟩
  clear Q_a00 Q_a01 Q_a02
  replace E_a0 := Lib.hid (E_a0.out.step hb)
  replace X_a0 := Lib.hid (X_a0.out.step hb)
  replace B := Lib.hid (B.out.trans (hb.mono B.out.size))
  clear hb hw1
  by_cases hbig0 : (1048576 : Int) < tkN nm0 x00
  · rw [if_pos hbig0]
    go_wp2_with fail
    go_ret
    exact ⟨rfl, B.out⟩
  rw [if_neg hbig0]
  have hm00 : x00.length ≤ 1048576 := by have := N0; omega
  have hl0 : 0 ≤ (1048576 - tkN nm0 x00 : Int) := by omega
  clear hbig0
  obtain ⟨b, hbe⟩ : ∃ b, vtB nm0 r0 x00 = b := ⟨_, rfl⟩
  have HS := Lib.hid (fun (u00 : Value) (W : World) (e0 : TkR W u00 x00) => (show Calls Try.prog 23 #[.agg #[.string nm0, .int .i64 r0, u00]] W (fun e w' => e = .returned (.bool b) ∧ Below W.heap.size W w') by rw [← hbe]; exact vtS_R _ _ _ _ W e0 hw0 hm00))
  have HI := Lib.hid (fun (u00 : Value) (W : World) (e0 : TkR W u00 x00) => (show Calls Try.prog 25 #[.agg #[.string nm0, .int .i64 r0, u00]] W (fun e w' => e = .returned (.bool b) ∧ Below W.heap.size W w') by rw [← hbe]; exact vtI_R _ _ _ _ W e0 hw0 hm00))
  clear hbe
  have Q_a00 := (X_a0.out.2 0 _ rfl).1
  have Q_a01 := (X_a0.out.2 1 _ rfl).1
  have Q_a02 := (X_a0.out.2 2 _ rfl).1
  go_wp2_with fail
  refine (toT_R v00 x00 nm0 r0 _ (E_a0.out) hm00).mono ?_
  rintro e w3 ⟨c0_0, rfl, hr, hb⟩
  clear Q_a00 Q_a01 Q_a02
  replace E_a0 := Lib.hid (E_a0.out.step hb)
  replace X_a0 := Lib.hid (X_a0.out.step hb)
  replace B := Lib.hid (B.out.trans (hb.mono B.out.size))
  have E_c0 := Lib.hid (show TkR w3 c0_0 x00 from hr)
  clear hr hb
  go_wp2_with fail
  refine (HS.out _ _ E_c0.out).mono ?_
  rintro e w4 ⟨rfl, hb⟩
  clear E_c0
  replace E_a0 := Lib.hid (E_a0.out.step hb)
  replace X_a0 := Lib.hid (X_a0.out.step hb)
  replace B := Lib.hid (B.out.trans (hb.mono B.out.size))
  clear hb
  have Q_a00 := (X_a0.out.2 0 _ rfl).1
  have Q_a01 := (X_a0.out.2 1 _ rfl).1
  have Q_a02 := (X_a0.out.2 2 _ rfl).1
  go_wp2_with fail
  refine (toT_R v00 x00 nm0 r0 _ (E_a0.out) hm00).mono ?_
  rintro e w5 ⟨y0_0, rfl, hr, hb⟩
  obtain ⟨Ay0_0, cy0_0, hv, _, _, _⟩ := id (hr)
  rw [fl_len] at hv
  subst hv
  clear Q_a00 Q_a01 Q_a02
  replace E_a0 := Lib.hid (E_a0.out.step hb)
  replace X_a0 := Lib.hid (X_a0.out.step hb)
  replace B := Lib.hid (B.out.trans (hb.mono B.out.size))
  have E_y0 := Lib.hid (show TkR w5 (.slice Ay0_0 x00.length cy0_0) x00 from hr)
  clear hr hb
  obtain ⟨w6, hw6⟩ : ∃ W, w5.alloc (.cells #[.string nm0, .int .i64 r0, (.slice Ay0_0 x00.length cy0_0)] 48) = W := ⟨_, rfl⟩
  have hb : Below w5.heap.size w5 w6 := by rw [← hw6]; exact (Below.refl _ _).alloc (Nat.le_refl _) _
  have hx : Bx w6 w5.heap.size [.string nm0, .int .i64 r0, (.slice Ay0_0 x00.length cy0_0)] := by rw [← hw6]; exact bx_new w5 [.string nm0, .int .i64 r0, (.slice Ay0_0 x00.length cy0_0)] _
  replace E_a0 := Lib.hid (E_a0.out.step hb)
  replace E_y0 := Lib.hid (E_y0.out.step hb)
  replace X_a0 := Lib.hid (X_a0.out.step hb)
  replace B := Lib.hid (B.out.trans (hb.mono B.out.size))
  have X_y0 := Lib.hid hx
  clear hb hx
  have Q_y00 := (X_y0.out.2 0 _ rfl).1
  have Q_y01 := (X_y0.out.2 1 _ rfl).1
  have Q_y02 := (X_y0.out.2 2 _ rfl).1
  go_wp2_with fail
  refine (HI.out _ _ E_y0.out).mono ?_
  rintro e w7 ⟨rfl, hb⟩
  clear Q_y00 Q_y01 Q_y02
  replace E_a0 := Lib.hid (E_a0.out.step hb)
  replace E_y0 := Lib.hid (E_y0.out.step hb)
  replace X_a0 := Lib.hid (X_a0.out.step hb)
  replace X_y0 := Lib.hid (X_y0.out.step hb)
  replace B := Lib.hid (B.out.trans (hb.mono B.out.size))
  clear hb
  have Q_a00 := (X_a0.out.2 0 _ rfl).1
  have Q_a01 := (X_a0.out.2 1 _ rfl).1
  have Q_a02 := (X_a0.out.2 2 _ rfl).1
  have Q_y00 := (X_y0.out.2 0 _ rfl).1
  have Q_y01 := (X_y0.out.2 1 _ rfl).1
  have Q_y02 := (X_y0.out.2 2 _ rfl).1
  go_wp2_with fail
  go_region_held3 (fun w' => w'.cell? ⟨w.heap.size, 0, none⟩ = some (.string nm0) ∧ w'.cell? ⟨w.heap.size, 1, none⟩ = some (.int .i64 r0) ∧ w'.cell? ⟨w.heap.size, 2, none⟩ = some (v00) ∧ w'.cell? ⟨w5.heap.size, 0, none⟩ = some (.string nm0) ∧ w'.cell? ⟨w5.heap.size, 1, none⟩ = some (.int .i64 r0) ∧ w'.cell? ⟨w5.heap.size, 2, none⟩ = some ((.slice Ay0_0 x00.length cy0_0))) (first | exact ⟨(X_a0.out.2 0 _ rfl).1, (X_a0.out.2 1 _ rfl).1, (X_a0.out.2 2 _ rfl).1, (X_y0.out.2 0 _ rfl).1, (X_y0.out.2 1 _ rfl).1, (X_y0.out.2 2 _ rfl).1⟩ | exact ⟨(X_a0_1.out.2 0 _ rfl).1, (X_a0_1.out.2 1 _ rfl).1, (X_a0_1.out.2 2 _ rfl).1, (X_y0_1.out.2 0 _ rfl).1, (X_y0_1.out.2 1 _ rfl).1, (X_y0_1.out.2 2 _ rfl).1⟩ | exact ⟨(X_a0_2.out.2 0 _ rfl).1, (X_a0_2.out.2 1 _ rfl).1, (X_a0_2.out.2 2 _ rfl).1, (X_y0_2.out.2 0 _ rfl).1, (X_y0_2.out.2 1 _ rfl).1, (X_y0_2.out.2 2 _ rfl).1⟩) ((first | (go_at_call 24; refine (toT_R v00 x00 nm0 r0 _ (?_) hm00).mono ?_; exact E_a0.out; rintro e w8 ⟨d0_0, rfl, hr, hb8⟩; replace hb8 : Below w7.heap.size w7 w8 := below_draw1 hb8; have E_a0_1 := Lib.hid (E_a0.out.step hb8); have E_y0_1 := Lib.hid (E_y0.out.step hb8); have X_a0_1 := Lib.hid (X_a0.out.step hb8); have X_y0_1 := Lib.hid (X_y0.out.step hb8); have E_d0_1 := Lib.hid (show TkR w8 d0_0 x00 from hr)) | (go_at_call 26; refine (eqT_R (.slice Ay0_0 x00.length cy0_0) d0_0 x00 nm0 r0 _ (?_) (?_) hm00).mono ?_; exact E_y0_1.out; exact E_d0_1.out; rintro e w9 ⟨rfl, hb9⟩; have E_a0_2 := Lib.hid (E_a0_1.out.step hb9); have E_y0_2 := Lib.hid (E_y0_1.out.step hb9); have E_d0_2 := Lib.hid (E_d0_1.out.step hb9); have X_a0_2 := Lib.hid (X_a0_1.out.step hb9); have X_y0_2 := Lib.hid (X_y0_1.out.step hb9))))
  have hc : Below w7.heap.size w7 w9 := (hb8.trans (hb9.mono (by have := hb8.size; omega)))
  clear E_a0_1 E_y0_1 X_a0_1 X_y0_1 E_d0_1 E_a0_2 E_y0_2 E_d0_2 X_a0_2 X_y0_2
  clear Q_a00 Q_a01 Q_a02 Q_y00 Q_y01 Q_y02
  replace E_a0 := Lib.hid (E_a0.out.step hc)
  replace E_y0 := Lib.hid (E_y0.out.step hc)
  replace X_a0 := Lib.hid (X_a0.out.step hc)
  replace X_y0 := Lib.hid (X_y0.out.step hc)
  replace B := Lib.hid (B.out.trans (hc.mono B.out.size))
  clear hc hb8 hb9
  clear hr
  go_wp2_with fail
  go_ret
  exact ⟨rfl, B.out⟩

namespace fnExactValidTake
open Go.ChangeShapes Go.WideShapes Go.ChangeAt Go.RowKit
open Go.ChangeMaps (open_string)
set_option linter.unusedVariables false
theorem own : ownKnob Try.prog.godebug = none := by kernel_rfl
theorem laidOut : laidOutB Try.prog = true := by kernel_rfl
set_option maxRecDepth 100000 in
theorem lifted (os : Os) (started : os.Started) (H : Type) (enc : TypeId × Value → H) :
    ReturnsInHanded {} Try.checked os 5 .any (Rows.fnExactValidTakeSpec.pre6 enc Try.prog Try.f5 Rows.fnExactValidTakeRow.domain false) (Rows.fnExactValidTakeSpec.post enc Try.prog Try.f5 false true false false) := by
  refine returnsInHanded_of_change (C := Try.checked) own started (by kernel_rfl) Try.func5
    (ChangeSpec.witness6 (enc := enc) (C := Try.checked) false ⟨#[], #[.agg #[.string ⟨#[]⟩, .int .i64 0, .slice none 0 0]], []⟩ 8 (by kernel_rfl) (by kernel_rfl) (by kernel_rfl) (by kernel_rfl)) ?_
  intro W base args ds gs before hval0 hW hcnd _
  have hval : ∀ (j : Nat) t v, Try.f5.params[j]? = some t → args[j]? = some v → Value.okWide Try.prog W .any base t v := hval0
  have hW' := hW
  have hlt0 := hW.lt
  obtain ⟨p, q, hA0, hV, rfl, hfz, hnd⟩ := hW
  have hA : DataW.TrodAll enc Try.prog W 0 (fun _ => true) true Try.f5.params.toList args.toList ds p := hA0
  have hAk := hA
  have hltp : ∀ x ∈ p, x.block < W.heap.size := fun x hx => hlt0 x (List.mem_append_left _ hx)
  have hread : ∀ t ∈ Try.f5.params.toList, Try.prog.readableRec t = true ∧ t < Try.prog.types.size := by
    rw [Try.params5]
    intro t ht
    simp only [List.mem_cons, List.not_mem_nil, or_false] at ht
    rcases ht with rfl <;> exact ⟨by kernel_rfl, of_decide_eq_true (by kernel_rfl)⟩
  rw [Try.params5] at hA hval
  obtain ⟨v0, vs0, d0, ds0, p0, q0, hargs, rfl, rfl, h0, r0⟩ := trodAll_cons hA
  obtain ⟨rfl, rfl, rfl⟩ := trodAll_nil r0
  obtain rfl : args = #[v0] := by cases args; simp_all
  obtain ⟨rfl, rfl⟩ := trodVars_none hV
  obtain ⟨v00, x00, nm0, r0c, rfl, r00, z00⟩ := open_take Try.underlying45 (by kernel_rfl) ⟨by kernel_rfl, by kernel_rfl⟩ ⟨by kernel_rfl, by kernel_rfl⟩ ⟨by kernel_rfl, by kernel_rfl⟩ Try.underlying9 Try.underlying2 Try.underlying22 Try.underlying23 (by kernel_rfl) (hval 0 45 v0 rfl rfl) h0 (fun x hx => hltp x (by simp [hx]))
  clear hA0 hval0
  refine (walk W v00 x00 nm0 r0c r00 z00).mono fun e W' ⟨he, hg⟩ => ?_
  subst he
  exact ⟨_, rfl, post_grown (pv := []) hW' hg (fun _ _ _ => (trodAll_cons_mk (shut_bool Try.underlying4 _) trodAll_mk0)) (trodAll_low laidOut hg _ _ _ _ hread hltp hAk) rfl rfl⟩

theorem over : Rows.fnExactValidTakeRow.holds Try.pinned (OpenSpec.ofChange Rows.fnExactValidTakeSpec) :=
  OpenClaim.holds_of_wide 5 Try.f5 rfl rfl rfl rfl rfl rfl rfl ⟨rfl, rfl, rfl, rfl, rfl⟩ rfl rfl rfl rfl rfl (by kernel_rfl) Try.func5 (by kernel_rfl)
    (of_decide_eq_true (by kernel_rfl)) (by unfold Func.isWrapper; first | (rw [if_pos (by decide +kernel)]; kernel_rfl) | (rw [if_neg (by decide +kernel)]; exact ⟨rfl, rfl⟩))
    (fun os started H enc _ => lifted os started H enc)

theorem proved : Rows.FnExactValidTakeSaid := over
end fnExactValidTake
end Go.Proofs.Ythkklilfignmpaa
