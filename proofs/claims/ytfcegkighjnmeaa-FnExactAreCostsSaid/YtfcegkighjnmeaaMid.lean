/-
  Contracts: halves of sums of two numbers of a list.
-/
import Derived.Test.YtfcegkighjnmeaaGrl
namespace Go.Proofs.Ytfcegkighjnmeaa
open Go.RowKit Fl
set_option linter.unusedVariables false

set_option maxRecDepth 100000 in
set_option maxHeartbeats 2000000 in
theorem midI_any (A : Option Addr) (n c i f : Nat) (xs cs : List Nat) (w : World) (B : Nat) (h : Rd w B (.slice A n c) (fl xs)) (hn : n ≤ 1048576) (hw : IsW xs cs) (h1 : f ≤ i) (h2 : i + f < n) :
    Calls Try.prog 86 #[.slice A n c, .int .i64 i, .int .i64 f] w (RetF .f32 (h2F (cs.getD (i - f) 0) (cs.getD (i + f) 0)) w) := by
  obtain ⟨b, off, rfl, hb, hc⟩ := h.num (i := i) (by omega)
  obtain ⟨p, hp⟩ : ∃ p, i - f = p := ⟨_, rfl⟩
  obtain ⟨q, hq⟩ : ∃ q, i + f = q := ⟨_, rfl⟩
  rw [hp, hq]
  have c1 := hc p (by omega)
  have c2 := hc q (by omega)
  have k1 := hw.at p
  have k2 := hw.at q
  generalize xs.getD p 0 = x at *
  generalize xs.getD q 0 = y at *
  generalize cs.getD p 0 = cx at *
  generalize cs.getD q 0 = cy at *
  have e1 : (i : Int) - f = p := by omega
  have e2 : (i : Int) + f = q := by omega
  have b1 : p < n := by omega
  have b2 : q < n := by omega
  clear h hw hc hp hq h1 h2
  go_enter Try.func86, Try.ntmps86
  go_wp2_with fail
  refine Sf.wp_soft [false, false, false, false, false, false, false, false, false, false, false, false, false, false, false] [true, true, true, true, true, true, true, true, true, true, true, true, true, true, true] (fun i => if i = 12 then 0 else if i = 13 then 0 else 1) (fun _ => undef) (by kernel_rfl) (by kernel_rfl) (by kernel_rfl) ?_
  simp only [Sf.tl]
  refine Sf.lx_one rfl rfl (fun K hK => Sf.dft_quiet rfl ?_)
  go_big_quiet_op
  refine hK _ ?_
  clear hK K
  refine Sf.lx_one rfl rfl (fun K hK => Sf.dft_quiet rfl ?_)
  go_big_quiet_op
  refine hK _ ?_
  clear hK K
  refine Sf.lx_one rfl rfl (fun K hK => Sf.dft_quiet rfl ?_)
  go_big_quiet_op
  refine hK _ ?_
  clear hK K
  refine Sf.lx_one rfl rfl (fun K hK => Sf.dft_quiet rfl ?_)
  go_big_quiet_op
  refine hK _ ?_
  clear hK K
  refine Sf.lx_one rfl rfl (fun K hK => Sf.dft_quiet rfl ?_)
  go_big_quiet_op
  refine hK _ ?_
  clear hK K
  refine Sf.lx_one rfl rfl (fun K hK => Sf.dft_quiet rfl ?_)
  go_big_quiet_op
  refine hK _ ?_
  clear hK K
  refine Sf.lx_one rfl rfl (fun K hK => Sf.dft_quiet rfl ?_)
  go_big_quiet_op
  refine hK _ ?_
  clear hK K
  refine Sf.lx_one rfl rfl (fun K hK => Sf.dft_quiet rfl ?_)
  go_big_quiet_op
  refine hK _ ?_
  clear hK K
  refine Sf.lx_one rfl rfl (fun K hK => Sf.dft_quiet rfl ?_)
  go_big_quiet_op
  refine hK _ ?_
  clear hK K
  refine Sf.lx_one rfl rfl (fun K hK => Sf.dft_quiet rfl ?_)
  go_big_quiet_op
  refine hK _ ?_
  clear hK K
  refine Sf.lx_one rfl rfl (fun K hK => Sf.dft_quiet rfl ?_)
  go_big_quiet_op
  refine hK _ ?_
  clear hK K
  refine Sf.lx_one rfl rfl (fun K hK => Sf.dft_quiet rfl ?_)
  go_big_quiet_op
  refine hK _ ?_
  clear hK K
  refine Sf.lx_fl rfl rfl (fun K hK => Sf.sft_ar (k := .f32) rfl rfl rfl rfl (k1) (k2) (fun r19 hr19 => hK _ ?_))
  clear hK K
  simp only [Act.put, List.setIfInBounds_toArray, List.set_cons_zero, List.set_cons_succ]
  refine Sf.lx_fl rfl rfl (fun K hK => Sf.sft_ar (k := .f32) rfl rfl rfl rfl (hr19) (is_lit (by decide)) (fun r20 hr20 => hK _ ?_))
  clear hK K
  simp only [Act.put, List.setIfInBounds_toArray, List.set_cons_zero, List.set_cons_succ]
  refine Sf.lx_one rfl rfl (fun K hK => Sf.dft_quiet rfl ?_)
  go_big_quiet_op
  refine hK _ ?_
  clear hK K
  refine Sf.lx_nil ?_
  rintro _ ⟨nq, rfl⟩
  go_wp2
  go_ret
  exact ⟨_, _, rfl, hr20, rfl⟩
end Go.Proofs.Ytfcegkighjnmeaa
