/-
  Contracts: two valid pictures with the same sides, of both sides.
  Contracts: two valid pictures with the same sides, of both sides.
-/
import Derived.Test.YtfbdmhkmkmbipaaBk
import Derived.Test.YtfbdmhkmkmbipaaPv
import Derived.Test.YtfbdmhkmkmbipaaSfw
import Derived.Deep.RegionHeld3
import Derived.Deep.QuietTactic
import Derived.BigQuiet
namespace Go.Proofs.Ytfbdmhkmkmbipaa
open Go.RowKit Fl
set_option linter.unusedVariables false
set_option maxRecDepth 100000
set_option maxHeartbeats 8000000 in
theorem botS_any (g0 g1 : Nat) (v0 : Value) (p0 q0 : Int) (a0 : List Nat) (v1 : Value) (p1 q1 : Int) (a1 : List Nat) (w : World) (B : Nat) (h0 : Rd w B v0 (fl a0)) (h1 : Rd w B v1 (fl a1)) (hX : Bx w g0 [.int .i64 p0, .int .i64 q0, v0]) (hY : Bx w g1 [.int .i64 p1, .int .i64 q1, v1]) (hm0 : a0.length ≤ 1048576) (hx0 : ∀ x ∈ a0, x < 2 ^ 32) (hm1 : a1.length ≤ 1048576) (hx1 : ∀ x ∈ a1, x < 2 ^ 32) :
    Calls Try.prog 84 #[.pointer (some ⟨g0, 0, none⟩), .pointer (some ⟨g1, 0, none⟩)] w (RetBo (botB p0 q0 a0 p1 q1 a1) w) := by
  have HC0 := Lib.hid (fun (m : Nat) => vpP_any g0 v0 p0 q0 a0 (w.drewN m) B h0 (hX.2 0 _ rfl).1 (hX.2 1 _ rfl).1 (hX.2 2 _ rfl).1 hm0 hx0)
  have HC1 := Lib.hid (fun (m : Nat) => vpP_any g1 v1 p1 q1 a1 (w.drewN m) B h1 (hY.2 0 _ rfl).1 (hY.2 1 _ rfl).1 (hY.2 2 _ rfl).1 hm1 hx1)
  have x0 := (hX.2 0 _ rfl).1
  have x1 := (hX.2 1 _ rfl).1
  have y0 := (hY.2 0 _ rfl).1
  have y1 := (hY.2 1 _ rfl).1
  clear h0 h1 hX hY hx0 hx1
  cases b0 : vpcB p0 q0 a0 with
  | false =>
    have HV := Lib.hid (show botB p0 q0 a0 p1 q1 a1 = false by unfold botB; rw [b0]; rfl)
    rw [b0] at HC0
    clear b0
    go_enter Try.func84, Try.ntmps84
    go_wp2_with fail
    refine Sf.wp_soft [false, false, false, false, false, false, false, false, false, false, false, false, false, false, false, false, false, false, false, false, false, false, false, false, false, false, false, false, false] [true, true, true, true, true, true, true, true, true, true, true, true, true, true, true, true, true, true, true, true, true, true, true, true, true, true, true, true, true] (fun i => 1) (fun i => if i = 1 then .bool false else undef) (by kernel_rfl) (by kernel_rfl) (by kernel_rfl) ?_
    simp only [Sf.tl]
    with_reducible refine Sf.lx_one (by kernel_rfl) (by kernel_rfl) ?_
    intro K hK
    refine Sf.dft_quiet rfl ?_
    go_big_quiet_op
    with_reducible refine hK _ ?_
    clear hK K
    with_reducible refine Sf.lx_one (by kernel_rfl) (by kernel_rfl) ?_
    intro K hK
    refine Sf.dft_call ?_ ?_
    · clear hK K; rintro _ ⟨nc, rfl⟩; go_simp; exact (HC0.out _).mono fun e w' ⟨he, q, hw⟩ => ⟨he, nc + q, by rw [hw, World.drewN_drewN]⟩
    with_reducible refine hK _ ?_
    clear hK K
    (try simp only [Act.put, List.setIfInBounds_toArray, List.set_cons_zero, List.set_cons_succ, if_true, if_false, reduceIte, Nat.reduceEqDiff])
    with_reducible refine Sf.lx_one (by kernel_rfl) (by kernel_rfl) ?_
    intro K hK
    refine Sf.dft_quiet rfl ?_
    go_big_quiet_op
    with_reducible refine hK _ ?_
    clear hK K
    with_reducible refine Sf.lx_skip (by kernel_rfl) ?_
    simp only [Act.put, List.setIfInBounds_toArray, List.set_cons_zero, List.set_cons_succ]
    with_reducible refine Sf.lx_skip (by kernel_rfl) ?_
    simp only [Act.put, List.setIfInBounds_toArray, List.set_cons_zero, List.set_cons_succ]
    with_reducible refine Sf.lx_one (by kernel_rfl) (by kernel_rfl) ?_
    intro K hK
    refine Sf.dft_quiet rfl ?_
    go_big_quiet_op
    with_reducible refine hK _ ?_
    clear hK K
    with_reducible refine Sf.lx_one (by kernel_rfl) (by kernel_rfl) ?_
    intro K hK
    refine Sf.dft_quiet rfl ?_
    go_big_quiet_op
    with_reducible refine hK _ ?_
    clear hK K
    with_reducible refine Sf.lx_skip (by kernel_rfl) ?_
    simp only [Act.put, List.setIfInBounds_toArray, List.set_cons_zero, List.set_cons_succ]
    with_reducible refine Sf.lx_skip (by kernel_rfl) ?_
    simp only [Act.put, List.setIfInBounds_toArray, List.set_cons_zero, List.set_cons_succ]
    with_reducible refine Sf.lx_skip (by kernel_rfl) ?_
    simp only [Act.put, List.setIfInBounds_toArray, List.set_cons_zero, List.set_cons_succ]
    with_reducible refine Sf.lx_skip (by kernel_rfl) ?_
    simp only [Act.put, List.setIfInBounds_toArray, List.set_cons_zero, List.set_cons_succ]
    with_reducible refine Sf.lx_skip (by kernel_rfl) ?_
    simp only [Act.put, List.setIfInBounds_toArray, List.set_cons_zero, List.set_cons_succ]
    with_reducible refine Sf.lx_skip (by kernel_rfl) ?_
    simp only [Act.put, List.setIfInBounds_toArray, List.set_cons_zero, List.set_cons_succ]
    with_reducible refine Sf.lx_skip (by kernel_rfl) ?_
    simp only [Act.put, List.setIfInBounds_toArray, List.set_cons_zero, List.set_cons_succ]
    with_reducible refine Sf.lx_skip (by kernel_rfl) ?_
    simp only [Act.put, List.setIfInBounds_toArray, List.set_cons_zero, List.set_cons_succ]
    with_reducible refine Sf.lx_skip (by kernel_rfl) ?_
    simp only [Act.put, List.setIfInBounds_toArray, List.set_cons_zero, List.set_cons_succ]
    with_reducible refine Sf.lx_one (by kernel_rfl) (by kernel_rfl) ?_
    intro K hK
    refine Sf.dft_quiet rfl ?_
    go_big_quiet_op
    with_reducible refine hK _ ?_
    clear hK K
    with_reducible refine Sf.lx_one (by kernel_rfl) (by kernel_rfl) ?_
    intro K hK
    refine Sf.dft_quiet rfl ?_
    go_big_quiet_op
    with_reducible refine hK _ ?_
    clear hK K
    with_reducible refine Sf.lx_skip (by kernel_rfl) ?_
    simp only [Act.put, List.setIfInBounds_toArray, List.set_cons_zero, List.set_cons_succ]
    with_reducible refine Sf.lx_skip (by kernel_rfl) ?_
    simp only [Act.put, List.setIfInBounds_toArray, List.set_cons_zero, List.set_cons_succ]
    with_reducible refine Sf.lx_skip (by kernel_rfl) ?_
    simp only [Act.put, List.setIfInBounds_toArray, List.set_cons_zero, List.set_cons_succ]
    with_reducible refine Sf.lx_skip (by kernel_rfl) ?_
    simp only [Act.put, List.setIfInBounds_toArray, List.set_cons_zero, List.set_cons_succ]
    with_reducible refine Sf.lx_skip (by kernel_rfl) ?_
    simp only [Act.put, List.setIfInBounds_toArray, List.set_cons_zero, List.set_cons_succ]
    with_reducible refine Sf.lx_skip (by kernel_rfl) ?_
    simp only [Act.put, List.setIfInBounds_toArray, List.set_cons_zero, List.set_cons_succ]
    with_reducible refine Sf.lx_skip (by kernel_rfl) ?_
    simp only [Act.put, List.setIfInBounds_toArray, List.set_cons_zero, List.set_cons_succ]
    with_reducible refine Sf.lx_skip (by kernel_rfl) ?_
    simp only [Act.put, List.setIfInBounds_toArray, List.set_cons_zero, List.set_cons_succ]
    with_reducible refine Sf.lx_skip (by kernel_rfl) ?_
    simp only [Act.put, List.setIfInBounds_toArray, List.set_cons_zero, List.set_cons_succ]
    with_reducible refine Sf.lx_one (by kernel_rfl) (by kernel_rfl) ?_
    intro K hK
    refine Sf.dft_quiet rfl ?_
    go_big_quiet_op
    with_reducible refine hK _ ?_
    clear hK K
    with_reducible refine Sf.lx_one (by kernel_rfl) (by kernel_rfl) ?_
    intro K hK
    refine Sf.dft_quiet rfl ?_
    go_big_quiet_op
    with_reducible refine hK _ ?_
    clear hK K
    with_reducible refine Sf.lx_nil ?_
    rintro _ ⟨nq, rfl⟩
    go_wp2
    go_ret
    rw [HV.out]
    exact ⟨rfl, _, rfl⟩
  | true =>
    cases b1 : vpcB p1 q1 a1 with
    | false =>
      have HV := Lib.hid (show botB p0 q0 a0 p1 q1 a1 = false by unfold botB; rw [b0, b1]; rfl)
      rw [b0] at HC0
      rw [b1] at HC1
      clear b0 b1
      go_enter Try.func84, Try.ntmps84
      go_wp2_with fail
      refine Sf.wp_soft [false, false, false, false, false, false, false, false, false, false, false, false, false, false, false, false, false, false, false, false, false, false, false, false, false, false, false, false, false] [true, true, true, true, true, true, true, true, true, true, true, true, true, true, true, true, true, true, true, true, true, true, true, true, true, true, true, true, true] (fun i => 1) (fun i => if i = 1 then .bool true else if i = 4 then .bool false else undef) (by kernel_rfl) (by kernel_rfl) (by kernel_rfl) ?_
      simp only [Sf.tl]
      with_reducible refine Sf.lx_one (by kernel_rfl) (by kernel_rfl) ?_
      intro K hK
      refine Sf.dft_quiet rfl ?_
      go_big_quiet_op
      with_reducible refine hK _ ?_
      clear hK K
      with_reducible refine Sf.lx_one (by kernel_rfl) (by kernel_rfl) ?_
      intro K hK
      refine Sf.dft_call ?_ ?_
      · clear hK K; rintro _ ⟨nc, rfl⟩; go_simp; exact (HC0.out _).mono fun e w' ⟨he, q, hw⟩ => ⟨he, nc + q, by rw [hw, World.drewN_drewN]⟩
      with_reducible refine hK _ ?_
      clear hK K
      (try simp only [Act.put, List.setIfInBounds_toArray, List.set_cons_zero, List.set_cons_succ, if_true, if_false, reduceIte, Nat.reduceEqDiff])
      with_reducible refine Sf.lx_one (by kernel_rfl) (by kernel_rfl) ?_
      intro K hK
      refine Sf.dft_quiet rfl ?_
      go_big_quiet_op
      with_reducible refine hK _ ?_
      clear hK K
      with_reducible refine Sf.lx_one (by kernel_rfl) (by kernel_rfl) ?_
      intro K hK
      refine Sf.dft_quiet rfl ?_
      go_big_quiet_op
      with_reducible refine hK _ ?_
      clear hK K
      with_reducible refine Sf.lx_one (by kernel_rfl) (by kernel_rfl) ?_
      intro K hK
      refine Sf.dft_call ?_ ?_
      · clear hK K; rintro _ ⟨nc, rfl⟩; go_simp; exact (HC1.out _).mono fun e w' ⟨he, q, hw⟩ => ⟨he, nc + q, by rw [hw, World.drewN_drewN]⟩
      with_reducible refine hK _ ?_
      clear hK K
      (try simp only [Act.put, List.setIfInBounds_toArray, List.set_cons_zero, List.set_cons_succ, if_true, if_false, reduceIte, Nat.reduceEqDiff])
      with_reducible refine Sf.lx_one (by kernel_rfl) (by kernel_rfl) ?_
      intro K hK
      refine Sf.dft_quiet rfl ?_
      go_big_quiet_op
      with_reducible refine hK _ ?_
      clear hK K
      with_reducible refine Sf.lx_one (by kernel_rfl) (by kernel_rfl) ?_
      intro K hK
      refine Sf.dft_quiet rfl ?_
      go_big_quiet_op
      with_reducible refine hK _ ?_
      clear hK K
      with_reducible refine Sf.lx_skip (by kernel_rfl) ?_
      simp only [Act.put, List.setIfInBounds_toArray, List.set_cons_zero, List.set_cons_succ]
      with_reducible refine Sf.lx_skip (by kernel_rfl) ?_
      simp only [Act.put, List.setIfInBounds_toArray, List.set_cons_zero, List.set_cons_succ]
      with_reducible refine Sf.lx_skip (by kernel_rfl) ?_
      simp only [Act.put, List.setIfInBounds_toArray, List.set_cons_zero, List.set_cons_succ]
      with_reducible refine Sf.lx_skip (by kernel_rfl) ?_
      simp only [Act.put, List.setIfInBounds_toArray, List.set_cons_zero, List.set_cons_succ]
      with_reducible refine Sf.lx_skip (by kernel_rfl) ?_
      simp only [Act.put, List.setIfInBounds_toArray, List.set_cons_zero, List.set_cons_succ]
      with_reducible refine Sf.lx_skip (by kernel_rfl) ?_
      simp only [Act.put, List.setIfInBounds_toArray, List.set_cons_zero, List.set_cons_succ]
      with_reducible refine Sf.lx_skip (by kernel_rfl) ?_
      simp only [Act.put, List.setIfInBounds_toArray, List.set_cons_zero, List.set_cons_succ]
      with_reducible refine Sf.lx_skip (by kernel_rfl) ?_
      simp only [Act.put, List.setIfInBounds_toArray, List.set_cons_zero, List.set_cons_succ]
      with_reducible refine Sf.lx_skip (by kernel_rfl) ?_
      simp only [Act.put, List.setIfInBounds_toArray, List.set_cons_zero, List.set_cons_succ]
      with_reducible refine Sf.lx_one (by kernel_rfl) (by kernel_rfl) ?_
      intro K hK
      refine Sf.dft_quiet rfl ?_
      go_big_quiet_op
      with_reducible refine hK _ ?_
      clear hK K
      with_reducible refine Sf.lx_one (by kernel_rfl) (by kernel_rfl) ?_
      intro K hK
      refine Sf.dft_quiet rfl ?_
      go_big_quiet_op
      with_reducible refine hK _ ?_
      clear hK K
      with_reducible refine Sf.lx_skip (by kernel_rfl) ?_
      simp only [Act.put, List.setIfInBounds_toArray, List.set_cons_zero, List.set_cons_succ]
      with_reducible refine Sf.lx_skip (by kernel_rfl) ?_
      simp only [Act.put, List.setIfInBounds_toArray, List.set_cons_zero, List.set_cons_succ]
      with_reducible refine Sf.lx_skip (by kernel_rfl) ?_
      simp only [Act.put, List.setIfInBounds_toArray, List.set_cons_zero, List.set_cons_succ]
      with_reducible refine Sf.lx_skip (by kernel_rfl) ?_
      simp only [Act.put, List.setIfInBounds_toArray, List.set_cons_zero, List.set_cons_succ]
      with_reducible refine Sf.lx_skip (by kernel_rfl) ?_
      simp only [Act.put, List.setIfInBounds_toArray, List.set_cons_zero, List.set_cons_succ]
      with_reducible refine Sf.lx_skip (by kernel_rfl) ?_
      simp only [Act.put, List.setIfInBounds_toArray, List.set_cons_zero, List.set_cons_succ]
      with_reducible refine Sf.lx_skip (by kernel_rfl) ?_
      simp only [Act.put, List.setIfInBounds_toArray, List.set_cons_zero, List.set_cons_succ]
      with_reducible refine Sf.lx_skip (by kernel_rfl) ?_
      simp only [Act.put, List.setIfInBounds_toArray, List.set_cons_zero, List.set_cons_succ]
      with_reducible refine Sf.lx_skip (by kernel_rfl) ?_
      simp only [Act.put, List.setIfInBounds_toArray, List.set_cons_zero, List.set_cons_succ]
      with_reducible refine Sf.lx_one (by kernel_rfl) (by kernel_rfl) ?_
      intro K hK
      refine Sf.dft_quiet rfl ?_
      go_big_quiet_op
      with_reducible refine hK _ ?_
      clear hK K
      with_reducible refine Sf.lx_one (by kernel_rfl) (by kernel_rfl) ?_
      intro K hK
      refine Sf.dft_quiet rfl ?_
      go_big_quiet_op
      with_reducible refine hK _ ?_
      clear hK K
      with_reducible refine Sf.lx_nil ?_
      rintro _ ⟨nq, rfl⟩
      go_wp2
      go_ret
      rw [HV.out]
      exact ⟨rfl, _, rfl⟩
    | true =>
      by_cases hp : p0 = p1
      · subst hp
        by_cases hq : q0 = q1
        · subst hq
          have HV := Lib.hid (show botB p0 q0 a0 p0 q0 a1 = true by unfold botB; rw [b0, b1]; simp)
          rw [b0] at HC0
          rw [b1] at HC1
          clear b0 b1
          go_enter Try.func84, Try.ntmps84
          go_wp2_with fail
          refine Sf.wp_soft [false, false, false, false, false, false, false, false, false, false, false, false, false, false, false, false, false, false, false, false, false, false, false, false, false, false, false, false, false] [true, true, true, true, true, true, true, true, true, true, true, true, true, true, true, true, true, true, true, true, true, true, true, true, true, true, true, true, true] (fun i => 1) (fun i => if i = 1 then .bool true else if i = 4 then .bool true else undef) (by kernel_rfl) (by kernel_rfl) (by kernel_rfl) ?_
          simp only [Sf.tl]
          with_reducible refine Sf.lx_one (by kernel_rfl) (by kernel_rfl) ?_
          intro K hK
          refine Sf.dft_quiet rfl ?_
          go_big_quiet_op
          with_reducible refine hK _ ?_
          clear hK K
          with_reducible refine Sf.lx_one (by kernel_rfl) (by kernel_rfl) ?_
          intro K hK
          refine Sf.dft_call ?_ ?_
          · clear hK K; rintro _ ⟨nc, rfl⟩; go_simp; exact (HC0.out _).mono fun e w' ⟨he, q, hw⟩ => ⟨he, nc + q, by rw [hw, World.drewN_drewN]⟩
          with_reducible refine hK _ ?_
          clear hK K
          (try simp only [Act.put, List.setIfInBounds_toArray, List.set_cons_zero, List.set_cons_succ, if_true, if_false, reduceIte, Nat.reduceEqDiff])
          with_reducible refine Sf.lx_one (by kernel_rfl) (by kernel_rfl) ?_
          intro K hK
          refine Sf.dft_quiet rfl ?_
          go_big_quiet_op
          with_reducible refine hK _ ?_
          clear hK K
          with_reducible refine Sf.lx_one (by kernel_rfl) (by kernel_rfl) ?_
          intro K hK
          refine Sf.dft_quiet rfl ?_
          go_big_quiet_op
          with_reducible refine hK _ ?_
          clear hK K
          with_reducible refine Sf.lx_one (by kernel_rfl) (by kernel_rfl) ?_
          intro K hK
          refine Sf.dft_call ?_ ?_
          · clear hK K; rintro _ ⟨nc, rfl⟩; go_simp; exact (HC1.out _).mono fun e w' ⟨he, q, hw⟩ => ⟨he, nc + q, by rw [hw, World.drewN_drewN]⟩
          with_reducible refine hK _ ?_
          clear hK K
          (try simp only [Act.put, List.setIfInBounds_toArray, List.set_cons_zero, List.set_cons_succ, if_true, if_false, reduceIte, Nat.reduceEqDiff])
          with_reducible refine Sf.lx_one (by kernel_rfl) (by kernel_rfl) ?_
          intro K hK
          refine Sf.dft_quiet rfl ?_
          go_big_quiet_op
          with_reducible refine hK _ ?_
          clear hK K
          with_reducible refine Sf.lx_one (by kernel_rfl) (by kernel_rfl) ?_
          intro K hK
          refine Sf.dft_quiet rfl ?_
          go_big_quiet_op
          with_reducible refine hK _ ?_
          clear hK K
          with_reducible refine Sf.lx_one (by kernel_rfl) (by kernel_rfl) ?_
          intro K hK
          refine Sf.dft_quiet rfl ?_
          go_big_quiet_op
          with_reducible refine hK _ ?_
          clear hK K
          with_reducible refine Sf.lx_one (by kernel_rfl) (by kernel_rfl) ?_
          intro K hK
          refine Sf.dft_nil rfl rfl ?_
          with_reducible refine hK _ ?_
          clear hK K
          simp only [Act.put, List.setIfInBounds_toArray, List.set_cons_zero, List.set_cons_succ]
          with_reducible refine Sf.lx_one (by kernel_rfl) (by kernel_rfl) ?_
          intro K hK
          refine Sf.dft_quiet rfl ?_
          go_big_quiet_op
          with_reducible refine hK _ ?_
          clear hK K
          with_reducible refine Sf.lx_one (by kernel_rfl) (by kernel_rfl) ?_
          intro K hK
          refine Sf.dft_quiet rfl ?_
          go_big_quiet_op
          with_reducible refine hK _ ?_
          clear hK K
          with_reducible refine Sf.lx_one (by kernel_rfl) (by kernel_rfl) ?_
          intro K hK
          refine Sf.dft_quiet rfl ?_
          go_big_quiet_op
          with_reducible refine hK _ ?_
          clear hK K
          with_reducible refine Sf.lx_one (by kernel_rfl) (by kernel_rfl) ?_
          intro K hK
          refine Sf.dft_nil rfl rfl ?_
          with_reducible refine hK _ ?_
          clear hK K
          simp only [Act.put, List.setIfInBounds_toArray, List.set_cons_zero, List.set_cons_succ]
          with_reducible refine Sf.lx_one (by kernel_rfl) (by kernel_rfl) ?_
          intro K hK
          refine Sf.dft_quiet rfl ?_
          go_big_quiet_op
          with_reducible refine hK _ ?_
          clear hK K
          with_reducible refine Sf.lx_one (by kernel_rfl) (by kernel_rfl) ?_
          intro K hK
          refine Sf.dft_quiet rfl ?_
          go_big_quiet_op
          with_reducible refine hK _ ?_
          clear hK K
          with_reducible refine Sf.lx_one (by kernel_rfl) (by kernel_rfl) ?_
          intro K hK
          refine Sf.dft_quiet rfl ?_
          go_big_quiet_op
          with_reducible refine hK _ ?_
          clear hK K
          with_reducible refine Sf.lx_one (by kernel_rfl) (by kernel_rfl) ?_
          intro K hK
          refine Sf.dft_quiet rfl ?_
          go_big_quiet_op
          with_reducible refine hK _ ?_
          clear hK K
          with_reducible refine Sf.lx_one (by kernel_rfl) (by kernel_rfl) ?_
          intro K hK
          refine Sf.dft_quiet rfl ?_
          go_big_quiet_op
          with_reducible refine hK _ ?_
          clear hK K
          with_reducible refine Sf.lx_one (by kernel_rfl) (by kernel_rfl) ?_
          intro K hK
          refine Sf.dft_quiet rfl ?_
          go_big_quiet_op
          with_reducible refine hK _ ?_
          clear hK K
          with_reducible refine Sf.lx_one (by kernel_rfl) (by kernel_rfl) ?_
          intro K hK
          refine Sf.dft_nil rfl rfl ?_
          with_reducible refine hK _ ?_
          clear hK K
          simp only [Act.put, List.setIfInBounds_toArray, List.set_cons_zero, List.set_cons_succ]
          with_reducible refine Sf.lx_one (by kernel_rfl) (by kernel_rfl) ?_
          intro K hK
          refine Sf.dft_quiet rfl ?_
          go_big_quiet_op
          with_reducible refine hK _ ?_
          clear hK K
          with_reducible refine Sf.lx_one (by kernel_rfl) (by kernel_rfl) ?_
          intro K hK
          refine Sf.dft_quiet rfl ?_
          go_big_quiet_op
          with_reducible refine hK _ ?_
          clear hK K
          with_reducible refine Sf.lx_one (by kernel_rfl) (by kernel_rfl) ?_
          intro K hK
          refine Sf.dft_quiet rfl ?_
          go_big_quiet_op
          with_reducible refine hK _ ?_
          clear hK K
          with_reducible refine Sf.lx_one (by kernel_rfl) (by kernel_rfl) ?_
          intro K hK
          refine Sf.dft_nil rfl rfl ?_
          with_reducible refine hK _ ?_
          clear hK K
          simp only [Act.put, List.setIfInBounds_toArray, List.set_cons_zero, List.set_cons_succ]
          with_reducible refine Sf.lx_one (by kernel_rfl) (by kernel_rfl) ?_
          intro K hK
          refine Sf.dft_quiet rfl ?_
          go_big_quiet_op
          with_reducible refine hK _ ?_
          clear hK K
          with_reducible refine Sf.lx_one (by kernel_rfl) (by kernel_rfl) ?_
          intro K hK
          refine Sf.dft_quiet rfl ?_
          go_big_quiet_op
          with_reducible refine hK _ ?_
          clear hK K
          with_reducible refine Sf.lx_one (by kernel_rfl) (by kernel_rfl) ?_
          intro K hK
          refine Sf.dft_quiet rfl ?_
          go_big_quiet_op
          with_reducible refine hK _ ?_
          clear hK K
          with_reducible refine Sf.lx_one (by kernel_rfl) (by kernel_rfl) ?_
          intro K hK
          refine Sf.dft_quiet rfl ?_
          go_big_quiet_op
          with_reducible refine hK _ ?_
          clear hK K
          with_reducible refine Sf.lx_one (by kernel_rfl) (by kernel_rfl) ?_
          intro K hK
          refine Sf.dft_quiet rfl ?_
          go_big_quiet_op
          with_reducible refine hK _ ?_
          clear hK K
          with_reducible refine Sf.lx_nil ?_
          rintro _ ⟨nq, rfl⟩
          go_wp2
          go_ret
          rw [HV.out]
          exact ⟨rfl, _, rfl⟩
        · skip
          have HV := Lib.hid (show botB p0 q0 a0 p0 q1 a1 = false by unfold botB; rw [decide_eq_false hq]; simp)
          have hq1 : (q0 == q1) = false := beq_eq_false_iff_ne.2 hq
          have hq2 : decide (q0 = q1) = false := decide_eq_false hq
          rw [b0] at HC0
          rw [b1] at HC1
          clear b0 b1 hq
          go_enter Try.func84, Try.ntmps84
          go_wp2_with fail
          refine Sf.wp_soft [false, false, false, false, false, false, false, false, false, false, false, false, false, false, false, false, false, false, false, false, false, false, false, false, false, false, false, false, false] [true, true, true, true, true, true, true, true, true, true, true, true, true, true, true, true, true, true, true, true, true, true, true, true, true, true, true, true, true] (fun i => 1) (fun i => if i = 1 then .bool true else if i = 4 then .bool true else undef) (by kernel_rfl) (by kernel_rfl) (by kernel_rfl) ?_
          simp only [Sf.tl]
          with_reducible refine Sf.lx_one (by kernel_rfl) (by kernel_rfl) ?_
          intro K hK
          refine Sf.dft_quiet rfl ?_
          go_big_quiet_op
          with_reducible refine hK _ ?_
          clear hK K
          with_reducible refine Sf.lx_one (by kernel_rfl) (by kernel_rfl) ?_
          intro K hK
          refine Sf.dft_call ?_ ?_
          · clear hK K; rintro _ ⟨nc, rfl⟩; go_simp; exact (HC0.out _).mono fun e w' ⟨he, q, hw⟩ => ⟨he, nc + q, by rw [hw, World.drewN_drewN]⟩
          with_reducible refine hK _ ?_
          clear hK K
          (try simp only [Act.put, List.setIfInBounds_toArray, List.set_cons_zero, List.set_cons_succ, if_true, if_false, reduceIte, Nat.reduceEqDiff])
          with_reducible refine Sf.lx_one (by kernel_rfl) (by kernel_rfl) ?_
          intro K hK
          refine Sf.dft_quiet rfl ?_
          go_big_quiet_op
          with_reducible refine hK _ ?_
          clear hK K
          with_reducible refine Sf.lx_one (by kernel_rfl) (by kernel_rfl) ?_
          intro K hK
          refine Sf.dft_quiet rfl ?_
          go_big_quiet_op
          with_reducible refine hK _ ?_
          clear hK K
          with_reducible refine Sf.lx_one (by kernel_rfl) (by kernel_rfl) ?_
          intro K hK
          refine Sf.dft_call ?_ ?_
          · clear hK K; rintro _ ⟨nc, rfl⟩; go_simp; exact (HC1.out _).mono fun e w' ⟨he, q, hw⟩ => ⟨he, nc + q, by rw [hw, World.drewN_drewN]⟩
          with_reducible refine hK _ ?_
          clear hK K
          (try simp only [Act.put, List.setIfInBounds_toArray, List.set_cons_zero, List.set_cons_succ, if_true, if_false, reduceIte, Nat.reduceEqDiff])
          with_reducible refine Sf.lx_one (by kernel_rfl) (by kernel_rfl) ?_
          intro K hK
          refine Sf.dft_quiet rfl ?_
          go_big_quiet_op
          with_reducible refine hK _ ?_
          clear hK K
          with_reducible refine Sf.lx_one (by kernel_rfl) (by kernel_rfl) ?_
          intro K hK
          refine Sf.dft_quiet rfl ?_
          go_big_quiet_op
          with_reducible refine hK _ ?_
          clear hK K
          with_reducible refine Sf.lx_one (by kernel_rfl) (by kernel_rfl) ?_
          intro K hK
          refine Sf.dft_quiet rfl ?_
          go_big_quiet_op
          with_reducible refine hK _ ?_
          clear hK K
          with_reducible refine Sf.lx_one (by kernel_rfl) (by kernel_rfl) ?_
          intro K hK
          refine Sf.dft_nil rfl rfl ?_
          with_reducible refine hK _ ?_
          clear hK K
          simp only [Act.put, List.setIfInBounds_toArray, List.set_cons_zero, List.set_cons_succ]
          with_reducible refine Sf.lx_one (by kernel_rfl) (by kernel_rfl) ?_
          intro K hK
          refine Sf.dft_quiet rfl ?_
          go_big_quiet_op
          with_reducible refine hK _ ?_
          clear hK K
          with_reducible refine Sf.lx_one (by kernel_rfl) (by kernel_rfl) ?_
          intro K hK
          refine Sf.dft_quiet rfl ?_
          go_big_quiet_op
          with_reducible refine hK _ ?_
          clear hK K
          with_reducible refine Sf.lx_one (by kernel_rfl) (by kernel_rfl) ?_
          intro K hK
          refine Sf.dft_quiet rfl ?_
          go_big_quiet_op
          with_reducible refine hK _ ?_
          clear hK K
          with_reducible refine Sf.lx_one (by kernel_rfl) (by kernel_rfl) ?_
          intro K hK
          refine Sf.dft_nil rfl rfl ?_
          with_reducible refine hK _ ?_
          clear hK K
          simp only [Act.put, List.setIfInBounds_toArray, List.set_cons_zero, List.set_cons_succ]
          with_reducible refine Sf.lx_one (by kernel_rfl) (by kernel_rfl) ?_
          intro K hK
          refine Sf.dft_quiet rfl ?_
          go_big_quiet_op
          with_reducible refine hK _ ?_
          clear hK K
          with_reducible refine Sf.lx_one (by kernel_rfl) (by kernel_rfl) ?_
          intro K hK
          refine Sf.dft_quiet rfl ?_
          go_big_quiet_op
          with_reducible refine hK _ ?_
          clear hK K
          with_reducible refine Sf.lx_one (by kernel_rfl) (by kernel_rfl) ?_
          intro K hK
          refine Sf.dft_quiet rfl ?_
          go_big_quiet_op
          with_reducible refine hK _ ?_
          clear hK K
          with_reducible refine Sf.lx_one (by kernel_rfl) (by kernel_rfl) ?_
          intro K hK
          refine Sf.dft_quiet rfl ?_
          go_big_quiet_op
          with_reducible refine hK _ ?_
          clear hK K
          with_reducible refine Sf.lx_one (by kernel_rfl) (by kernel_rfl) ?_
          intro K hK
          refine Sf.dft_quiet rfl ?_
          go_big_quiet_op
          with_reducible refine hK _ ?_
          clear hK K
          with_reducible refine Sf.lx_one (by kernel_rfl) (by kernel_rfl) ?_
          intro K hK
          refine Sf.dft_quiet rfl ?_
          go_big_quiet_op
          with_reducible refine hK _ ?_
          clear hK K
          with_reducible refine Sf.lx_one (by kernel_rfl) (by kernel_rfl) ?_
          intro K hK
          refine Sf.dft_nil rfl rfl ?_
          with_reducible refine hK _ ?_
          clear hK K
          simp only [Act.put, List.setIfInBounds_toArray, List.set_cons_zero, List.set_cons_succ]
          with_reducible refine Sf.lx_one (by kernel_rfl) (by kernel_rfl) ?_
          intro K hK
          refine Sf.dft_quiet rfl ?_
          go_big_quiet_op
          with_reducible refine hK _ ?_
          clear hK K
          with_reducible refine Sf.lx_one (by kernel_rfl) (by kernel_rfl) ?_
          intro K hK
          refine Sf.dft_quiet rfl ?_
          go_big_quiet_op
          with_reducible refine hK _ ?_
          clear hK K
          with_reducible refine Sf.lx_one (by kernel_rfl) (by kernel_rfl) ?_
          intro K hK
          refine Sf.dft_quiet rfl ?_
          go_big_quiet_op
          with_reducible refine hK _ ?_
          clear hK K
          with_reducible refine Sf.lx_one (by kernel_rfl) (by kernel_rfl) ?_
          intro K hK
          refine Sf.dft_nil rfl rfl ?_
          with_reducible refine hK _ ?_
          clear hK K
          simp only [Act.put, List.setIfInBounds_toArray, List.set_cons_zero, List.set_cons_succ]
          with_reducible refine Sf.lx_one (by kernel_rfl) (by kernel_rfl) ?_
          intro K hK
          refine Sf.dft_quiet rfl ?_
          go_big_quiet_op
          with_reducible refine hK _ ?_
          clear hK K
          with_reducible refine Sf.lx_one (by kernel_rfl) (by kernel_rfl) ?_
          intro K hK
          refine Sf.dft_quiet rfl ?_
          go_big_quiet_op
          with_reducible refine hK _ ?_
          clear hK K
          with_reducible refine Sf.lx_one (by kernel_rfl) (by kernel_rfl) ?_
          intro K hK
          refine Sf.dft_quiet rfl ?_
          go_big_quiet_op
          with_reducible refine hK _ ?_
          clear hK K
          with_reducible refine Sf.lx_one (by kernel_rfl) (by kernel_rfl) ?_
          intro K hK
          refine Sf.dft_quiet rfl ?_
          go_big_quiet_op
          with_reducible refine hK _ ?_
          clear hK K
          with_reducible refine Sf.lx_one (by kernel_rfl) (by kernel_rfl) ?_
          intro K hK
          refine Sf.dft_quiet rfl ?_
          go_big_quiet_op
          with_reducible refine hK _ ?_
          clear hK K
          with_reducible refine Sf.lx_nil ?_
          rintro _ ⟨nq, rfl⟩
          go_wp2
          go_ret
          rw [HV.out]
          exact ⟨rfl, _, rfl⟩
      · skip
        have HV := Lib.hid (show botB p0 q0 a0 p1 q1 a1 = false by unfold botB; rw [decide_eq_false hp]; simp)
        have hp1 : (p0 == p1) = false := beq_eq_false_iff_ne.2 hp
        have hp2 : decide (p0 = p1) = false := decide_eq_false hp
        rw [b0] at HC0
        rw [b1] at HC1
        clear b0 b1 hp
        go_enter Try.func84, Try.ntmps84
        go_wp2_with fail
        refine Sf.wp_soft [false, false, false, false, false, false, false, false, false, false, false, false, false, false, false, false, false, false, false, false, false, false, false, false, false, false, false, false, false] [true, true, true, true, true, true, true, true, true, true, true, true, true, true, true, true, true, true, true, true, true, true, true, true, true, true, true, true, true] (fun i => 1) (fun i => if i = 1 then .bool true else if i = 4 then .bool true else undef) (by kernel_rfl) (by kernel_rfl) (by kernel_rfl) ?_
        simp only [Sf.tl]
        with_reducible refine Sf.lx_one (by kernel_rfl) (by kernel_rfl) ?_
        intro K hK
        refine Sf.dft_quiet rfl ?_
        go_big_quiet_op
        with_reducible refine hK _ ?_
        clear hK K
        with_reducible refine Sf.lx_one (by kernel_rfl) (by kernel_rfl) ?_
        intro K hK
        refine Sf.dft_call ?_ ?_
        · clear hK K; rintro _ ⟨nc, rfl⟩; go_simp; exact (HC0.out _).mono fun e w' ⟨he, q, hw⟩ => ⟨he, nc + q, by rw [hw, World.drewN_drewN]⟩
        with_reducible refine hK _ ?_
        clear hK K
        (try simp only [Act.put, List.setIfInBounds_toArray, List.set_cons_zero, List.set_cons_succ, if_true, if_false, reduceIte, Nat.reduceEqDiff])
        with_reducible refine Sf.lx_one (by kernel_rfl) (by kernel_rfl) ?_
        intro K hK
        refine Sf.dft_quiet rfl ?_
        go_big_quiet_op
        with_reducible refine hK _ ?_
        clear hK K
        with_reducible refine Sf.lx_one (by kernel_rfl) (by kernel_rfl) ?_
        intro K hK
        refine Sf.dft_quiet rfl ?_
        go_big_quiet_op
        with_reducible refine hK _ ?_
        clear hK K
        with_reducible refine Sf.lx_one (by kernel_rfl) (by kernel_rfl) ?_
        intro K hK
        refine Sf.dft_call ?_ ?_
        · clear hK K; rintro _ ⟨nc, rfl⟩; go_simp; exact (HC1.out _).mono fun e w' ⟨he, q, hw⟩ => ⟨he, nc + q, by rw [hw, World.drewN_drewN]⟩
        with_reducible refine hK _ ?_
        clear hK K
        (try simp only [Act.put, List.setIfInBounds_toArray, List.set_cons_zero, List.set_cons_succ, if_true, if_false, reduceIte, Nat.reduceEqDiff])
        with_reducible refine Sf.lx_one (by kernel_rfl) (by kernel_rfl) ?_
        intro K hK
        refine Sf.dft_quiet rfl ?_
        go_big_quiet_op
        with_reducible refine hK _ ?_
        clear hK K
        with_reducible refine Sf.lx_one (by kernel_rfl) (by kernel_rfl) ?_
        intro K hK
        refine Sf.dft_quiet rfl ?_
        go_big_quiet_op
        with_reducible refine hK _ ?_
        clear hK K
        with_reducible refine Sf.lx_one (by kernel_rfl) (by kernel_rfl) ?_
        intro K hK
        refine Sf.dft_quiet rfl ?_
        go_big_quiet_op
        with_reducible refine hK _ ?_
        clear hK K
        with_reducible refine Sf.lx_one (by kernel_rfl) (by kernel_rfl) ?_
        intro K hK
        refine Sf.dft_nil rfl rfl ?_
        with_reducible refine hK _ ?_
        clear hK K
        simp only [Act.put, List.setIfInBounds_toArray, List.set_cons_zero, List.set_cons_succ]
        with_reducible refine Sf.lx_one (by kernel_rfl) (by kernel_rfl) ?_
        intro K hK
        refine Sf.dft_quiet rfl ?_
        go_big_quiet_op
        with_reducible refine hK _ ?_
        clear hK K
        with_reducible refine Sf.lx_one (by kernel_rfl) (by kernel_rfl) ?_
        intro K hK
        refine Sf.dft_quiet rfl ?_
        go_big_quiet_op
        with_reducible refine hK _ ?_
        clear hK K
        with_reducible refine Sf.lx_one (by kernel_rfl) (by kernel_rfl) ?_
        intro K hK
        refine Sf.dft_quiet rfl ?_
        go_big_quiet_op
        with_reducible refine hK _ ?_
        clear hK K
        with_reducible refine Sf.lx_one (by kernel_rfl) (by kernel_rfl) ?_
        intro K hK
        refine Sf.dft_nil rfl rfl ?_
        with_reducible refine hK _ ?_
        clear hK K
        simp only [Act.put, List.setIfInBounds_toArray, List.set_cons_zero, List.set_cons_succ]
        with_reducible refine Sf.lx_one (by kernel_rfl) (by kernel_rfl) ?_
        intro K hK
        refine Sf.dft_quiet rfl ?_
        go_big_quiet_op
        with_reducible refine hK _ ?_
        clear hK K
        with_reducible refine Sf.lx_one (by kernel_rfl) (by kernel_rfl) ?_
        intro K hK
        refine Sf.dft_quiet rfl ?_
        go_big_quiet_op
        with_reducible refine hK _ ?_
        clear hK K
        with_reducible refine Sf.lx_one (by kernel_rfl) (by kernel_rfl) ?_
        intro K hK
        refine Sf.dft_quiet rfl ?_
        go_big_quiet_op
        with_reducible refine hK _ ?_
        clear hK K
        with_reducible refine Sf.lx_one (by kernel_rfl) (by kernel_rfl) ?_
        intro K hK
        refine Sf.dft_quiet rfl ?_
        go_big_quiet_op
        with_reducible refine hK _ ?_
        clear hK K
        with_reducible refine Sf.lx_one (by kernel_rfl) (by kernel_rfl) ?_
        intro K hK
        refine Sf.dft_quiet rfl ?_
        go_big_quiet_op
        with_reducible refine hK _ ?_
        clear hK K
        with_reducible refine Sf.lx_skip (by kernel_rfl) ?_
        simp only [Act.put, List.setIfInBounds_toArray, List.set_cons_zero, List.set_cons_succ]
        with_reducible refine Sf.lx_skip (by kernel_rfl) ?_
        simp only [Act.put, List.setIfInBounds_toArray, List.set_cons_zero, List.set_cons_succ]
        with_reducible refine Sf.lx_skip (by kernel_rfl) ?_
        simp only [Act.put, List.setIfInBounds_toArray, List.set_cons_zero, List.set_cons_succ]
        with_reducible refine Sf.lx_skip (by kernel_rfl) ?_
        simp only [Act.put, List.setIfInBounds_toArray, List.set_cons_zero, List.set_cons_succ]
        with_reducible refine Sf.lx_skip (by kernel_rfl) ?_
        simp only [Act.put, List.setIfInBounds_toArray, List.set_cons_zero, List.set_cons_succ]
        with_reducible refine Sf.lx_skip (by kernel_rfl) ?_
        simp only [Act.put, List.setIfInBounds_toArray, List.set_cons_zero, List.set_cons_succ]
        with_reducible refine Sf.lx_skip (by kernel_rfl) ?_
        simp only [Act.put, List.setIfInBounds_toArray, List.set_cons_zero, List.set_cons_succ]
        with_reducible refine Sf.lx_skip (by kernel_rfl) ?_
        simp only [Act.put, List.setIfInBounds_toArray, List.set_cons_zero, List.set_cons_succ]
        with_reducible refine Sf.lx_skip (by kernel_rfl) ?_
        simp only [Act.put, List.setIfInBounds_toArray, List.set_cons_zero, List.set_cons_succ]
        with_reducible refine Sf.lx_one (by kernel_rfl) (by kernel_rfl) ?_
        intro K hK
        refine Sf.dft_quiet rfl ?_
        go_big_quiet_op
        with_reducible refine hK _ ?_
        clear hK K
        with_reducible refine Sf.lx_one (by kernel_rfl) (by kernel_rfl) ?_
        intro K hK
        refine Sf.dft_quiet rfl ?_
        go_big_quiet_op
        with_reducible refine hK _ ?_
        clear hK K
        with_reducible refine Sf.lx_nil ?_
        rintro _ ⟨nq, rfl⟩
        go_wp2
        go_ret
        rw [HV.out]
        exact ⟨rfl, _, rfl⟩
end Go.Proofs.Ytfbdmhkmkmbipaa
namespace Go.Proofs.Ytfbdmhkmkmbipaa
open Go.RowKit Fl
set_option linter.unusedVariables false
set_option maxRecDepth 100000
set_option maxHeartbeats 8000000 in
theorem botI_any (v0 : Value) (p0 q0 : Int) (a0 : List Nat) (v1 : Value) (p1 q1 : Int) (a1 : List Nat) (w : World) (h0 : Rd w w.heap.size v0 (fl a0)) (h1 : Rd w w.heap.size v1 (fl a1)) (hm0 : a0.length ≤ 1048576) (hx0 : ∀ x ∈ a0, x < 2 ^ 32) (hm1 : a1.length ≤ 1048576) (hx1 : ∀ x ∈ a1, x < 2 ^ 32) :
    Calls Try.prog 87 #[.agg #[.int .i64 p0, .int .i64 q0, v0], .agg #[.int .i64 p1, .int .i64 q1, v1]] w fun e w' => e = .returned (.bool (botB p0 q0 a0 p1 q1 a1)) ∧ Below w.heap.size w w' := by
  obtain ⟨A0, c0, hv0, _, _, _⟩ := id h0
  obtain ⟨A1, c1, hv1, _, _, _⟩ := id h1
  rw [fl_len] at hv0 hv1
  subst hv0 hv1
  obtain ⟨w0, hw0⟩ : ∃ W, (w.alloc (.cells #[.int .i64 p0, .int .i64 q0, .slice A0 a0.length c0] 50)).alloc (.cells #[.int .i64 p1, .int .i64 q1, .slice A1 a1.length c1] 50) = W := ⟨_, rfl⟩
  have hb0 : Below w.heap.size w w0 := by rw [← hw0]; exact ((Below.refl _ _).alloc (Nat.le_refl _) _).alloc (by simp) _
  have hX : Bx w0 w.heap.size [.int .i64 p0, .int .i64 q0, .slice A0 a0.length c0] := by rw [← hw0]; exact (bx_new w [.int .i64 p0, .int .i64 q0, .slice A0 a0.length c0] _).step ((Below.refl _ _).alloc (Nat.le_refl _) _)
  have hY : Bx w0 (w.heap.size + 1) [.int .i64 p1, .int .i64 q1, .slice A1 a1.length c1] := by rw [← hw0]; have := bx_new (w.alloc (.cells #[.int .i64 p0, .int .i64 q0, .slice A0 a0.length c0] 50)) [.int .i64 p1, .int .i64 q1, .slice A1 a1.length c1] 50; simpa using this
  have HC0 := Lib.hid (fun (W : World) (hb : Below w0.heap.size w0 W) => vpI_any (.slice A0 a0.length c0) p0 q0 a0 W ((h0.step hb0).step hb) hm0 hx0)
  have HC1 := Lib.hid (fun (W : World) (hb : Below w0.heap.size w0 W) => vpI_any (.slice A1 a1.length c1) p1 q1 a1 W ((h1.step hb0).step hb) hm1 hx1)
  have x0 := (hX.2 0 _ rfl).1
  have y0 := (hY.2 0 _ rfl).1
  have x1 := (hX.2 1 _ rfl).1
  have y1 := (hY.2 1 _ rfl).1
  have x2 := (hX.2 2 _ rfl).1
  have y2 := (hY.2 2 _ rfl).1
  have X0 := Lib.hid hX
  have Y0 := Lib.hid hY
  have HB0 := Lib.hid hb0
  clear h0 h1 hX hY hx0 hx1 hb0
  cases b0 : vpcB p0 q0 a0 with
  | false =>
    have HV := Lib.hid (show botB p0 q0 a0 p1 q1 a1 = false by unfold botB; rw [b0]; rfl)
    rw [b0] at HC0
    clear b0
    replace x0 : ∀ q : Sf.Gw w0, q.w.cell? ⟨w.heap.size, 0, none⟩ = some (.int .i64 p0) := fun q => q.cell x0
    replace x1 : ∀ q : Sf.Gw w0, q.w.cell? ⟨w.heap.size, 1, none⟩ = some (.int .i64 q0) := fun q => q.cell x1
    replace x2 : ∀ q : Sf.Gw w0, q.w.cell? ⟨w.heap.size, 2, none⟩ = some (.slice A0 a0.length c0) := fun q => q.cell x2
    replace y0 : ∀ q : Sf.Gw w0, q.w.cell? ⟨w.heap.size + 1, 0, none⟩ = some (.int .i64 p1) := fun q => q.cell y0
    replace y1 : ∀ q : Sf.Gw w0, q.w.cell? ⟨w.heap.size + 1, 1, none⟩ = some (.int .i64 q1) := fun q => q.cell y1
    replace y2 : ∀ q : Sf.Gw w0, q.w.cell? ⟨w.heap.size + 1, 2, none⟩ = some (.slice A1 a1.length c1) := fun q => q.cell y2
    go_enter Try.func87, Try.ntmps87
    go_wp2_with fail
    refine Sf.wp_softC (C := fun w' => ∃ q : Sf.Gw w0, w' = q.w) [false, false, false, false, false, false, false, false, false, false, false, false, false, false] [true, true, true, true, true, true, true, true, true, true, true, true, true, true] (fun i =>  1) (fun i => if i = 1 then .bool false else undef) (by kernel_rfl) (by kernel_rfl) (by kernel_rfl) ⟨Sf.gw_draw w0 1, rfl⟩ ?_
    simp only [Sf.tl]
    refine Sf.lx_one rfl rfl (fun K hK => Sf.dft_quiet rfl ?_)
    go_big_quiet_op
    refine hK _ ?_
    clear hK K
    refine Sf.lx_one rfl rfl (fun K hK => Sf.dft_call ?_ (hK _ ?_))
    · clear hK K; rintro _ ⟨nc, rfl⟩; go_simp; exact (HC0.out nc.w nc.h).mono fun e w' ⟨he, hb⟩ => ⟨he, nc.next hb⟩
    clear hK K
    simp only [Act.put, List.setIfInBounds_toArray, List.set_cons_zero, List.set_cons_succ, if_true, if_false, reduceIte, Nat.reduceEqDiff]
    refine Sf.lx_one rfl rfl (fun K hK => Sf.dft_quiet rfl ?_)
    go_big_quiet_op
    refine hK _ ?_
    clear hK K
    refine Sf.lx_skip (by kernel_rfl) ?_
    simp only [Act.put, List.setIfInBounds_toArray, List.set_cons_zero, List.set_cons_succ]
    refine Sf.lx_skip (by kernel_rfl) ?_
    simp only [Act.put, List.setIfInBounds_toArray, List.set_cons_zero, List.set_cons_succ]
    refine Sf.lx_one rfl rfl (fun K hK => Sf.dft_quiet rfl ?_)
    go_big_quiet_op
    refine hK _ ?_
    clear hK K
    refine Sf.lx_one rfl rfl (fun K hK => Sf.dft_quiet rfl ?_)
    go_big_quiet_op
    refine hK _ ?_
    clear hK K
    refine Sf.lx_skip (by kernel_rfl) ?_
    simp only [Act.put, List.setIfInBounds_toArray, List.set_cons_zero, List.set_cons_succ]
    refine Sf.lx_skip (by kernel_rfl) ?_
    simp only [Act.put, List.setIfInBounds_toArray, List.set_cons_zero, List.set_cons_succ]
    refine Sf.lx_skip (by kernel_rfl) ?_
    simp only [Act.put, List.setIfInBounds_toArray, List.set_cons_zero, List.set_cons_succ]
    refine Sf.lx_skip (by kernel_rfl) ?_
    simp only [Act.put, List.setIfInBounds_toArray, List.set_cons_zero, List.set_cons_succ]
    refine Sf.lx_skip (by kernel_rfl) ?_
    simp only [Act.put, List.setIfInBounds_toArray, List.set_cons_zero, List.set_cons_succ]
    refine Sf.lx_one rfl rfl (fun K hK => Sf.dft_quiet rfl ?_)
    go_big_quiet_op
    refine hK _ ?_
    clear hK K
    refine Sf.lx_one rfl rfl (fun K hK => Sf.dft_quiet rfl ?_)
    go_big_quiet_op
    refine hK _ ?_
    clear hK K
    refine Sf.lx_nil ?_
    rintro _ ⟨nq, rfl⟩
    go_wp2
    go_ret
    rw [HV.out]
    exact ⟨rfl, HB0.out.trans (nq.h.mono HB0.out.size)⟩
  | true =>
    cases b1 : vpcB p1 q1 a1 with
    | false =>
      have HV := Lib.hid (show botB p0 q0 a0 p1 q1 a1 = false by unfold botB; rw [b0, b1]; rfl)
      rw [b0] at HC0
      rw [b1] at HC1
      clear b0 b1
      replace x0 : ∀ q : Sf.Gw w0, q.w.cell? ⟨w.heap.size, 0, none⟩ = some (.int .i64 p0) := fun q => q.cell x0
      replace x1 : ∀ q : Sf.Gw w0, q.w.cell? ⟨w.heap.size, 1, none⟩ = some (.int .i64 q0) := fun q => q.cell x1
      replace x2 : ∀ q : Sf.Gw w0, q.w.cell? ⟨w.heap.size, 2, none⟩ = some (.slice A0 a0.length c0) := fun q => q.cell x2
      replace y0 : ∀ q : Sf.Gw w0, q.w.cell? ⟨w.heap.size + 1, 0, none⟩ = some (.int .i64 p1) := fun q => q.cell y0
      replace y1 : ∀ q : Sf.Gw w0, q.w.cell? ⟨w.heap.size + 1, 1, none⟩ = some (.int .i64 q1) := fun q => q.cell y1
      replace y2 : ∀ q : Sf.Gw w0, q.w.cell? ⟨w.heap.size + 1, 2, none⟩ = some (.slice A1 a1.length c1) := fun q => q.cell y2
      go_enter Try.func87, Try.ntmps87
      go_wp2_with fail
      refine Sf.wp_softC (C := fun w' => ∃ q : Sf.Gw w0, w' = q.w) [false, false, false, false, false, false, false, false, false, false, false, false, false, false] [true, true, true, true, true, true, true, true, true, true, true, true, true, true] (fun i =>  1) (fun i => if i = 1 then .bool true else if i = 4 then .bool false else undef) (by kernel_rfl) (by kernel_rfl) (by kernel_rfl) ⟨Sf.gw_draw w0 1, rfl⟩ ?_
      simp only [Sf.tl]
      refine Sf.lx_one rfl rfl (fun K hK => Sf.dft_quiet rfl ?_)
      go_big_quiet_op
      refine hK _ ?_
      clear hK K
      refine Sf.lx_one rfl rfl (fun K hK => Sf.dft_call ?_ (hK _ ?_))
      · clear hK K; rintro _ ⟨nc, rfl⟩; go_simp; exact (HC0.out nc.w nc.h).mono fun e w' ⟨he, hb⟩ => ⟨he, nc.next hb⟩
      clear hK K
      simp only [Act.put, List.setIfInBounds_toArray, List.set_cons_zero, List.set_cons_succ, if_true, if_false, reduceIte, Nat.reduceEqDiff]
      refine Sf.lx_one rfl rfl (fun K hK => Sf.dft_quiet rfl ?_)
      go_big_quiet_op
      refine hK _ ?_
      clear hK K
      refine Sf.lx_one rfl (by kernel_rfl) (fun K hK => Sf.dft_quiet rfl ?_)
      go_big_quiet_op
      refine hK _ ?_
      clear hK K
      refine Sf.lx_one rfl (by kernel_rfl) (fun K hK => Sf.dft_call ?_ (hK _ ?_))
      · clear hK K; rintro _ ⟨nc, rfl⟩; go_simp; exact (HC1.out nc.w nc.h).mono fun e w' ⟨he, hb⟩ => ⟨he, nc.next hb⟩
      clear hK K
      simp only [Act.put, List.setIfInBounds_toArray, List.set_cons_zero, List.set_cons_succ, if_true, if_false, reduceIte, Nat.reduceEqDiff]
      refine Sf.lx_one rfl rfl (fun K hK => Sf.dft_quiet rfl ?_)
      go_big_quiet_op
      refine hK _ ?_
      clear hK K
      refine Sf.lx_one rfl rfl (fun K hK => Sf.dft_quiet rfl ?_)
      go_big_quiet_op
      refine hK _ ?_
      clear hK K
      refine Sf.lx_skip (by kernel_rfl) ?_
      simp only [Act.put, List.setIfInBounds_toArray, List.set_cons_zero, List.set_cons_succ]
      refine Sf.lx_skip (by kernel_rfl) ?_
      simp only [Act.put, List.setIfInBounds_toArray, List.set_cons_zero, List.set_cons_succ]
      refine Sf.lx_skip (by kernel_rfl) ?_
      simp only [Act.put, List.setIfInBounds_toArray, List.set_cons_zero, List.set_cons_succ]
      refine Sf.lx_skip (by kernel_rfl) ?_
      simp only [Act.put, List.setIfInBounds_toArray, List.set_cons_zero, List.set_cons_succ]
      refine Sf.lx_skip (by kernel_rfl) ?_
      simp only [Act.put, List.setIfInBounds_toArray, List.set_cons_zero, List.set_cons_succ]
      refine Sf.lx_one rfl rfl (fun K hK => Sf.dft_quiet rfl ?_)
      go_big_quiet_op
      refine hK _ ?_
      clear hK K
      refine Sf.lx_one rfl rfl (fun K hK => Sf.dft_quiet rfl ?_)
      go_big_quiet_op
      refine hK _ ?_
      clear hK K
      refine Sf.lx_nil ?_
      rintro _ ⟨nq, rfl⟩
      go_wp2
      go_ret
      rw [HV.out]
      exact ⟨rfl, HB0.out.trans (nq.h.mono HB0.out.size)⟩
    | true =>
      by_cases hp : p0 = p1
      · subst hp
        by_cases hq : q0 = q1
        · subst hq
          have HV := Lib.hid (show botB p0 q0 a0 p0 q0 a1 = true by unfold botB; rw [b0, b1]; simp)
          rw [b0] at HC0
          rw [b1] at HC1
          clear b0 b1
          have heq : ∀ w', (binOp .eql 94 (.agg #[.int .i64 p0, .int .i64 q0]) (.agg #[.int .i64 p0, .int .i64 q0])).run Try.prog w' = .ok (.bool true) w' := by intro w'; simp [go_sem, Try.underlying94, Try.underlying2]
          replace x0 : ∀ q : Sf.Gw w0, q.w.cell? ⟨w.heap.size, 0, none⟩ = some (.int .i64 p0) := fun q => q.cell x0
          replace x1 : ∀ q : Sf.Gw w0, q.w.cell? ⟨w.heap.size, 1, none⟩ = some (.int .i64 q0) := fun q => q.cell x1
          replace x2 : ∀ q : Sf.Gw w0, q.w.cell? ⟨w.heap.size, 2, none⟩ = some (.slice A0 a0.length c0) := fun q => q.cell x2
          replace y0 : ∀ q : Sf.Gw w0, q.w.cell? ⟨w.heap.size + 1, 0, none⟩ = some (.int .i64 p0) := fun q => q.cell y0
          replace y1 : ∀ q : Sf.Gw w0, q.w.cell? ⟨w.heap.size + 1, 1, none⟩ = some (.int .i64 q0) := fun q => q.cell y1
          replace y2 : ∀ q : Sf.Gw w0, q.w.cell? ⟨w.heap.size + 1, 2, none⟩ = some (.slice A1 a1.length c1) := fun q => q.cell y2
          go_enter Try.func87, Try.ntmps87
          go_wp2_with fail
          refine Sf.wp_softC (C := fun w' => ∃ q : Sf.Gw w0, w' = q.w) [false, false, false, false, false, false, false, false, false, false, false, false, false, false] [true, true, true, true, true, true, true, true, true, true, true, true, true, true] (fun i =>  1) (fun i => if i = 1 then .bool true else if i = 4 then .bool true else if i = 8 then (.agg #[.int .i64 p0, .int .i64 q0]) else if i = 10 then (.agg #[.int .i64 p0, .int .i64 q0]) else undef) (by kernel_rfl) (by kernel_rfl) (by kernel_rfl) ⟨Sf.gw_draw w0 1, rfl⟩ ?_
          simp only [Sf.tl]
          refine Sf.lx_one rfl rfl (fun K hK => Sf.dft_quiet rfl ?_)
          go_big_quiet_op
          refine hK _ ?_
          clear hK K
          refine Sf.lx_one rfl rfl (fun K hK => Sf.dft_call ?_ (hK _ ?_))
          · clear hK K; rintro _ ⟨nc, rfl⟩; go_simp; exact (HC0.out nc.w nc.h).mono fun e w' ⟨he, hb⟩ => ⟨he, nc.next hb⟩
          clear hK K
          simp only [Act.put, List.setIfInBounds_toArray, List.set_cons_zero, List.set_cons_succ, if_true, if_false, reduceIte, Nat.reduceEqDiff]
          refine Sf.lx_one rfl rfl (fun K hK => Sf.dft_quiet rfl ?_)
          go_big_quiet_op
          refine hK _ ?_
          clear hK K
          refine Sf.lx_one rfl (by kernel_rfl) (fun K hK => Sf.dft_quiet rfl ?_)
          go_big_quiet_op
          refine hK _ ?_
          clear hK K
          refine Sf.lx_one rfl (by kernel_rfl) (fun K hK => Sf.dft_call ?_ (hK _ ?_))
          · clear hK K; rintro _ ⟨nc, rfl⟩; go_simp; exact (HC1.out nc.w nc.h).mono fun e w' ⟨he, hb⟩ => ⟨he, nc.next hb⟩
          clear hK K
          simp only [Act.put, List.setIfInBounds_toArray, List.set_cons_zero, List.set_cons_succ, if_true, if_false, reduceIte, Nat.reduceEqDiff]
          refine Sf.lx_one rfl rfl (fun K hK => Sf.dft_quiet rfl ?_)
          go_big_quiet_op
          refine hK _ ?_
          clear hK K
          refine Sf.lx_one rfl rfl (fun K hK => Sf.dft_quiet rfl ?_)
          go_big_quiet_op
          refine hK _ ?_
          clear hK K
          refine Sf.lx_one rfl (by kernel_rfl) (fun K hK => Sf.dft_quiet rfl ?_)
          go_big_quiet_op
          refine hK _ ?_
          clear hK K
          refine Sf.lx_one rfl (by kernel_rfl) (fun K hK => Sf.dft_call ?_ (hK _ ?_))
          · clear hK K; rintro _ ⟨nc, rfl⟩; go_simp; exact (sid_any p0 q0 A0 a0.length c0 nc.w).mono fun e w' ⟨he, hb⟩ => ⟨he, nc.next hb⟩
          clear hK K
          simp only [Act.put, List.setIfInBounds_toArray, List.set_cons_zero, List.set_cons_succ, if_true, if_false, reduceIte, Nat.reduceEqDiff]
          refine Sf.lx_one rfl (by kernel_rfl) (fun K hK => Sf.dft_quiet rfl ?_)
          go_big_quiet_op
          refine hK _ ?_
          clear hK K
          refine Sf.lx_one rfl (by kernel_rfl) (fun K hK => Sf.dft_call ?_ (hK _ ?_))
          · clear hK K; rintro _ ⟨nc, rfl⟩; go_simp; exact (sid_any p0 q0 A1 a1.length c1 nc.w).mono fun e w' ⟨he, hb⟩ => ⟨he, nc.next hb⟩
          clear hK K
          simp only [Act.put, List.setIfInBounds_toArray, List.set_cons_zero, List.set_cons_succ, if_true, if_false, reduceIte, Nat.reduceEqDiff]
          refine Sf.lx_one rfl (by kernel_rfl) (fun K hK => Sf.dft_quiet rfl ?_)
          go_big_quiet_op
          refine hK _ ?_
          clear hK K
          refine Sf.lx_one rfl rfl (fun K hK => Sf.dft_quiet rfl ?_)
          go_big_quiet_op
          refine hK _ ?_
          clear hK K
          refine Sf.lx_one rfl rfl (fun K hK => Sf.dft_quiet rfl ?_)
          go_big_quiet_op
          refine hK _ ?_
          clear hK K
          refine Sf.lx_nil ?_
          rintro _ ⟨nq, rfl⟩
          go_wp2
          go_ret
          rw [HV.out]
          exact ⟨rfl, HB0.out.trans (nq.h.mono HB0.out.size)⟩
        · skip
          have HV := Lib.hid (show botB p0 q0 a0 p0 q1 a1 = false by unfold botB; rw [decide_eq_false hq]; simp)
          have hq1 : (q0 == q1) = false := beq_eq_false_iff_ne.2 hq
          have hq2 : decide (q0 = q1) = false := decide_eq_false hq
          rw [b0] at HC0
          rw [b1] at HC1
          clear b0 b1 hq
          have heq : ∀ w', (binOp .eql 94 (.agg #[.int .i64 p0, .int .i64 q0]) (.agg #[.int .i64 p0, .int .i64 q1])).run Try.prog w' = .ok (.bool false) w' := by intro w'; simp [go_sem, Try.underlying94, Try.underlying2, hq1, hq2]
          replace x0 : ∀ q : Sf.Gw w0, q.w.cell? ⟨w.heap.size, 0, none⟩ = some (.int .i64 p0) := fun q => q.cell x0
          replace x1 : ∀ q : Sf.Gw w0, q.w.cell? ⟨w.heap.size, 1, none⟩ = some (.int .i64 q0) := fun q => q.cell x1
          replace x2 : ∀ q : Sf.Gw w0, q.w.cell? ⟨w.heap.size, 2, none⟩ = some (.slice A0 a0.length c0) := fun q => q.cell x2
          replace y0 : ∀ q : Sf.Gw w0, q.w.cell? ⟨w.heap.size + 1, 0, none⟩ = some (.int .i64 p0) := fun q => q.cell y0
          replace y1 : ∀ q : Sf.Gw w0, q.w.cell? ⟨w.heap.size + 1, 1, none⟩ = some (.int .i64 q1) := fun q => q.cell y1
          replace y2 : ∀ q : Sf.Gw w0, q.w.cell? ⟨w.heap.size + 1, 2, none⟩ = some (.slice A1 a1.length c1) := fun q => q.cell y2
          go_enter Try.func87, Try.ntmps87
          go_wp2_with fail
          refine Sf.wp_softC (C := fun w' => ∃ q : Sf.Gw w0, w' = q.w) [false, false, false, false, false, false, false, false, false, false, false, false, false, false] [true, true, true, true, true, true, true, true, true, true, true, true, true, true] (fun i =>  1) (fun i => if i = 1 then .bool true else if i = 4 then .bool true else if i = 8 then (.agg #[.int .i64 p0, .int .i64 q0]) else if i = 10 then (.agg #[.int .i64 p0, .int .i64 q1]) else undef) (by kernel_rfl) (by kernel_rfl) (by kernel_rfl) ⟨Sf.gw_draw w0 1, rfl⟩ ?_
          simp only [Sf.tl]
          refine Sf.lx_one rfl rfl (fun K hK => Sf.dft_quiet rfl ?_)
          go_big_quiet_op
          refine hK _ ?_
          clear hK K
          refine Sf.lx_one rfl rfl (fun K hK => Sf.dft_call ?_ (hK _ ?_))
          · clear hK K; rintro _ ⟨nc, rfl⟩; go_simp; exact (HC0.out nc.w nc.h).mono fun e w' ⟨he, hb⟩ => ⟨he, nc.next hb⟩
          clear hK K
          simp only [Act.put, List.setIfInBounds_toArray, List.set_cons_zero, List.set_cons_succ, if_true, if_false, reduceIte, Nat.reduceEqDiff]
          refine Sf.lx_one rfl rfl (fun K hK => Sf.dft_quiet rfl ?_)
          go_big_quiet_op
          refine hK _ ?_
          clear hK K
          refine Sf.lx_one rfl (by kernel_rfl) (fun K hK => Sf.dft_quiet rfl ?_)
          go_big_quiet_op
          refine hK _ ?_
          clear hK K
          refine Sf.lx_one rfl (by kernel_rfl) (fun K hK => Sf.dft_call ?_ (hK _ ?_))
          · clear hK K; rintro _ ⟨nc, rfl⟩; go_simp; exact (HC1.out nc.w nc.h).mono fun e w' ⟨he, hb⟩ => ⟨he, nc.next hb⟩
          clear hK K
          simp only [Act.put, List.setIfInBounds_toArray, List.set_cons_zero, List.set_cons_succ, if_true, if_false, reduceIte, Nat.reduceEqDiff]
          refine Sf.lx_one rfl rfl (fun K hK => Sf.dft_quiet rfl ?_)
          go_big_quiet_op
          refine hK _ ?_
          clear hK K
          refine Sf.lx_one rfl rfl (fun K hK => Sf.dft_quiet rfl ?_)
          go_big_quiet_op
          refine hK _ ?_
          clear hK K
          refine Sf.lx_one rfl (by kernel_rfl) (fun K hK => Sf.dft_quiet rfl ?_)
          go_big_quiet_op
          refine hK _ ?_
          clear hK K
          refine Sf.lx_one rfl (by kernel_rfl) (fun K hK => Sf.dft_call ?_ (hK _ ?_))
          · clear hK K; rintro _ ⟨nc, rfl⟩; go_simp; exact (sid_any p0 q0 A0 a0.length c0 nc.w).mono fun e w' ⟨he, hb⟩ => ⟨he, nc.next hb⟩
          clear hK K
          simp only [Act.put, List.setIfInBounds_toArray, List.set_cons_zero, List.set_cons_succ, if_true, if_false, reduceIte, Nat.reduceEqDiff]
          refine Sf.lx_one rfl (by kernel_rfl) (fun K hK => Sf.dft_quiet rfl ?_)
          go_big_quiet_op
          refine hK _ ?_
          clear hK K
          refine Sf.lx_one rfl (by kernel_rfl) (fun K hK => Sf.dft_call ?_ (hK _ ?_))
          · clear hK K; rintro _ ⟨nc, rfl⟩; go_simp; exact (sid_any p0 q1 A1 a1.length c1 nc.w).mono fun e w' ⟨he, hb⟩ => ⟨he, nc.next hb⟩
          clear hK K
          simp only [Act.put, List.setIfInBounds_toArray, List.set_cons_zero, List.set_cons_succ, if_true, if_false, reduceIte, Nat.reduceEqDiff]
          refine Sf.lx_one rfl (by kernel_rfl) (fun K hK => Sf.dft_quiet rfl ?_)
          go_big_quiet_op
          refine hK _ ?_
          clear hK K
          refine Sf.lx_one rfl rfl (fun K hK => Sf.dft_quiet rfl ?_)
          go_big_quiet_op
          refine hK _ ?_
          clear hK K
          refine Sf.lx_one rfl rfl (fun K hK => Sf.dft_quiet rfl ?_)
          go_big_quiet_op
          refine hK _ ?_
          clear hK K
          refine Sf.lx_nil ?_
          rintro _ ⟨nq, rfl⟩
          go_wp2
          go_ret
          rw [HV.out]
          exact ⟨rfl, HB0.out.trans (nq.h.mono HB0.out.size)⟩
      · skip
        have HV := Lib.hid (show botB p0 q0 a0 p1 q1 a1 = false by unfold botB; rw [decide_eq_false hp]; simp)
        have hp1 : (p0 == p1) = false := beq_eq_false_iff_ne.2 hp
        have hp2 : decide (p0 = p1) = false := decide_eq_false hp
        rw [b0] at HC0
        rw [b1] at HC1
        clear b0 b1 hp
        have heq : ∀ w', (binOp .eql 94 (.agg #[.int .i64 p0, .int .i64 q0]) (.agg #[.int .i64 p1, .int .i64 q1])).run Try.prog w' = .ok (.bool false) w' := by intro w'; simp [go_sem, Try.underlying94, Try.underlying2, hp1, hp2]
        replace x0 : ∀ q : Sf.Gw w0, q.w.cell? ⟨w.heap.size, 0, none⟩ = some (.int .i64 p0) := fun q => q.cell x0
        replace x1 : ∀ q : Sf.Gw w0, q.w.cell? ⟨w.heap.size, 1, none⟩ = some (.int .i64 q0) := fun q => q.cell x1
        replace x2 : ∀ q : Sf.Gw w0, q.w.cell? ⟨w.heap.size, 2, none⟩ = some (.slice A0 a0.length c0) := fun q => q.cell x2
        replace y0 : ∀ q : Sf.Gw w0, q.w.cell? ⟨w.heap.size + 1, 0, none⟩ = some (.int .i64 p1) := fun q => q.cell y0
        replace y1 : ∀ q : Sf.Gw w0, q.w.cell? ⟨w.heap.size + 1, 1, none⟩ = some (.int .i64 q1) := fun q => q.cell y1
        replace y2 : ∀ q : Sf.Gw w0, q.w.cell? ⟨w.heap.size + 1, 2, none⟩ = some (.slice A1 a1.length c1) := fun q => q.cell y2
        go_enter Try.func87, Try.ntmps87
        go_wp2_with fail
        refine Sf.wp_softC (C := fun w' => ∃ q : Sf.Gw w0, w' = q.w) [false, false, false, false, false, false, false, false, false, false, false, false, false, false] [true, true, true, true, true, true, true, true, true, true, true, true, true, true] (fun i =>  1) (fun i => if i = 1 then .bool true else if i = 4 then .bool true else if i = 8 then (.agg #[.int .i64 p0, .int .i64 q0]) else if i = 10 then (.agg #[.int .i64 p1, .int .i64 q1]) else undef) (by kernel_rfl) (by kernel_rfl) (by kernel_rfl) ⟨Sf.gw_draw w0 1, rfl⟩ ?_
        simp only [Sf.tl]
        refine Sf.lx_one rfl rfl (fun K hK => Sf.dft_quiet rfl ?_)
        go_big_quiet_op
        refine hK _ ?_
        clear hK K
        refine Sf.lx_one rfl rfl (fun K hK => Sf.dft_call ?_ (hK _ ?_))
        · clear hK K; rintro _ ⟨nc, rfl⟩; go_simp; exact (HC0.out nc.w nc.h).mono fun e w' ⟨he, hb⟩ => ⟨he, nc.next hb⟩
        clear hK K
        simp only [Act.put, List.setIfInBounds_toArray, List.set_cons_zero, List.set_cons_succ, if_true, if_false, reduceIte, Nat.reduceEqDiff]
        refine Sf.lx_one rfl rfl (fun K hK => Sf.dft_quiet rfl ?_)
        go_big_quiet_op
        refine hK _ ?_
        clear hK K
        refine Sf.lx_one rfl (by kernel_rfl) (fun K hK => Sf.dft_quiet rfl ?_)
        go_big_quiet_op
        refine hK _ ?_
        clear hK K
        refine Sf.lx_one rfl (by kernel_rfl) (fun K hK => Sf.dft_call ?_ (hK _ ?_))
        · clear hK K; rintro _ ⟨nc, rfl⟩; go_simp; exact (HC1.out nc.w nc.h).mono fun e w' ⟨he, hb⟩ => ⟨he, nc.next hb⟩
        clear hK K
        simp only [Act.put, List.setIfInBounds_toArray, List.set_cons_zero, List.set_cons_succ, if_true, if_false, reduceIte, Nat.reduceEqDiff]
        refine Sf.lx_one rfl rfl (fun K hK => Sf.dft_quiet rfl ?_)
        go_big_quiet_op
        refine hK _ ?_
        clear hK K
        refine Sf.lx_one rfl rfl (fun K hK => Sf.dft_quiet rfl ?_)
        go_big_quiet_op
        refine hK _ ?_
        clear hK K
        refine Sf.lx_one rfl (by kernel_rfl) (fun K hK => Sf.dft_quiet rfl ?_)
        go_big_quiet_op
        refine hK _ ?_
        clear hK K
        refine Sf.lx_one rfl (by kernel_rfl) (fun K hK => Sf.dft_call ?_ (hK _ ?_))
        · clear hK K; rintro _ ⟨nc, rfl⟩; go_simp; exact (sid_any p0 q0 A0 a0.length c0 nc.w).mono fun e w' ⟨he, hb⟩ => ⟨he, nc.next hb⟩
        clear hK K
        simp only [Act.put, List.setIfInBounds_toArray, List.set_cons_zero, List.set_cons_succ, if_true, if_false, reduceIte, Nat.reduceEqDiff]
        refine Sf.lx_one rfl (by kernel_rfl) (fun K hK => Sf.dft_quiet rfl ?_)
        go_big_quiet_op
        refine hK _ ?_
        clear hK K
        refine Sf.lx_one rfl (by kernel_rfl) (fun K hK => Sf.dft_call ?_ (hK _ ?_))
        · clear hK K; rintro _ ⟨nc, rfl⟩; go_simp; exact (sid_any p1 q1 A1 a1.length c1 nc.w).mono fun e w' ⟨he, hb⟩ => ⟨he, nc.next hb⟩
        clear hK K
        simp only [Act.put, List.setIfInBounds_toArray, List.set_cons_zero, List.set_cons_succ, if_true, if_false, reduceIte, Nat.reduceEqDiff]
        refine Sf.lx_one rfl (by kernel_rfl) (fun K hK => Sf.dft_quiet rfl ?_)
        go_big_quiet_op
        refine hK _ ?_
        clear hK K
        refine Sf.lx_one rfl rfl (fun K hK => Sf.dft_quiet rfl ?_)
        go_big_quiet_op
        refine hK _ ?_
        clear hK K
        refine Sf.lx_one rfl rfl (fun K hK => Sf.dft_quiet rfl ?_)
        go_big_quiet_op
        refine hK _ ?_
        clear hK K
        refine Sf.lx_nil ?_
        rintro _ ⟨nq, rfl⟩
        go_wp2
        go_ret
        rw [HV.out]
        exact ⟨rfl, HB0.out.trans (nq.h.mono HB0.out.size)⟩
end Go.Proofs.Ytfbdmhkmkmbipaa
