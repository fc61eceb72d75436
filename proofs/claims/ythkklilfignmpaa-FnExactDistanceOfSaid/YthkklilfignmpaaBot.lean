/-
  Contracts: two valid pictures with the same sides, of both sides.
-/
import Derived.Test.YthkklilfignmpaaBk
import Derived.Test.YthkklilfignmpaaPv
import Derived.Test.YthkklilfignmpaaSfw
import Derived.Deep.RegionHeld3
import Derived.Deep.QuietTactic
import Derived.BigQuiet
namespace Go.Proofs.Ythkklilfignmpaa
open Go.RowKit Fl
set_option linter.unusedVariables false
set_option maxRecDepth 100000
set_option maxHeartbeats 8000000 in
theorem botS_any (g0 g1 : Nat) (v0 : Value) (p0 q0 : Int) (a0 : List Nat) (v1 : Value) (p1 q1 : Int) (a1 : List Nat) (w : World) (B : Nat) (h0 : Rd w B v0 (fl a0)) (h1 : Rd w B v1 (fl a1)) (hX : Bx w g0 [.int .i64 p0, .int .i64 q0, v0]) (hY : Bx w g1 [.int .i64 p1, .int .i64 q1, v1]) (hm0 : a0.length ≤ 1048576) (hx0 : ∀ x ∈ a0, x < 2 ^ 32) (hm1 : a1.length ≤ 1048576) (hx1 : ∀ x ∈ a1, x < 2 ^ 32) :
    Calls Try.prog 106 #[.pointer (some ⟨g0, 0, none⟩), .pointer (some ⟨g1, 0, none⟩)] w (RetBo (botB p0 q0 a0 p1 q1 a1) w) := by
  have HC0 := Lib.hid (fun (m : Nat) => vpP_any g0 v0 p0 q0 a0 (w.drewN m) B h0 (hX.2 0 _ rfl).1 (hX.2 1 _ rfl).1 (hX.2 2 _ rfl).1 hm0 hx0)
  have HC1 := Lib.hid (fun (m : Nat) => vpP_any g1 v1 p1 q1 a1 (w.drewN m) B h1 (hY.2 0 _ rfl).1 (hY.2 1 _ rfl).1 (hY.2 2 _ rfl).1 hm1 hx1)
  have x0 := (hX.2 0 _ rfl).1
  have x1 := (hX.2 1 _ rfl).1
  have y0 := (hY.2 0 _ rfl).1
  have y1 := (hY.2 1 _ rfl).1
  clear h0 h1 hX hY hx0 hx1
  cases b0 : vpcB p0 q0 a0 with
  | false =>
    have HV := Lib.hid (show botB p0 q0 a0 p1 q1 a1 = false by unfold botB; rw [b0]; rfl)
    rw [b0] at HC0
    clear b0
    go_enter Try.func106, Try.ntmps106
    go_wp2_with fail
    refine Sf.wp_soft [false, false, false, false, false, false, false, false, false, false, false, false, false, false, false, false, false, false, false, false, false, false, false, false, false, false, false, false, false] [true, true, true, true, true, true, true, true, true, true, true, true, true, true, true, true, true, true, true, true, true, true, true, true, true, true, true, true, true] (fun i => 1) (fun i => if i = 1 then .bool false else undef) (by kernel_rfl) (by kernel_rfl) (by kernel_rfl) ?_
    simp only [Sf.tl]
    with_reducible refine Sf.lx_one (by kernel_rfl) (by kernel_rfl) ?_
    intro K hK
    refine Sf.dft_quiet rfl ?_
    go_big_quiet_op
    with_reducible refine hK _ ?_
    clear hK K
    with_reducible refine Sf.lx_one (by kernel_rfl) (by kernel_rfl) ?_
    intro K hK
    refine Sf.dft_call ?_ ?_
    · clear hK K; rintro _ ⟨nc, rfl⟩; go_simp; exact (HC0.out _).mono fun e w' ⟨he, q, hw⟩ => ⟨he, nc + q, by rw [hw, World.drewN_drewN]⟩
    with_reducible refine hK _ ?_
    clear hK K
    (try simp only [Act.put, List.setIfInBounds_toArray, List.set_cons_zero, List.set_cons_succ, if_true, if_false, reduceIte, Nat.reduceEqDiff])
    with_reducible refine Sf.lx_one (by kernel_rfl) (by kernel_rfl) ?_
    intro K hK
    refine Sf.dft_quiet rfl ?_
    go_big_quiet_op
    with_reducible refine hK _ ?_
    clear hK K
    with_reducible refine Sf.lx_skip (by kernel_rfl) ?_
    simp only [Act.put, List.setIfInBounds_toArray, List.set_cons_zero, List.set_cons_succ]
    with_reducible refine Sf.lx_skip (by kernel_rfl) ?_
    simp only [Act.put, List.setIfInBounds_toArray, List.set_cons_zero, List.set_cons_succ]
    with_reducible refine Sf.lx_one (by kernel_rfl) (by kernel_rfl) ?_
    intro K hK
    refine Sf.dft_quiet rfl ?_
    go_big_quiet_op
    with_reducible refine hK _ ?_
    clear hK K
    with_reducible refine Sf.lx_one (by kernel_rfl) (by kernel_rfl) ?_
    intro K hK
    refine Sf.dft_quiet rfl ?_
    go_big_quiet_op
    with_reducible refine hK _ ?_
    clear hK K
    with_reducible refine Sf.lx_skip (by kernel_rfl) ?_
    simp only [Act.put, List.setIfInBounds_toArray, List.set_cons_zero, List.set_cons_succ]
    with_reducible refine Sf.lx_skip (by kernel_rfl) ?_
    simp only [Act.put, List.setIfInBounds_toArray, List.set_cons_zero, List.set_cons_succ]
    with_reducible refine Sf.lx_skip (by kernel_rfl) ?_
    simp only [Act.put, List.setIfInBounds_toArray, List.set_cons_zero, List.set_cons_succ]
    with_reducible refine Sf.lx_skip (by kernel_rfl) ?_
    simp only [Act.put, List.setIfInBounds_toArray, List.set_cons_zero, List.set_cons_succ]
    with_reducible refine Sf.lx_skip (by kernel_rfl) ?_
    simp only [Act.put, List.setIfInBounds_toArray, List.set_cons_zero, List.set_cons_succ]
    with_reducible refine Sf.lx_skip (by kernel_rfl) ?_
    simp only [Act.put, List.setIfInBounds_toArray, List.set_cons_zero, List.set_cons_succ]
    with_reducible refine Sf.lx_skip (by kernel_rfl) ?_
    simp only [Act.put, List.setIfInBounds_toArray, List.set_cons_zero, List.set_cons_succ]
    with_reducible refine Sf.lx_skip (by kernel_rfl) ?_
    simp only [Act.put, List.setIfInBounds_toArray, List.set_cons_zero, List.set_cons_succ]
    with_reducible refine Sf.lx_skip (by kernel_rfl) ?_
    simp only [Act.put, List.setIfInBounds_toArray, List.set_cons_zero, List.set_cons_succ]
    with_reducible refine Sf.lx_one (by kernel_rfl) (by kernel_rfl) ?_
    intro K hK
    refine Sf.dft_quiet rfl ?_
    go_big_quiet_op
    with_reducible refine hK _ ?_
    clear hK K
    with_reducible refine Sf.lx_one (by kernel_rfl) (by kernel_rfl) ?_
    intro K hK
    refine Sf.dft_quiet rfl ?_
    go_big_quiet_op
    with_reducible refine hK _ ?_
    clear hK K
    with_reducible refine Sf.lx_skip (by kernel_rfl) ?_
    simp only [Act.put, List.setIfInBounds_toArray, List.set_cons_zero, List.set_cons_succ]
    with_reducible refine Sf.lx_skip (by kernel_rfl) ?_
    simp only [Act.put, List.setIfInBounds_toArray, List.set_cons_zero, List.set_cons_succ]
    with_reducible refine Sf.lx_skip (by kernel_rfl) ?_
    simp only [Act.put, List.setIfInBounds_toArray, List.set_cons_zero, List.set_cons_succ]
    with_reducible refine Sf.lx_skip (by kernel_rfl) ?_
    simp only [Act.put, List.setIfInBounds_toArray, List.set_cons_zero, List.set_cons_succ]
    with_reducible refine Sf.lx_skip (by kernel_rfl) ?_
    simp only [Act.put, List.setIfInBounds_toArray, List.set_cons_zero, List.set_cons_succ]
    with_reducible refine Sf.lx_skip (by kernel_rfl) ?_
    simp only [Act.put, List.setIfInBounds_toArray, List.set_cons_zero, List.set_cons_succ]
    with_reducible refine Sf.lx_skip (by kernel_rfl) ?_
    simp only [Act.put, List.setIfInBounds_toArray, List.set_cons_zero, List.set_cons_succ]
    with_reducible refine Sf.lx_skip (by kernel_rfl) ?_
    simp only [Act.put, List.setIfInBounds_toArray, List.set_cons_zero, List.set_cons_succ]
    with_reducible refine Sf.lx_skip (by kernel_rfl) ?_
    simp only [Act.put, List.setIfInBounds_toArray, List.set_cons_zero, List.set_cons_succ]
    with_reducible refine Sf.lx_one (by kernel_rfl) (by kernel_rfl) ?_
    intro K hK
    refine Sf.dft_quiet rfl ?_
    go_big_quiet_op
    with_reducible refine hK _ ?_
    clear hK K
    with_reducible refine Sf.lx_one (by kernel_rfl) (by kernel_rfl) ?_
    intro K hK
    refine Sf.dft_quiet rfl ?_
    go_big_quiet_op
    with_reducible refine hK _ ?_
    clear hK K
    with_reducible refine Sf.lx_nil ?_
    rintro _ ⟨nq, rfl⟩
    go_wp2
    go_ret
    rw [HV.out]
    exact ⟨rfl, _, rfl⟩
  | true =>
    cases b1 : vpcB p1 q1 a1 with
    | false =>
      have HV := Lib.hid (show botB p0 q0 a0 p1 q1 a1 = false by unfold botB; rw [b0, b1]; rfl)
      rw [b0] at HC0
      rw [b1] at HC1
      clear b0 b1
      go_enter Try.func106, Try.ntmps106
      go_wp2_with fail
      refine Sf.wp_soft [false, false, false, false, false, false, false, false, false, false, false, false, false, false, false, false, false, false, false, false, false, false, false, false, false, false, false, false, false] [true, true, true, true, true, true, true, true, true, true, true, true, true, true, true, true, true, true, true, true, true, true, true, true, true, true, true, true, true] (fun i => 1) (fun i => if i = 1 then .bool true else if i = 4 then .bool false else undef) (by kernel_rfl) (by kernel_rfl) (by kernel_rfl) ?_
      simp only [Sf.tl]
      with_reducible refine Sf.lx_one (by kernel_rfl) (by kernel_rfl) ?_
      intro K hK
      refine Sf.dft_quiet rfl ?_
      go_big_quiet_op
      with_reducible refine hK _ ?_
      clear hK K
      with_reducible refine Sf.lx_one (by kernel_rfl) (by kernel_rfl) ?_
      intro K hK
      refine Sf.dft_call ?_ ?_
      · clear hK K; rintro _ ⟨nc, rfl⟩; go_simp; exact (HC0.out _).mono fun e w' ⟨he, q, hw⟩ => ⟨he, nc + q, by rw [hw, World.drewN_drewN]⟩
      with_reducible refine hK _ ?_
      clear hK K
      (try simp only [Act.put, List.setIfInBounds_toArray, List.set_cons_zero, List.set_cons_succ, if_true, if_false, reduceIte, Nat.reduceEqDiff])
      with_reducible refine Sf.lx_one (by kernel_rfl) (by kernel_rfl) ?_
      intro K hK
      refine Sf.dft_quiet rfl ?_
      go_big_quiet_op
      with_reducible refine hK _ ?_
      clear hK K
      with_reducible refine Sf.lx_one (by kernel_rfl) (by kernel_rfl) ?_
      intro K hK
      refine Sf.dft_quiet rfl ?_
      go_big_quiet_op
      with_reducible refine hK _ ?_
      clear hK K
      with_reducible refine Sf.lx_one (by kernel_rfl) (by kernel_rfl) ?_
      intro K hK
      refine Sf.dft_call ?_ ?_
      · clear hK K; rintro _ ⟨nc, rfl⟩; go_simp; exact (HC1.out _).mono fun e w' ⟨he, q, hw⟩ => ⟨he, nc + q, by rw [hw, World.drewN_drewN]⟩
      with_reducible refine hK _ ?_
      clear hK K
      (try simp only [Act.put, List.setIfInBounds_toArray, List.set_cons_zero, List.set_cons_succ, if_true, if_false, reduceIte, Nat.reduceEqDiff])
      with_reducible refine Sf.lx_one (by kernel_rfl) (by kernel_rfl) ?_
      intro K hK
      refine Sf.dft_quiet rfl ?_
      go_big_quiet_op
      with_reducible refine hK _ ?_
      clear hK K
      with_reducible refine Sf.lx_one (by kernel_rfl) (by kernel_rfl) ?_
      intro K hK
      refine Sf.dft_quiet rfl ?_
      go_big_quiet_op
      with_reducible refine hK _ ?_
      clear hK K
      with_reducible refine Sf.lx_skip (by kernel_rfl) ?_
      simp only [Act.put, List.setIfInBounds_toArray, List.set_cons_zero, List.set_cons_succ]
      with_reducible refine Sf.lx_skip (by kernel_rfl) ?_
      simp only [Act.put, List.setIfInBounds_toArray, List.set_cons_zero, List.set_cons_succ]
      with_reducible refine Sf.lx_skip (by kernel_rfl) ?_
      simp only [Act.put, List.setIfInBounds_toArray, List.set_cons_zero, List.set_cons_succ]
      with_reducible refine Sf.lx_skip (by kernel_rfl) ?_
      simp only [Act.put, List.setIfInBounds_toArray, List.set_cons_zero, List.set_cons_succ]
      with_reducible refine Sf.lx_skip (by kernel_rfl) ?_
      simp only [Act.put, List.setIfInBounds_toArray, List.set_cons_zero, List.set_cons_succ]
      with_reducible refine Sf.lx_skip (by kernel_rfl) ?_
      simp only [Act.put, List.setIfInBounds_toArray, List.set_cons_zero, List.set_cons_succ]
      with_reducible refine Sf.lx_skip (by kernel_rfl) ?_
      simp only [Act.put, List.setIfInBounds_toArray, List.set_cons_zero, List.set_cons_succ]
      with_reducible refine Sf.lx_skip (by kernel_rfl) ?_
      simp only [Act.put, List.setIfInBounds_toArray, List.set_cons_zero, List.set_cons_succ]
      with_reducible refine Sf.lx_skip (by kernel_rfl) ?_
      simp only [Act.put, List.setIfInBounds_toArray, List.set_cons_zero, List.set_cons_succ]
      with_reducible refine Sf.lx_one (by kernel_rfl) (by kernel_rfl) ?_
      intro K hK
      refine Sf.dft_quiet rfl ?_
      go_big_quiet_op
      with_reducible refine hK _ ?_
      clear hK K
      with_reducible refine Sf.lx_one (by kernel_rfl) (by kernel_rfl) ?_
      intro K hK
      refine Sf.dft_quiet rfl ?_
      go_big_quiet_op
      with_reducible refine hK _ ?_
      clear hK K
      with_reducible refine Sf.lx_skip (by kernel_rfl) ?_
      simp only [Act.put, List.setIfInBounds_toArray, List.set_cons_zero, List.set_cons_succ]
      with_reducible refine Sf.lx_skip (by kernel_rfl) ?_
      simp only [Act.put, List.setIfInBounds_toArray, List.set_cons_zero, List.set_cons_succ]
      with_reducible refine Sf.lx_skip (by kernel_rfl) ?_
      simp only [Act.put, List.setIfInBounds_toArray, List.set_cons_zero, List.set_cons_succ]
      with_reducible refine Sf.lx_skip (by kernel_rfl) ?_
      simp only [Act.put, List.setIfInBounds_toArray, List.set_cons_zero, List.set_cons_succ]
      with_reducible refine Sf.lx_skip (by kernel_rfl) ?_
      simp only [Act.put, List.setIfInBounds_toArray, List.set_cons_zero, List.set_cons_succ]
      with_reducible refine Sf.lx_skip (by kernel_rfl) ?_
      simp only [Act.put, List.setIfInBounds_toArray, List.set_cons_zero, List.set_cons_succ]
      with_reducible refine Sf.lx_skip (by kernel_rfl) ?_
      simp only [Act.put, List.setIfInBounds_toArray, List.set_cons_zero, List.set_cons_succ]
      with_reducible refine Sf.lx_skip (by kernel_rfl) ?_
      simp only [Act.put, List.setIfInBounds_toArray, List.set_cons_zero, List.set_cons_succ]
      with_reducible refine Sf.lx_skip (by kernel_rfl) ?_
      simp only [Act.put, List.setIfInBounds_toArray, List.set_cons_zero, List.set_cons_succ]
      with_reducible refine Sf.lx_one (by kernel_rfl) (by kernel_rfl) ?_
      intro K hK
      refine Sf.dft_quiet rfl ?_
      go_big_quiet_op
      with_reducible refine hK _ ?_
      clear hK K
      with_reducible refine Sf.lx_one (by kernel_rfl) (by kernel_rfl) ?_
      intro K hK
      refine Sf.dft_quiet rfl ?_
      go_big_quiet_op
      with_reducible refine hK _ ?_
      clear hK K
      with_reducible refine Sf.lx_nil ?_
      rintro _ ⟨nq, rfl⟩
      go_wp2
      go_ret
      rw [HV.out]
      exact ⟨rfl, _, rfl⟩
    | true =>
      by_cases hp : p0 = p1
      · subst hp
        by_cases hq : q0 = q1
        · subst hq
          have HV := Lib.hid (show botB p0 q0 a0 p0 q0 a1 = true by unfold botB; rw [b0, b1]; simp)
          rw [b0] at HC0
          rw [b1] at HC1
          clear b0 b1
          go_enter Try.func106, Try.ntmps106
          go_wp2_with fail
          refine Sf.wp_soft [false, false, false, false, false, false, false, false, false, false, false, false, false, false, false, false, false, false, false, false, false, false, false, false, false, false, false, false, false] [true, true, true, true, true, true, true, true, true, true, true, true, true, true, true, true, true, true, true, true, true, true, true, true, true, true, true, true, true] (fun i => 1) (fun i => if i = 1 then .bool true else if i = 4 then .bool true else undef) (by kernel_rfl) (by kernel_rfl) (by kernel_rfl) ?_
          simp only [Sf.tl]
          with_reducible refine Sf.lx_one (by kernel_rfl) (by kernel_rfl) ?_
          intro K hK
          refine Sf.dft_quiet rfl ?_
          go_big_quiet_op
          with_reducible refine hK _ ?_
          clear hK K
          with_reducible refine Sf.lx_one (by kernel_rfl) (by kernel_rfl) ?_
          intro K hK
          refine Sf.dft_call ?_ ?_
          · clear hK K; rintro _ ⟨nc, rfl⟩; go_simp; exact (HC0.out _).mono fun e w' ⟨he, q, hw⟩ => ⟨he, nc + q, by rw [hw, World.drewN_drewN]⟩
          with_reducible refine hK _ ?_
          clear hK K
          (try simp only [Act.put, List.setIfInBounds_toArray, List.set_cons_zero, List.set_cons_succ, if_true, if_false, reduceIte, Nat.reduceEqDiff])
          with_reducible refine Sf.lx_one (by kernel_rfl) (by kernel_rfl) ?_
          intro K hK
          refine Sf.dft_quiet rfl ?_
          go_big_quiet_op
          with_reducible refine hK _ ?_
          clear hK K
          with_reducible refine Sf.lx_one (by kernel_rfl) (by kernel_rfl) ?_
          intro K hK
          refine Sf.dft_quiet rfl ?_
          go_big_quiet_op
          with_reducible refine hK _ ?_
          clear hK K
          with_reducible refine Sf.lx_one (by kernel_rfl) (by kernel_rfl) ?_
          intro K hK
          refine Sf.dft_call ?_ ?_
          · clear hK K; rintro _ ⟨nc, rfl⟩; go_simp; exact (HC1.out _).mono fun e w' ⟨he, q, hw⟩ => ⟨he, nc + q, by rw [hw, World.drewN_drewN]⟩
          with_reducible refine hK _ ?_
          clear hK K
          (try simp only [Act.put, List.setIfInBounds_toArray, List.set_cons_zero, List.set_cons_succ, if_true, if_false, reduceIte, Nat.reduceEqDiff])
          with_reducible refine Sf.lx_one (by kernel_rfl) (by kernel_rfl) ?_
          intro K hK
          refine Sf.dft_quiet rfl ?_
          go_big_quiet_op
          with_reducible refine hK _ ?_
          clear hK K
          with_reducible refine Sf.lx_one (by kernel_rfl) (by kernel_rfl) ?_
          intro K hK
          refine Sf.dft_quiet rfl ?_
          go_big_quiet_op
          with_reducible refine hK _ ?_
          clear hK K
          with_reducible refine Sf.lx_one (by kernel_rfl) (by kernel_rfl) ?_
          intro K hK
          refine Sf.dft_quiet rfl ?_
          go_big_quiet_op
          with_reducible refine hK _ ?_
          clear hK K
          with_reducible refine Sf.lx_one (by kernel_rfl) (by kernel_rfl) ?_
          intro K hK
          refine Sf.dft_nil rfl rfl ?_
          with_reducible refine hK _ ?_
          clear hK K
          simp only [Act.put, List.setIfInBounds_toArray, List.set_cons_zero, List.set_cons_succ]
          with_reducible refine Sf.lx_one (by kernel_rfl) (by kernel_rfl) ?_
          intro K hK
          refine Sf.dft_quiet rfl ?_
          go_big_quiet_op
          with_reducible refine hK _ ?_
          clear hK K
          with_reducible refine Sf.lx_one (by kernel_rfl) (by kernel_rfl) ?_
          intro K hK
          refine Sf.dft_quiet rfl ?_
          go_big_quiet_op
          with_reducible refine hK _ ?_
          clear hK K
          with_reducible refine Sf.lx_one (by kernel_rfl) (by kernel_rfl) ?_
          intro K hK
          refine Sf.dft_quiet rfl ?_
          go_big_quiet_op
          with_reducible refine hK _ ?_
          clear hK K
          with_reducible refine Sf.lx_one (by kernel_rfl) (by kernel_rfl) ?_
          intro K hK
          refine Sf.dft_nil rfl rfl ?_
          with_reducible refine hK _ ?_
          clear hK K
          simp only [Act.put, List.setIfInBounds_toArray, List.set_cons_zero, List.set_cons_succ]
          with_reducible refine Sf.lx_one (by kernel_rfl) (by kernel_rfl) ?_
          intro K hK
          refine Sf.dft_quiet rfl ?_
          go_big_quiet_op
          with_reducible refine hK _ ?_
          clear hK K
          with_reducible refine Sf.lx_one (by kernel_rfl) (by kernel_rfl) ?_
          intro K hK
          refine Sf.dft_quiet rfl ?_
          go_big_quiet_op
          with_reducible refine hK _ ?_
          clear hK K
          with_reducible refine Sf.lx_one (by kernel_rfl) (by kernel_rfl) ?_
          intro K hK
          refine Sf.dft_quiet rfl ?_
          go_big_quiet_op
          with_reducible refine hK _ ?_
          clear hK K
          with_reducible refine Sf.lx_one (by kernel_rfl) (by kernel_rfl) ?_
          intro K hK
          refine Sf.dft_quiet rfl ?_
          go_big_quiet_op
          with_reducible refine hK _ ?_
          clear hK K
          with_reducible refine Sf.lx_one (by kernel_rfl) (by kernel_rfl) ?_
          intro K hK
          refine Sf.dft_quiet rfl ?_
          go_big_quiet_op
          with_reducible refine hK _ ?_
          clear hK K
          with_reducible refine Sf.lx_one (by kernel_rfl) (by kernel_rfl) ?_
          intro K hK
          refine Sf.dft_quiet rfl ?_
          go_big_quiet_op
          with_reducible refine hK _ ?_
          clear hK K
          with_reducible refine Sf.lx_one (by kernel_rfl) (by kernel_rfl) ?_
          intro K hK
          refine Sf.dft_nil rfl rfl ?_
          with_reducible refine hK _ ?_
          clear hK K
          simp only [Act.put, List.setIfInBounds_toArray, List.set_cons_zero, List.set_cons_succ]
          with_reducible refine Sf.lx_one (by kernel_rfl) (by kernel_rfl) ?_
          intro K hK
          refine Sf.dft_quiet rfl ?_
          go_big_quiet_op
          with_reducible refine hK _ ?_
          clear hK K
          with_reducible refine Sf.lx_one (by kernel_rfl) (by kernel_rfl) ?_
          intro K hK
          refine Sf.dft_quiet rfl ?_
          go_big_quiet_op
          with_reducible refine hK _ ?_
          clear hK K
          with_reducible refine Sf.lx_one (by kernel_rfl) (by kernel_rfl) ?_
          intro K hK
          refine Sf.dft_quiet rfl ?_
          go_big_quiet_op
          with_reducible refine hK _ ?_
          clear hK K
          with_reducible refine Sf.lx_one (by kernel_rfl) (by kernel_rfl) ?_
          intro K hK
          refine Sf.dft_nil rfl rfl ?_
          with_reducible refine hK _ ?_
          clear hK K
          simp only [Act.put, List.setIfInBounds_toArray, List.set_cons_zero, List.set_cons_succ]
          with_reducible refine Sf.lx_one (by kernel_rfl) (by kernel_rfl) ?_
          intro K hK
          refine Sf.dft_quiet rfl ?_
          go_big_quiet_op
          with_reducible refine hK _ ?_
          clear hK K
          with_reducible refine Sf.lx_one (by kernel_rfl) (by kernel_rfl) ?_
          intro K hK
          refine Sf.dft_quiet rfl ?_
          go_big_quiet_op
          with_reducible refine hK _ ?_
          clear hK K
          with_reducible refine Sf.lx_one (by kernel_rfl) (by kernel_rfl) ?_
          intro K hK
          refine Sf.dft_quiet rfl ?_
          go_big_quiet_op
          with_reducible refine hK _ ?_
          clear hK K
          with_reducible refine Sf.lx_one (by kernel_rfl) (by kernel_rfl) ?_
          intro K hK
          refine Sf.dft_quiet rfl ?_
          go_big_quiet_op
          with_reducible refine hK _ ?_
          clear hK K
          with_reducible refine Sf.lx_one (by kernel_rfl) (by kernel_rfl) ?_
          intro K hK
          refine Sf.dft_quiet rfl ?_
          go_big_quiet_op
          with_reducible refine hK _ ?_
          clear hK K
          with_reducible refine Sf.lx_nil ?_
          rintro _ ⟨nq, rfl⟩
          go_wp2
          go_ret
          rw [HV.out]
          exact ⟨rfl, _, rfl⟩
        · skip
          have HV := Lib.hid (show botB p0 q0 a0 p0 q1 a1 = false by unfold botB; rw [decide_eq_false hq]; simp)
          have hq1 : (q0 == q1) = false := beq_eq_false_iff_ne.2 hq
          have hq2 : decide (q0 = q1) = false := decide_eq_false hq
          rw [b0] at HC0
          rw [b1] at HC1
          clear b0 b1 hq
          go_enter Try.func106, Try.ntmps106
          go_wp2_with fail
          refine Sf.wp_soft [false, false, false, false, false, false, false, false, false, false, false, false, false, false, false, false, false, false, false, false, false, false, false, false, false, false, false, false, false] [true, true, true, true, true, true, true, true, true, true, true, true, true, true, true, true, true, true, true, true, true, true, true, true, true, true, true, true, true] (fun i => 1) (fun i => if i = 1 then .bool true else if i = 4 then .bool true else undef) (by kernel_rfl) (by kernel_rfl) (by kernel_rfl) ?_
          simp only [Sf.tl]
          with_reducible refine Sf.lx_one (by kernel_rfl) (by kernel_rfl) ?_
          intro K hK
          refine Sf.dft_quiet rfl ?_
          go_big_quiet_op
          with_reducible refine hK _ ?_
          clear hK K
          with_reducible refine Sf.lx_one (by kernel_rfl) (by kernel_rfl) ?_
          intro K hK
          refine Sf.dft_call ?_ ?_
          · clear hK K; rintro _ ⟨nc, rfl⟩; go_simp; exact (HC0.out _).mono fun e w' ⟨he, q, hw⟩ => ⟨he, nc + q, by rw [hw, World.drewN_drewN]⟩
          with_reducible refine hK _ ?_
          clear hK K
          (try simp only [Act.put, List.setIfInBounds_toArray, List.set_cons_zero, List.set_cons_succ, if_true, if_false, reduceIte, Nat.reduceEqDiff])
          with_reducible refine Sf.lx_one (by kernel_rfl) (by kernel_rfl) ?_
          intro K hK
          refine Sf.dft_quiet rfl ?_
          go_big_quiet_op
          with_reducible refine hK _ ?_
          clear hK K
          with_reducible refine Sf.lx_one (by kernel_rfl) (by kernel_rfl) ?_
          intro K hK
          refine Sf.dft_quiet rfl ?_
          go_big_quiet_op
          with_reducible refine hK _ ?_
          clear hK K
          with_reducible refine Sf.lx_one (by kernel_rfl) (by kernel_rfl) ?_
          intro K hK
          refine Sf.dft_call ?_ ?_
          · clear hK K; rintro _ ⟨nc, rfl⟩; go_simp; exact (HC1.out _).mono fun e w' ⟨he, q, hw⟩ => ⟨he, nc + q, by rw [hw, World.drewN_drewN]⟩
          with_reducible refine hK _ ?_
          clear hK K
          (try simp only [Act.put, List.setIfInBounds_toArray, List.set_cons_zero, List.set_cons_succ, if_true, if_false, reduceIte, Nat.reduceEqDiff])
          with_reducible refine Sf.lx_one (by kernel_rfl) (by kernel_rfl) ?_
          intro K hK
          refine Sf.dft_quiet rfl ?_
          go_big_quiet_op
          with_reducible refine hK _ ?_
          clear hK K
          with_reducible refine Sf.lx_one (by kernel_rfl) (by kernel_rfl) ?_
          intro K hK
          refine Sf.dft_quiet rfl ?_
          go_big_quiet_op
          with_reducible refine hK _ ?_
          clear hK K
          with_reducible refine Sf.lx_one (by kernel_rfl) (by kernel_rfl) ?_
          intro K hK
          refine Sf.dft_quiet rfl ?_
          go_big_quiet_op
          with_reducible refine hK _ ?_
          clear hK K
          with_reducible refine Sf.lx_one (by kernel_rfl) (by kernel_rfl) ?_
          intro K hK
          refine Sf.dft_nil rfl rfl ?_
          with_reducible refine hK _ ?_
          clear hK K
          simp only [Act.put, List.setIfInBounds_toArray, List.set_cons_zero, List.set_cons_succ]
          with_reducible refine Sf.lx_one (by kernel_rfl) (by kernel_rfl) ?_
          intro K hK
          refine Sf.dft_quiet rfl ?_
          go_big_quiet_op
          with_reducible refine hK _ ?_
          clear hK K
          with_reducible refine Sf.lx_one (by kernel_rfl) (by kernel_rfl) ?_
          intro K hK
          refine Sf.dft_quiet rfl ?_
          go_big_quiet_op
          with_reducible refine hK _ ?_
          clear hK K
          with_reducible refine Sf.lx_one (by kernel_rfl) (by kernel_rfl) ?_
          intro K hK
          refine Sf.dft_quiet rfl ?_
          go_big_quiet_op
          with_reducible refine hK _ ?_
          clear hK K
          with_reducible refine Sf.lx_one (by kernel_rfl) (by kernel_rfl) ?_
          intro K hK
          refine Sf.dft_nil rfl rfl ?_
          with_reducible refine hK _ ?_
          clear hK K
          simp only [Act.put, List.setIfInBounds_toArray, List.set_cons_zero, List.set_cons_succ]
          with_reducible refine Sf.lx_one (by kernel_rfl) (by kernel_rfl) ?_
          intro K hK
          refine Sf.dft_quiet rfl ?_
          go_big_quiet_op
          with_reducible refine hK _ ?_
          clear hK K
          with_reducible refine Sf.lx_one (by kernel_rfl) (by kernel_rfl) ?_
          intro K hK
          refine Sf.dft_quiet rfl ?_
          go_big_quiet_op
          with_reducible refine hK _ ?_
          clear hK K
          with_reducible refine Sf.lx_one (by kernel_rfl) (by kernel_rfl) ?_
          intro K hK
          refine Sf.dft_quiet rfl ?_
          go_big_quiet_op
          with_reducible refine hK _ ?_
          clear hK K
          with_reducible refine Sf.lx_one (by kernel_rfl) (by kernel_rfl) ?_
          intro K hK
          refine Sf.dft_quiet rfl ?_
          go_big_quiet_op
          with_reducible refine hK _ ?_
          clear hK K
          with_reducible refine Sf.lx_one (by kernel_rfl) (by kernel_rfl) ?_
          intro K hK
          refine Sf.dft_quiet rfl ?_
          go_big_quiet_op
          with_reducible refine hK _ ?_
          clear hK K
          with_reducible refine Sf.lx_one (by kernel_rfl) (by kernel_rfl) ?_
          intro K hK
          refine Sf.dft_quiet rfl ?_
          go_big_quiet_op
          with_reducible refine hK _ ?_
          clear hK K
          with_reducible refine Sf.lx_one (by kernel_rfl) (by kernel_rfl) ?_
          intro K hK
          refine Sf.dft_nil rfl rfl ?_
          with_reducible refine hK _ ?_
          clear hK K
          simp only [Act.put, List.setIfInBounds_toArray, List.set_cons_zero, List.set_cons_succ]
          with_reducible refine Sf.lx_one (by kernel_rfl) (by kernel_rfl) ?_
          intro K hK
          refine Sf.dft_quiet rfl ?_
          go_big_quiet_op
          with_reducible refine hK _ ?_
          clear hK K
          with_reducible refine Sf.lx_one (by kernel_rfl) (by kernel_rfl) ?_
          intro K hK
          refine Sf.dft_quiet rfl ?_
          go_big_quiet_op
          with_reducible refine hK _ ?_
          clear hK K
          with_reducible refine Sf.lx_one (by kernel_rfl) (by kernel_rfl) ?_
          intro K hK
          refine Sf.dft_quiet rfl ?_
          go_big_quiet_op
          with_reducible refine hK _ ?_
          clear hK K
          with_reducible refine Sf.lx_one (by kernel_rfl) (by kernel_rfl) ?_
          intro K hK
          refine Sf.dft_nil rfl rfl ?_
          with_reducible refine hK _ ?_
          clear hK K
          simp only [Act.put, List.setIfInBounds_toArray, List.set_cons_zero, List.set_cons_succ]
          with_reducible refine Sf.lx_one (by kernel_rfl) (by kernel_rfl) ?_
          intro K hK
          refine Sf.dft_quiet rfl ?_
          go_big_quiet_op
          with_reducible refine hK _ ?_
          clear hK K
          with_reducible refine Sf.lx_one (by kernel_rfl) (by kernel_rfl) ?_
          intro K hK
          refine Sf.dft_quiet rfl ?_
          go_big_quiet_op
          with_reducible refine hK _ ?_
          clear hK K
          with_reducible refine Sf.lx_one (by kernel_rfl) (by kernel_rfl) ?_
          intro K hK
          refine Sf.dft_quiet rfl ?_
          go_big_quiet_op
          with_reducible refine hK _ ?_
          clear hK K
          with_reducible refine Sf.lx_one (by kernel_rfl) (by kernel_rfl) ?_
          intro K hK
          refine Sf.dft_quiet rfl ?_
          go_big_quiet_op
          with_reducible refine hK _ ?_
          clear hK K
          with_reducible refine Sf.lx_one (by kernel_rfl) (by kernel_rfl) ?_
          intro K hK
          refine Sf.dft_quiet rfl ?_
          go_big_quiet_op
          with_reducible refine hK _ ?_
          clear hK K
          with_reducible refine Sf.lx_nil ?_
          rintro _ ⟨nq, rfl⟩
          go_wp2
          go_ret
          rw [HV.out]
          exact ⟨rfl, _, rfl⟩
      · skip
        have HV := Lib.hid (show botB p0 q0 a0 p1 q1 a1 = false by unfold botB; rw [decide_eq_false hp]; simp)
        have hp1 : (p0 == p1) = false := beq_eq_false_iff_ne.2 hp
        have hp2 : decide (p0 = p1) = false := decide_eq_false hp
        rw [b0] at HC0
        rw [b1] at HC1
        clear b0 b1 hp
        go_enter Try.func106, Try.ntmps106
        go_wp2_with fail
        refine Sf.wp_soft [false, false, false, false, false, false, false, false, false, false, false, false, false, false, false, false, false, false, false, false, false, false, false, false, false, false, false, false, false] [true, true, true, true, true, true, true, true, true, true, true, true, true, true, true, true, true, true, true, true, true, true, true, true, true, true, true, true, true] (fun i => 1) (fun i => if i = 1 then .bool true else if i = 4 then .bool true else undef) (by kernel_rfl) (by kernel_rfl) (by kernel_rfl) ?_
        simp only [Sf.tl]
        with_reducible refine Sf.lx_one (by kernel_rfl) (by kernel_rfl) ?_
        intro K hK
        refine Sf.dft_quiet rfl ?_
        go_big_quiet_op
        with_reducible refine hK _ ?_
        clear hK K
        with_reducible refine Sf.lx_one (by kernel_rfl) (by kernel_rfl) ?_
        intro K hK
        refine Sf.dft_call ?_ ?_
        · clear hK K; rintro _ ⟨nc, rfl⟩; go_simp; exact (HC0.out _).mono fun e w' ⟨he, q, hw⟩ => ⟨he, nc + q, by rw [hw, World.drewN_drewN]⟩
        with_reducible refine hK _ ?_
        clear hK K
        (try simp only [Act.put, List.setIfInBounds_toArray, List.set_cons_zero, List.set_cons_succ, if_true, if_false, reduceIte, Nat.reduceEqDiff])
        with_reducible refine Sf.lx_one (by kernel_rfl) (by kernel_rfl) ?_
        intro K hK
        refine Sf.dft_quiet rfl ?_
        go_big_quiet_op
        with_reducible refine hK _ ?_
        clear hK K
        with_reducible refine Sf.lx_one (by kernel_rfl) (by kernel_rfl) ?_
        intro K hK
        refine Sf.dft_quiet rfl ?_
        go_big_quiet_op
        with_reducible refine hK _ ?_
        clear hK K
        with_reducible refine Sf.lx_one (by kernel_rfl) (by kernel_rfl) ?_
        intro K hK
        refine Sf.dft_call ?_ ?_
        · clear hK K; rintro _ ⟨nc, rfl⟩; go_simp; exact (HC1.out _).mono fun e w' ⟨he, q, hw⟩ => ⟨he, nc + q, by rw [hw, World.drewN_drewN]⟩
        with_reducible refine hK _ ?_
        clear hK K
        (try simp only [Act.put, List.setIfInBounds_toArray, List.set_cons_zero, List.set_cons_succ, if_true, if_false, reduceIte, Nat.reduceEqDiff])
        with_reducible refine Sf.lx_one (by kernel_rfl) (by kernel_rfl) ?_
        intro K hK
        refine Sf.dft_quiet rfl ?_
        go_big_quiet_op
        with_reducible refine hK _ ?_
        clear hK K
        with_reducible refine Sf.lx_one (by kernel_rfl) (by kernel_rfl) ?_
        intro K hK
        refine Sf.dft_quiet rfl ?_
        go_big_quiet_op
        with_reducible refine hK _ ?_
        clear hK K
        with_reducible refine Sf.lx_one (by kernel_rfl) (by kernel_rfl) ?_
        intro K hK
        refine Sf.dft_quiet rfl ?_
        go_big_quiet_op
        with_reducible refine hK _ ?_
        clear hK K
        with_reducible refine Sf.lx_one (by kernel_rfl) (by kernel_rfl) ?_
        intro K hK
        refine Sf.dft_nil rfl rfl ?_
        with_reducible refine hK _ ?_
        clear hK K
        simp only [Act.put, List.setIfInBounds_toArray, List.set_cons_zero, List.set_cons_succ]
        with_reducible refine Sf.lx_one (by kernel_rfl) (by kernel_rfl) ?_
        intro K hK
        refine Sf.dft_quiet rfl ?_
        go_big_quiet_op
        with_reducible refine hK _ ?_
        clear hK K
        with_reducible refine Sf.lx_one (by kernel_rfl) (by kernel_rfl) ?_
        intro K hK
        refine Sf.dft_quiet rfl ?_
        go_big_quiet_op
        with_reducible refine hK _ ?_
        clear hK K
        with_reducible refine Sf.lx_one (by kernel_rfl) (by kernel_rfl) ?_
        intro K hK
        refine Sf.dft_quiet rfl ?_
        go_big_quiet_op
        with_reducible refine hK _ ?_
        clear hK K
        with_reducible refine Sf.lx_one (by kernel_rfl) (by kernel_rfl) ?_
        intro K hK
        refine Sf.dft_nil rfl rfl ?_
        with_reducible refine hK _ ?_
        clear hK K
        simp only [Act.put, List.setIfInBounds_toArray, List.set_cons_zero, List.set_cons_succ]
        with_reducible refine Sf.lx_one (by kernel_rfl) (by kernel_rfl) ?_
        intro K hK
        refine Sf.dft_quiet rfl ?_
        go_big_quiet_op
        with_reducible refine hK _ ?_
        clear hK K
        with_reducible refine Sf.lx_one (by kernel_rfl) (by kernel_rfl) ?_
        intro K hK
        refine Sf.dft_quiet rfl ?_
        go_big_quiet_op
        with_reducible refine hK _ ?_
        clear hK K
        with_reducible refine Sf.lx_one (by kernel_rfl) (by kernel_rfl) ?_
        intro K hK
        refine Sf.dft_quiet rfl ?_
        go_big_quiet_op
        with_reducible refine hK _ ?_
        clear hK K
        with_reducible refine Sf.lx_one (by kernel_rfl) (by kernel_rfl) ?_
        intro K hK
        refine Sf.dft_quiet rfl ?_
        go_big_quiet_op
        with_reducible refine hK _ ?_
        clear hK K
        with_reducible refine Sf.lx_one (by kernel_rfl) (by kernel_rfl) ?_
        intro K hK
        refine Sf.dft_quiet rfl ?_
        go_big_quiet_op
        with_reducible refine hK _ ?_
        clear hK K
        with_reducible refine Sf.lx_skip (by kernel_rfl) ?_
        simp only [Act.put, List.setIfInBounds_toArray, List.set_cons_zero, List.set_cons_succ]
        with_reducible refine Sf.lx_skip (by kernel_rfl) ?_
        simp only [Act.put, List.setIfInBounds_toArray, List.set_cons_zero, List.set_cons_succ]
        with_reducible refine Sf.lx_skip (by kernel_rfl) ?_
        simp only [Act.put, List.setIfInBounds_toArray, List.set_cons_zero, List.set_cons_succ]
        with_reducible refine Sf.lx_skip (by kernel_rfl) ?_
        simp only [Act.put, List.setIfInBounds_toArray, List.set_cons_zero, List.set_cons_succ]
        with_reducible refine Sf.lx_skip (by kernel_rfl) ?_
        simp only [Act.put, List.setIfInBounds_toArray, List.set_cons_zero, List.set_cons_succ]
        with_reducible refine Sf.lx_skip (by kernel_rfl) ?_
        simp only [Act.put, List.setIfInBounds_toArray, List.set_cons_zero, List.set_cons_succ]
        with_reducible refine Sf.lx_skip (by kernel_rfl) ?_
        simp only [Act.put, List.setIfInBounds_toArray, List.set_cons_zero, List.set_cons_succ]
        with_reducible refine Sf.lx_skip (by kernel_rfl) ?_
        simp only [Act.put, List.setIfInBounds_toArray, List.set_cons_zero, List.set_cons_succ]
        with_reducible refine Sf.lx_skip (by kernel_rfl) ?_
        simp only [Act.put, List.setIfInBounds_toArray, List.set_cons_zero, List.set_cons_succ]
        with_reducible refine Sf.lx_one (by kernel_rfl) (by kernel_rfl) ?_
        intro K hK
        refine Sf.dft_quiet rfl ?_
        go_big_quiet_op
        with_reducible refine hK _ ?_
        clear hK K
        with_reducible refine Sf.lx_one (by kernel_rfl) (by kernel_rfl) ?_
        intro K hK
        refine Sf.dft_quiet rfl ?_
        go_big_quiet_op
        with_reducible refine hK _ ?_
        clear hK K
        with_reducible refine Sf.lx_nil ?_
        rintro _ ⟨nq, rfl⟩
        go_wp2
        go_ret
        rw [HV.out]
        exact ⟨rfl, _, rfl⟩
end Go.Proofs.Ythkklilfignmpaa
