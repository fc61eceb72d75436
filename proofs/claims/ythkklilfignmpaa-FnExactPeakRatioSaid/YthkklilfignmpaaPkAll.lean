/-
  Contracts: two valid pictures with the same sides, of both sides.
  Contracts: two valid pictures with the same sides, of both sides.
  Contracts: two valid pictures with the same sides, of both sides.
  Roots of what is at least nothing: finite where it is (no program in it).
  Contracts: the distance of two pictures, of both sides.
  Contracts: DistanceOf of both sides.
  Contracts: PeakRatio of both sides.
-/
import Derived.Test.YthkklilfignmpaaBx
import Derived.Test.YthkklilfignmpaaPv
import Derived.Test.YthkklilfignmpaaSfw
import Derived.Deep.RegionHeld3
import Derived.Deep.QuietTactic
import Derived.BigQuiet
import Derived.Test.YthkklilfignmpaaFloEd
import Derived.Test.YthkklilfignmpaaFloMore
import Derived.Test.YthkklilfignmpaaMi
import Derived.Test.YthkklilfignmpaaIsw
import Derived.Test.YthkklilfignmpaaSfm
import Derived.Test.YthkklilfignmpaaLgAll
import Derived.Test.YthkklilfignmpaaPiL
namespace Go.Proofs.Ythkklilfignmpaa
open Go.RowKit Fl
set_option linter.unusedVariables false
set_option maxRecDepth 100000
def botB (p0 q0 : Int) (a0 : List Nat) (p1 q1 : Int) (a1 : List Nat) : Bool := vpcB p0 q0 a0 && vpcB p1 q1 a1 && decide (p0 = p1) && decide (q0 = q1)
theorem botB_out {p0 q0 p1 q1 : Int} {a0 a1 : List Nat} (h : botB p0 q0 a0 p1 q1 a1 = true) : vpcB p0 q0 a0 = true ∧ vpcB p1 q1 a1 = true ∧ p0 = p1 ∧ q0 = q1 := by
  unfold botB at h; simp only [Bool.and_eq_true, decide_eq_true_eq] at h; exact ⟨h.1.1.1, h.1.1.2, h.1.2, h.2⟩
end Go.Proofs.Ythkklilfignmpaa
namespace Go.Proofs.Ythkklilfignmpaa
open Go.RowKit Fl
set_option linter.unusedVariables false
set_option maxRecDepth 100000
set_option maxHeartbeats 8000000 in
theorem botS_any (g0 g1 : Nat) (v0 : Value) (p0 q0 : Int) (a0 : List Nat) (v1 : Value) (p1 q1 : Int) (a1 : List Nat) (w : World) (B : Nat) (h0 : Rd w B v0 (fl a0)) (h1 : Rd w B v1 (fl a1)) (hX : Bx w g0 [.int .i64 p0, .int .i64 q0, v0]) (hY : Bx w g1 [.int .i64 p1, .int .i64 q1, v1]) (hm0 : a0.length ≤ 1048576) (hx0 : ∀ x ∈ a0, x < 2 ^ 32) (hm1 : a1.length ≤ 1048576) (hx1 : ∀ x ∈ a1, x < 2 ^ 32) :
    Calls Try.prog 106 #[.pointer (some ⟨g0, 0, none⟩), .pointer (some ⟨g1, 0, none⟩)] w (RetBo (botB p0 q0 a0 p1 q1 a1) w) := by
  have HC0 := Lib.hid (fun (m : Nat) => vpP_any g0 v0 p0 q0 a0 (w.drewN m) B h0 (hX.2 0 _ rfl).1 (hX.2 1 _ rfl).1 (hX.2 2 _ rfl).1 hm0 hx0)
  have HC1 := Lib.hid (fun (m : Nat) => vpP_any g1 v1 p1 q1 a1 (w.drewN m) B h1 (hY.2 0 _ rfl).1 (hY.2 1 _ rfl).1 (hY.2 2 _ rfl).1 hm1 hx1)
  have x0 := (hX.2 0 _ rfl).1
  have x1 := (hX.2 1 _ rfl).1
  have y0 := (hY.2 0 _ rfl).1
  have y1 := (hY.2 1 _ rfl).1
  clear h0 h1 hX hY hx0 hx1
  cases b0 : vpcB p0 q0 a0 with
  | false =>
    have HV := Lib.hid (show botB p0 q0 a0 p1 q1 a1 = false by unfold botB; rw [b0]; rfl)
    rw [b0] at HC0
    clear b0
    go_enter Try.func106, Try.ntmps106
    go_wp2_with fail
    refine Sf.wp_soft [false, false, false, false, false, false, false, false, false, false, false, false, false, false, false, false, false, false, false, false, false, false, false, false, false, false, false, false, false] [true, true, true, true, true, true, true, true, true, true, true, true, true, true, true, true, true, true, true, true, true, true, true, true, true, true, true, true, true] (fun i => 1) (fun i => if i = 1 then .bool false else undef) (by kernel_rfl) (by kernel_rfl) (by kernel_rfl) ?_
    simp only [Sf.tl]
    with_reducible refine Sf.lx_one (by kernel_rfl) (by kernel_rfl) ?_
    intro K hK
    refine Sf.dft_quiet rfl ?_
    go_big_quiet_op
    with_reducible refine hK _ ?_
    clear hK K
    with_reducible refine Sf.lx_one (by kernel_rfl) (by kernel_rfl) ?_
    intro K hK
    refine Sf.dft_call ?_ ?_
    · clear hK K; rintro _ ⟨nc, rfl⟩; go_simp; exact (HC0.out _).mono fun e w' ⟨he, q, hw⟩ => ⟨he, nc + q, by rw [hw, World.drewN_drewN]⟩
    with_reducible refine hK _ ?_
    clear hK K
    (try simp only [Act.put, List.setIfInBounds_toArray, List.set_cons_zero, List.set_cons_succ, if_true, if_false, reduceIte, Nat.reduceEqDiff])
    with_reducible refine Sf.lx_one (by kernel_rfl) (by kernel_rfl) ?_
    intro K hK
    refine Sf.dft_quiet rfl ?_
    go_big_quiet_op
    with_reducible refine hK _ ?_
    clear hK K
    with_reducible refine Sf.lx_skip (by kernel_rfl) ?_
    simp only [Act.put, List.setIfInBounds_toArray, List.set_cons_zero, List.set_cons_succ]
    with_reducible refine Sf.lx_skip (by kernel_rfl) ?_
    simp only [Act.put, List.setIfInBounds_toArray, List.set_cons_zero, List.set_cons_succ]
    with_reducible refine Sf.lx_one (by kernel_rfl) (by kernel_rfl) ?_
    intro K hK
    refine Sf.dft_quiet rfl ?_
    go_big_quiet_op
    with_reducible refine hK _ ?_
    clear hK K
    with_reducible refine Sf.lx_one (by kernel_rfl) (by kernel_rfl) ?_
    intro K hK
    refine Sf.dft_quiet rfl ?_
    go_big_quiet_op
    with_reducible refine hK _ ?_
    clear hK K
    with_reducible refine Sf.lx_skip (by kernel_rfl) ?_
    simp only [Act.put, List.setIfInBounds_toArray, List.set_cons_zero, List.set_cons_succ]
    with_reducible refine Sf.lx_skip (by kernel_rfl) ?_
    simp only [Act.put, List.setIfInBounds_toArray, List.set_cons_zero, List.set_cons_succ]
    with_reducible refine Sf.lx_skip (by kernel_rfl) ?_
    simp only [Act.put, List.setIfInBounds_toArray, List.set_cons_zero, List.set_cons_succ]
    with_reducible refine Sf.lx_skip (by kernel_rfl) ?_
    simp only [Act.put, List.setIfInBounds_toArray, List.set_cons_zero, List.set_cons_succ]
    with_reducible refine Sf.lx_skip (by kernel_rfl) ?_
    simp only [Act.put, List.setIfInBounds_toArray, List.set_cons_zero, List.set_cons_succ]
    with_reducible refine Sf.lx_skip (by kernel_rfl) ?_
    simp only [Act.put, List.setIfInBounds_toArray, List.set_cons_zero, List.set_cons_succ]
    with_reducible refine Sf.lx_skip (by kernel_rfl) ?_
    simp only [Act.put, List.setIfInBounds_toArray, List.set_cons_zero, List.set_cons_succ]
    with_reducible refine Sf.lx_skip (by kernel_rfl) ?_
    simp only [Act.put, List.setIfInBounds_toArray, List.set_cons_zero, List.set_cons_succ]
    with_reducible refine Sf.lx_skip (by kernel_rfl) ?_
    simp only [Act.put, List.setIfInBounds_toArray, List.set_cons_zero, List.set_cons_succ]
    with_reducible refine Sf.lx_one (by kernel_rfl) (by kernel_rfl) ?_
    intro K hK
    refine Sf.dft_quiet rfl ?_
    go_big_quiet_op
    with_reducible refine hK _ ?_
    clear hK K
    with_reducible refine Sf.lx_one (by kernel_rfl) (by kernel_rfl) ?_
    intro K hK
    refine Sf.dft_quiet rfl ?_
    go_big_quiet_op
    with_reducible refine hK _ ?_
    clear hK K
    with_reducible refine Sf.lx_skip (by kernel_rfl) ?_
    simp only [Act.put, List.setIfInBounds_toArray, List.set_cons_zero, List.set_cons_succ]
    with_reducible refine Sf.lx_skip (by kernel_rfl) ?_
    simp only [Act.put, List.setIfInBounds_toArray, List.set_cons_zero, List.set_cons_succ]
    with_reducible refine Sf.lx_skip (by kernel_rfl) ?_
    simp only [Act.put, List.setIfInBounds_toArray, List.set_cons_zero, List.set_cons_succ]
    with_reducible refine Sf.lx_skip (by kernel_rfl) ?_
    simp only [Act.put, List.setIfInBounds_toArray, List.set_cons_zero, List.set_cons_succ]
    with_reducible refine Sf.lx_skip (by kernel_rfl) ?_
    simp only [Act.put, List.setIfInBounds_toArray, List.set_cons_zero, List.set_cons_succ]
    with_reducible refine Sf.lx_skip (by kernel_rfl) ?_
    simp only [Act.put, List.setIfInBounds_toArray, List.set_cons_zero, List.set_cons_succ]
    with_reducible refine Sf.lx_skip (by kernel_rfl) ?_
    simp only [Act.put, List.setIfInBounds_toArray, List.set_cons_zero, List.set_cons_succ]
    with_reducible refine Sf.lx_skip (by kernel_rfl) ?_
    simp only [Act.put, List.setIfInBounds_toArray, List.set_cons_zero, List.set_cons_succ]
    with_reducible refine Sf.lx_skip (by kernel_rfl) ?_
    simp only [Act.put, List.setIfInBounds_toArray, List.set_cons_zero, List.set_cons_succ]
    with_reducible refine Sf.lx_one (by kernel_rfl) (by kernel_rfl) ?_
    intro K hK
    refine Sf.dft_quiet rfl ?_
    go_big_quiet_op
    with_reducible refine hK _ ?_
    clear hK K
    with_reducible refine Sf.lx_one (by kernel_rfl) (by kernel_rfl) ?_
    intro K hK
    refine Sf.dft_quiet rfl ?_
    go_big_quiet_op
    with_reducible refine hK _ ?_
    clear hK K
    with_reducible refine Sf.lx_nil ?_
    rintro _ ⟨nq, rfl⟩
    go_wp2
    go_ret
    rw [HV.out]
    exact ⟨rfl, _, rfl⟩
  | true =>
    cases b1 : vpcB p1 q1 a1 with
    | false =>
      have HV := Lib.hid (show botB p0 q0 a0 p1 q1 a1 = false by unfold botB; rw [b0, b1]; rfl)
      rw [b0] at HC0
      rw [b1] at HC1
      clear b0 b1
      go_enter Try.func106, Try.ntmps106
      go_wp2_with fail
      refine Sf.wp_soft [false, false, false, false, false, false, false, false, false, false, false, false, false, false, false, false, false, false, false, false, false, false, false, false, false, false, false, false, false] [true, true, true, true, true, true, true, true, true, true, true, true, true, true, true, true, true, true, true, true, true, true, true, true, true, true, true, true, true] (fun i => 1) (fun i => if i = 1 then .bool true else if i = 4 then .bool false else undef) (by kernel_rfl) (by kernel_rfl) (by kernel_rfl) ?_
      simp only [Sf.tl]
      with_reducible refine Sf.lx_one (by kernel_rfl) (by kernel_rfl) ?_
      intro K hK
      refine Sf.dft_quiet rfl ?_
      go_big_quiet_op
      with_reducible refine hK _ ?_
      clear hK K
      with_reducible refine Sf.lx_one (by kernel_rfl) (by kernel_rfl) ?_
      intro K hK
      refine Sf.dft_call ?_ ?_
      · clear hK K; rintro _ ⟨nc, rfl⟩; go_simp; exact (HC0.out _).mono fun e w' ⟨he, q, hw⟩ => ⟨he, nc + q, by rw [hw, World.drewN_drewN]⟩
      with_reducible refine hK _ ?_
      clear hK K
      (try simp only [Act.put, List.setIfInBounds_toArray, List.set_cons_zero, List.set_cons_succ, if_true, if_false, reduceIte, Nat.reduceEqDiff])
      with_reducible refine Sf.lx_one (by kernel_rfl) (by kernel_rfl) ?_
      intro K hK
      refine Sf.dft_quiet rfl ?_
      go_big_quiet_op
      with_reducible refine hK _ ?_
      clear hK K
      with_reducible refine Sf.lx_one (by kernel_rfl) (by kernel_rfl) ?_
      intro K hK
      refine Sf.dft_quiet rfl ?_
      go_big_quiet_op
      with_reducible refine hK _ ?_
      clear hK K
      with_reducible refine Sf.lx_one (by kernel_rfl) (by kernel_rfl) ?_
      intro K hK
      refine Sf.dft_call ?_ ?_
      · clear hK K; rintro _ ⟨nc, rfl⟩; go_simp; exact (HC1.out _).mono fun e w' ⟨he, q, hw⟩ => ⟨he, nc + q, by rw [hw, World.drewN_drewN]⟩
      with_reducible refine hK _ ?_
      clear hK K
      (try simp only [Act.put, List.setIfInBounds_toArray, List.set_cons_zero, List.set_cons_succ, if_true, if_false, reduceIte, Nat.reduceEqDiff])
      with_reducible refine Sf.lx_one (by kernel_rfl) (by kernel_rfl) ?_
      intro K hK
      refine Sf.dft_quiet rfl ?_
      go_big_quiet_op
      with_reducible refine hK _ ?_
      clear hK K
      with_reducible refine Sf.lx_one (by kernel_rfl) (by kernel_rfl) ?_
      intro K hK
      refine Sf.dft_quiet rfl ?_
      go_big_quiet_op
      with_reducible refine hK _ ?_
      clear hK K
      with_reducible refine Sf.lx_skip (by kernel_rfl) ?_
      simp only [Act.put, List.setIfInBounds_toArray, List.set_cons_zero, List.set_cons_succ]
      with_reducible refine Sf.lx_skip (by kernel_rfl) ?_
      simp only [Act.put, List.setIfInBounds_toArray, List.set_cons_zero, List.set_cons_succ]
      with_reducible refine Sf.lx_skip (by kernel_rfl) ?_
      simp only [Act.put, List.setIfInBounds_toArray, List.set_cons_zero, List.set_cons_succ]
      with_reducible refine Sf.lx_skip (by kernel_rfl) ?_
      simp only [Act.put, List.setIfInBounds_toArray, List.set_cons_zero, List.set_cons_succ]
      with_reducible refine Sf.lx_skip (by kernel_rfl) ?_
      simp only [Act.put, List.setIfInBounds_toArray, List.set_cons_zero, List.set_cons_succ]
      with_reducible refine Sf.lx_skip (by kernel_rfl) ?_
      simp only [Act.put, List.setIfInBounds_toArray, List.set_cons_zero, List.set_cons_succ]
      with_reducible refine Sf.lx_skip (by kernel_rfl) ?_
      simp only [Act.put, List.setIfInBounds_toArray, List.set_cons_zero, List.set_cons_succ]
      with_reducible refine Sf.lx_skip (by kernel_rfl) ?_
      simp only [Act.put, List.setIfInBounds_toArray, List.set_cons_zero, List.set_cons_succ]
      with_reducible refine Sf.lx_skip (by kernel_rfl) ?_
      simp only [Act.put, List.setIfInBounds_toArray, List.set_cons_zero, List.set_cons_succ]
      with_reducible refine Sf.lx_one (by kernel_rfl) (by kernel_rfl) ?_
      intro K hK
      refine Sf.dft_quiet rfl ?_
      go_big_quiet_op
      with_reducible refine hK _ ?_
      clear hK K
      with_reducible refine Sf.lx_one (by kernel_rfl) (by kernel_rfl) ?_
      intro K hK
      refine Sf.dft_quiet rfl ?_
      go_big_quiet_op
      with_reducible refine hK _ ?_
      clear hK K
      with_reducible refine Sf.lx_skip (by kernel_rfl) ?_
      simp only [Act.put, List.setIfInBounds_toArray, List.set_cons_zero, List.set_cons_succ]
      with_reducible refine Sf.lx_skip (by kernel_rfl) ?_
      simp only [Act.put, List.setIfInBounds_toArray, List.set_cons_zero, List.set_cons_succ]
      with_reducible refine Sf.lx_skip (by kernel_rfl) ?_
      simp only [Act.put, List.setIfInBounds_toArray, List.set_cons_zero, List.set_cons_succ]
      with_reducible refine Sf.lx_skip (by kernel_rfl) ?_
      simp only [Act.put, List.setIfInBounds_toArray, List.set_cons_zero, List.set_cons_succ]
      with_reducible refine Sf.lx_skip (by kernel_rfl) ?_
      simp only [Act.put, List.setIfInBounds_toArray, List.set_cons_zero, List.set_cons_succ]
      with_reducible refine Sf.lx_skip (by kernel_rfl) ?_
      simp only [Act.put, List.setIfInBounds_toArray, List.set_cons_zero, List.set_cons_succ]
      with_reducible refine Sf.lx_skip (by kernel_rfl) ?_
      simp only [Act.put, List.setIfInBounds_toArray, List.set_cons_zero, List.set_cons_succ]
      with_reducible refine Sf.lx_skip (by kernel_rfl) ?_
      simp only [Act.put, List.setIfInBounds_toArray, List.set_cons_zero, List.set_cons_succ]
      with_reducible refine Sf.lx_skip (by kernel_rfl) ?_
      simp only [Act.put, List.setIfInBounds_toArray, List.set_cons_zero, List.set_cons_succ]
      with_reducible refine Sf.lx_one (by kernel_rfl) (by kernel_rfl) ?_
      intro K hK
      refine Sf.dft_quiet rfl ?_
      go_big_quiet_op
      with_reducible refine hK _ ?_
      clear hK K
      with_reducible refine Sf.lx_one (by kernel_rfl) (by kernel_rfl) ?_
      intro K hK
      refine Sf.dft_quiet rfl ?_
      go_big_quiet_op
      with_reducible refine hK _ ?_
      clear hK K
      with_reducible refine Sf.lx_nil ?_
      rintro _ ⟨nq, rfl⟩
      go_wp2
      go_ret
      rw [HV.out]
      exact ⟨rfl, _, rfl⟩
    | true =>
      by_cases hp : p0 = p1
      · subst hp
        by_cases hq : q0 = q1
        · subst hq
          have HV := Lib.hid (show botB p0 q0 a0 p0 q0 a1 = true by unfold botB; rw [b0, b1]; simp)
          rw [b0] at HC0
          rw [b1] at HC1
          clear b0 b1
          go_enter Try.func106, Try.ntmps106
          go_wp2_with fail
          refine Sf.wp_soft [false, false, false, false, false, false, false, false, false, false, false, false, false, false, false, false, false, false, false, false, false, false, false, false, false, false, false, false, false] [true, true, true, true, true, true, true, true, true, true, true, true, true, true, true, true, true, true, true, true, true, true, true, true, true, true, true, true, true] (fun i => 1) (fun i => if i = 1 then .bool true else if i = 4 then .bool true else undef) (by kernel_rfl) (by kernel_rfl) (by kernel_rfl) ?_
          simp only [Sf.tl]
          with_reducible refine Sf.lx_one (by kernel_rfl) (by kernel_rfl) ?_
          intro K hK
          refine Sf.dft_quiet rfl ?_
          go_big_quiet_op
          with_reducible refine hK _ ?_
          clear hK K
          with_reducible refine Sf.lx_one (by kernel_rfl) (by kernel_rfl) ?_
          intro K hK
          refine Sf.dft_call ?_ ?_
          · clear hK K; rintro _ ⟨nc, rfl⟩; go_simp; exact (HC0.out _).mono fun e w' ⟨he, q, hw⟩ => ⟨he, nc + q, by rw [hw, World.drewN_drewN]⟩
          with_reducible refine hK _ ?_
          clear hK K
          (try simp only [Act.put, List.setIfInBounds_toArray, List.set_cons_zero, List.set_cons_succ, if_true, if_false, reduceIte, Nat.reduceEqDiff])
          with_reducible refine Sf.lx_one (by kernel_rfl) (by kernel_rfl) ?_
          intro K hK
          refine Sf.dft_quiet rfl ?_
          go_big_quiet_op
          with_reducible refine hK _ ?_
          clear hK K
          with_reducible refine Sf.lx_one (by kernel_rfl) (by kernel_rfl) ?_
          intro K hK
          refine Sf.dft_quiet rfl ?_
          go_big_quiet_op
          with_reducible refine hK _ ?_
          clear hK K
          with_reducible refine Sf.lx_one (by kernel_rfl) (by kernel_rfl) ?_
          intro K hK
          refine Sf.dft_call ?_ ?_
          · clear hK K; rintro _ ⟨nc, rfl⟩; go_simp; exact (HC1.out _).mono fun e w' ⟨he, q, hw⟩ => ⟨he, nc + q, by rw [hw, World.drewN_drewN]⟩
          with_reducible refine hK _ ?_
          clear hK K
          (try simp only [Act.put, List.setIfInBounds_toArray, List.set_cons_zero, List.set_cons_succ, if_true, if_false, reduceIte, Nat.reduceEqDiff])
          with_reducible refine Sf.lx_one (by kernel_rfl) (by kernel_rfl) ?_
          intro K hK
          refine Sf.dft_quiet rfl ?_
          go_big_quiet_op
          with_reducible refine hK _ ?_
          clear hK K
          with_reducible refine Sf.lx_one (by kernel_rfl) (by kernel_rfl) ?_
          intro K hK
          refine Sf.dft_quiet rfl ?_
          go_big_quiet_op
          with_reducible refine hK _ ?_
          clear hK K
          with_reducible refine Sf.lx_one (by kernel_rfl) (by kernel_rfl) ?_
          intro K hK
          refine Sf.dft_quiet rfl ?_
          go_big_quiet_op
          with_reducible refine hK _ ?_
          clear hK K
          with_reducible refine Sf.lx_one (by kernel_rfl) (by kernel_rfl) ?_
          intro K hK
          refine Sf.dft_nil rfl rfl ?_
          with_reducible refine hK _ ?_
          clear hK K
          simp only [Act.put, List.setIfInBounds_toArray, List.set_cons_zero, List.set_cons_succ]
          with_reducible refine Sf.lx_one (by kernel_rfl) (by kernel_rfl) ?_
          intro K hK
          refine Sf.dft_quiet rfl ?_
          go_big_quiet_op
          with_reducible refine hK _ ?_
          clear hK K
          with_reducible refine Sf.lx_one (by kernel_rfl) (by kernel_rfl) ?_
          intro K hK
          refine Sf.dft_quiet rfl ?_
          go_big_quiet_op
          with_reducible refine hK _ ?_
          clear hK K
          with_reducible refine Sf.lx_one (by kernel_rfl) (by kernel_rfl) ?_
          intro K hK
          refine Sf.dft_quiet rfl ?_
          go_big_quiet_op
          with_reducible refine hK _ ?_
          clear hK K
          with_reducible refine Sf.lx_one (by kernel_rfl) (by kernel_rfl) ?_
          intro K hK
          refine Sf.dft_nil rfl rfl ?_
          with_reducible refine hK _ ?_
          clear hK K
          simp only [Act.put, List.setIfInBounds_toArray, List.set_cons_zero, List.set_cons_succ]
          with_reducible refine Sf.lx_one (by kernel_rfl) (by kernel_rfl) ?_
          intro K hK
          refine Sf.dft_quiet rfl ?_
          go_big_quiet_op
          with_reducible refine hK _ ?_
          clear hK K
          with_reducible refine Sf.lx_one (by kernel_rfl) (by kernel_rfl) ?_
          intro K hK
          refine Sf.dft_quiet rfl ?_
          go_big_quiet_op
          with_reducible refine hK _ ?_
          clear hK K
          with_reducible refine Sf.lx_one (by kernel_rfl) (by kernel_rfl) ?_
          intro K hK
          refine Sf.dft_quiet rfl ?_
          go_big_quiet_op
          with_reducible refine hK _ ?_
          clear hK K
          with_reducible refine Sf.lx_one (by kernel_rfl) (by kernel_rfl) ?_
          intro K hK
          refine Sf.dft_quiet rfl ?_
          go_big_quiet_op
          with_reducible refine hK _ ?_
          clear hK K
          with_reducible refine Sf.lx_one (by kernel_rfl) (by kernel_rfl) ?_
          intro K hK
          refine Sf.dft_quiet rfl ?_
          go_big_quiet_op
          with_reducible refine hK _ ?_
          clear hK K
          with_reducible refine Sf.lx_one (by kernel_rfl) (by kernel_rfl) ?_
          intro K hK
          refine Sf.dft_quiet rfl ?_
          go_big_quiet_op
          with_reducible refine hK _ ?_
          clear hK K
          with_reducible refine Sf.lx_one (by kernel_rfl) (by kernel_rfl) ?_
          intro K hK
          refine Sf.dft_nil rfl rfl ?_
          with_reducible refine hK _ ?_
          clear hK K
          simp only [Act.put, List.setIfInBounds_toArray, List.set_cons_zero, List.set_cons_succ]
          with_reducible refine Sf.lx_one (by kernel_rfl) (by kernel_rfl) ?_
          intro K hK
          refine Sf.dft_quiet rfl ?_
          go_big_quiet_op
          with_reducible refine hK _ ?_
          clear hK K
          with_reducible refine Sf.lx_one (by kernel_rfl) (by kernel_rfl) ?_
          intro K hK
          refine Sf.dft_quiet rfl ?_
          go_big_quiet_op
          with_reducible refine hK _ ?_
          clear hK K
          with_reducible refine Sf.lx_one (by kernel_rfl) (by kernel_rfl) ?_
          intro K hK
          refine Sf.dft_quiet rfl ?_
          go_big_quiet_op
          with_reducible refine hK _ ?_
          clear hK K
          with_reducible refine Sf.lx_one (by kernel_rfl) (by kernel_rfl) ?_
          intro K hK
          refine Sf.dft_nil rfl rfl ?_
          with_reducible refine hK _ ?_
          clear hK K
          simp only [Act.put, List.setIfInBounds_toArray, List.set_cons_zero, List.set_cons_succ]
          with_reducible refine Sf.lx_one (by kernel_rfl) (by kernel_rfl) ?_
          intro K hK
          refine Sf.dft_quiet rfl ?_
          go_big_quiet_op
          with_reducible refine hK _ ?_
          clear hK K
          with_reducible refine Sf.lx_one (by kernel_rfl) (by kernel_rfl) ?_
          intro K hK
          refine Sf.dft_quiet rfl ?_
          go_big_quiet_op
          with_reducible refine hK _ ?_
          clear hK K
          with_reducible refine Sf.lx_one (by kernel_rfl) (by kernel_rfl) ?_
          intro K hK
          refine Sf.dft_quiet rfl ?_
          go_big_quiet_op
          with_reducible refine hK _ ?_
          clear hK K
          with_reducible refine Sf.lx_one (by kernel_rfl) (by kernel_rfl) ?_
          intro K hK
          refine Sf.dft_quiet rfl ?_
          go_big_quiet_op
          with_reducible refine hK _ ?_
          clear hK K
          with_reducible refine Sf.lx_one (by kernel_rfl) (by kernel_rfl) ?_
          intro K hK
          refine Sf.dft_quiet rfl ?_
          go_big_quiet_op
          with_reducible refine hK _ ?_
          clear hK K
          with_reducible refine Sf.lx_nil ?_
          rintro _ ⟨nq, rfl⟩
          go_wp2
          go_ret
          rw [HV.out]
          exact ⟨rfl, _, rfl⟩
        · skip
          have HV := Lib.hid (show botB p0 q0 a0 p0 q1 a1 = false by unfold botB; rw [decide_eq_false hq]; simp)
          have hq1 : (q0 == q1) = false := beq_eq_false_iff_ne.2 hq
          have hq2 : decide (q0 = q1) = false := decide_eq_false hq
          rw [b0] at HC0
          rw [b1] at HC1
          clear b0 b1 hq
          go_enter Try.func106, Try.ntmps106
          go_wp2_with fail
          refine Sf.wp_soft [false, false, false, false, false, false, false, false, false, false, false, false, false, false, false, false, false, false, false, false, false, false, false, false, false, false, false, false, false] [true, true, true, true, true, true, true, true, true, true, true, true, true, true, true, true, true, true, true, true, true, true, true, true, true, true, true, true, true] (fun i => 1) (fun i => if i = 1 then .bool true else if i = 4 then .bool true else undef) (by kernel_rfl) (by kernel_rfl) (by kernel_rfl) ?_
          simp only [Sf.tl]
          with_reducible refine Sf.lx_one (by kernel_rfl) (by kernel_rfl) ?_
          intro K hK
          refine Sf.dft_quiet rfl ?_
          go_big_quiet_op
          with_reducible refine hK _ ?_
          clear hK K
          with_reducible refine Sf.lx_one (by kernel_rfl) (by kernel_rfl) ?_
          intro K hK
          refine Sf.dft_call ?_ ?_
          · clear hK K; rintro _ ⟨nc, rfl⟩; go_simp; exact (HC0.out _).mono fun e w' ⟨he, q, hw⟩ => ⟨he, nc + q, by rw [hw, World.drewN_drewN]⟩
          with_reducible refine hK _ ?_
          clear hK K
          (try simp only [Act.put, List.setIfInBounds_toArray, List.set_cons_zero, List.set_cons_succ, if_true, if_false, reduceIte, Nat.reduceEqDiff])
          with_reducible refine Sf.lx_one (by kernel_rfl) (by kernel_rfl) ?_
          intro K hK
          refine Sf.dft_quiet rfl ?_
          go_big_quiet_op
          with_reducible refine hK _ ?_
          clear hK K
          with_reducible refine Sf.lx_one (by kernel_rfl) (by kernel_rfl) ?_
          intro K hK
          refine Sf.dft_quiet rfl ?_
          go_big_quiet_op
          with_reducible refine hK _ ?_
          clear hK K
          with_reducible refine Sf.lx_one (by kernel_rfl) (by kernel_rfl) ?_
          intro K hK
          refine Sf.dft_call ?_ ?_
          · clear hK K; rintro _ ⟨nc, rfl⟩; go_simp; exact (HC1.out _).mono fun e w' ⟨he, q, hw⟩ => ⟨he, nc + q, by rw [hw, World.drewN_drewN]⟩
          with_reducible refine hK _ ?_
          clear hK K
          (try simp only [Act.put, List.setIfInBounds_toArray, List.set_cons_zero, List.set_cons_succ, if_true, if_false, reduceIte, Nat.reduceEqDiff])
          with_reducible refine Sf.lx_one (by kernel_rfl) (by kernel_rfl) ?_
          intro K hK
          refine Sf.dft_quiet rfl ?_
          go_big_quiet_op
          with_reducible refine hK _ ?_
          clear hK K
          with_reducible refine Sf.lx_one (by kernel_rfl) (by kernel_rfl) ?_
          intro K hK
          refine Sf.dft_quiet rfl ?_
          go_big_quiet_op
          with_reducible refine hK _ ?_
          clear hK K
          with_reducible refine Sf.lx_one (by kernel_rfl) (by kernel_rfl) ?_
          intro K hK
          refine Sf.dft_quiet rfl ?_
          go_big_quiet_op
          with_reducible refine hK _ ?_
          clear hK K
          with_reducible refine Sf.lx_one (by kernel_rfl) (by kernel_rfl) ?_
          intro K hK
          refine Sf.dft_nil rfl rfl ?_
          with_reducible refine hK _ ?_
          clear hK K
          simp only [Act.put, List.setIfInBounds_toArray, List.set_cons_zero, List.set_cons_succ]
          with_reducible refine Sf.lx_one (by kernel_rfl) (by kernel_rfl) ?_
          intro K hK
          refine Sf.dft_quiet rfl ?_
          go_big_quiet_op
          with_reducible refine hK _ ?_
          clear hK K
          with_reducible refine Sf.lx_one (by kernel_rfl) (by kernel_rfl) ?_
          intro K hK
          refine Sf.dft_quiet rfl ?_
          go_big_quiet_op
          with_reducible refine hK _ ?_
          clear hK K
          with_reducible refine Sf.lx_one (by kernel_rfl) (by kernel_rfl) ?_
          intro K hK
          refine Sf.dft_quiet rfl ?_
          go_big_quiet_op
          with_reducible refine hK _ ?_
          clear hK K
          with_reducible refine Sf.lx_one (by kernel_rfl) (by kernel_rfl) ?_
          intro K hK
          refine Sf.dft_nil rfl rfl ?_
          with_reducible refine hK _ ?_
          clear hK K
          simp only [Act.put, List.setIfInBounds_toArray, List.set_cons_zero, List.set_cons_succ]
          with_reducible refine Sf.lx_one (by kernel_rfl) (by kernel_rfl) ?_
          intro K hK
          refine Sf.dft_quiet rfl ?_
          go_big_quiet_op
          with_reducible refine hK _ ?_
          clear hK K
          with_reducible refine Sf.lx_one (by kernel_rfl) (by kernel_rfl) ?_
          intro K hK
          refine Sf.dft_quiet rfl ?_
          go_big_quiet_op
          with_reducible refine hK _ ?_
          clear hK K
          with_reducible refine Sf.lx_one (by kernel_rfl) (by kernel_rfl) ?_
          intro K hK
          refine Sf.dft_quiet rfl ?_
          go_big_quiet_op
          with_reducible refine hK _ ?_
          clear hK K
          with_reducible refine Sf.lx_one (by kernel_rfl) (by kernel_rfl) ?_
          intro K hK
          refine Sf.dft_quiet rfl ?_
          go_big_quiet_op
          with_reducible refine hK _ ?_
          clear hK K
          with_reducible refine Sf.lx_one (by kernel_rfl) (by kernel_rfl) ?_
          intro K hK
          refine Sf.dft_quiet rfl ?_
          go_big_quiet_op
          with_reducible refine hK _ ?_
          clear hK K
          with_reducible refine Sf.lx_one (by kernel_rfl) (by kernel_rfl) ?_
          intro K hK
          refine Sf.dft_quiet rfl ?_
          go_big_quiet_op
          with_reducible refine hK _ ?_
          clear hK K
          with_reducible refine Sf.lx_one (by kernel_rfl) (by kernel_rfl) ?_
          intro K hK
          refine Sf.dft_nil rfl rfl ?_
          with_reducible refine hK _ ?_
          clear hK K
          simp only [Act.put, List.setIfInBounds_toArray, List.set_cons_zero, List.set_cons_succ]
          with_reducible refine Sf.lx_one (by kernel_rfl) (by kernel_rfl) ?_
          intro K hK
          refine Sf.dft_quiet rfl ?_
          go_big_quiet_op
          with_reducible refine hK _ ?_
          clear hK K
          with_reducible refine Sf.lx_one (by kernel_rfl) (by kernel_rfl) ?_
          intro K hK
          refine Sf.dft_quiet rfl ?_
          go_big_quiet_op
          with_reducible refine hK _ ?_
          clear hK K
          with_reducible refine Sf.lx_one (by kernel_rfl) (by kernel_rfl) ?_
          intro K hK
          refine Sf.dft_quiet rfl ?_
          go_big_quiet_op
          with_reducible refine hK _ ?_
          clear hK K
          with_reducible refine Sf.lx_one (by kernel_rfl) (by kernel_rfl) ?_
          intro K hK
          refine Sf.dft_nil rfl rfl ?_
          with_reducible refine hK _ ?_
          clear hK K
          simp only [Act.put, List.setIfInBounds_toArray, List.set_cons_zero, List.set_cons_succ]
          with_reducible refine Sf.lx_one (by kernel_rfl) (by kernel_rfl) ?_
          intro K hK
          refine Sf.dft_quiet rfl ?_
          go_big_quiet_op
          with_reducible refine hK _ ?_
          clear hK K
          with_reducible refine Sf.lx_one (by kernel_rfl) (by kernel_rfl) ?_
          intro K hK
          refine Sf.dft_quiet rfl ?_
          go_big_quiet_op
          with_reducible refine hK _ ?_
          clear hK K
          with_reducible refine Sf.lx_one (by kernel_rfl) (by kernel_rfl) ?_
          intro K hK
          refine Sf.dft_quiet rfl ?_
          go_big_quiet_op
          with_reducible refine hK _ ?_
          clear hK K
          with_reducible refine Sf.lx_one (by kernel_rfl) (by kernel_rfl) ?_
          intro K hK
          refine Sf.dft_quiet rfl ?_
          go_big_quiet_op
          with_reducible refine hK _ ?_
          clear hK K
          with_reducible refine Sf.lx_one (by kernel_rfl) (by kernel_rfl) ?_
          intro K hK
          refine Sf.dft_quiet rfl ?_
          go_big_quiet_op
          with_reducible refine hK _ ?_
          clear hK K
          with_reducible refine Sf.lx_nil ?_
          rintro _ ⟨nq, rfl⟩
          go_wp2
          go_ret
          rw [HV.out]
          exact ⟨rfl, _, rfl⟩
      · skip
        have HV := Lib.hid (show botB p0 q0 a0 p1 q1 a1 = false by unfold botB; rw [decide_eq_false hp]; simp)
        have hp1 : (p0 == p1) = false := beq_eq_false_iff_ne.2 hp
        have hp2 : decide (p0 = p1) = false := decide_eq_false hp
        rw [b0] at HC0
        rw [b1] at HC1
        clear b0 b1 hp
        go_enter Try.func106, Try.ntmps106
        go_wp2_with fail
        refine Sf.wp_soft [false, false, false, false, false, false, false, false, false, false, false, false, false, false, false, false, false, false, false, false, false, false, false, false, false, false, false, false, false] [true, true, true, true, true, true, true, true, true, true, true, true, true, true, true, true, true, true, true, true, true, true, true, true, true, true, true, true, true] (fun i => 1) (fun i => if i = 1 then .bool true else if i = 4 then .bool true else undef) (by kernel_rfl) (by kernel_rfl) (by kernel_rfl) ?_
        simp only [Sf.tl]
        with_reducible refine Sf.lx_one (by kernel_rfl) (by kernel_rfl) ?_
        intro K hK
        refine Sf.dft_quiet rfl ?_
        go_big_quiet_op
        with_reducible refine hK _ ?_
        clear hK K
        with_reducible refine Sf.lx_one (by kernel_rfl) (by kernel_rfl) ?_
        intro K hK
        refine Sf.dft_call ?_ ?_
        · clear hK K; rintro _ ⟨nc, rfl⟩; go_simp; exact (HC0.out _).mono fun e w' ⟨he, q, hw⟩ => ⟨he, nc + q, by rw [hw, World.drewN_drewN]⟩
        with_reducible refine hK _ ?_
        clear hK K
        (try simp only [Act.put, List.setIfInBounds_toArray, List.set_cons_zero, List.set_cons_succ, if_true, if_false, reduceIte, Nat.reduceEqDiff])
        with_reducible refine Sf.lx_one (by kernel_rfl) (by kernel_rfl) ?_
        intro K hK
        refine Sf.dft_quiet rfl ?_
        go_big_quiet_op
        with_reducible refine hK _ ?_
        clear hK K
        with_reducible refine Sf.lx_one (by kernel_rfl) (by kernel_rfl) ?_
        intro K hK
        refine Sf.dft_quiet rfl ?_
        go_big_quiet_op
        with_reducible refine hK _ ?_
        clear hK K
        with_reducible refine Sf.lx_one (by kernel_rfl) (by kernel_rfl) ?_
        intro K hK
        refine Sf.dft_call ?_ ?_
        · clear hK K; rintro _ ⟨nc, rfl⟩; go_simp; exact (HC1.out _).mono fun e w' ⟨he, q, hw⟩ => ⟨he, nc + q, by rw [hw, World.drewN_drewN]⟩
        with_reducible refine hK _ ?_
        clear hK K
        (try simp only [Act.put, List.setIfInBounds_toArray, List.set_cons_zero, List.set_cons_succ, if_true, if_false, reduceIte, Nat.reduceEqDiff])
        with_reducible refine Sf.lx_one (by kernel_rfl) (by kernel_rfl) ?_
        intro K hK
        refine Sf.dft_quiet rfl ?_
        go_big_quiet_op
        with_reducible refine hK _ ?_
        clear hK K
        with_reducible refine Sf.lx_one (by kernel_rfl) (by kernel_rfl) ?_
        intro K hK
        refine Sf.dft_quiet rfl ?_
        go_big_quiet_op
        with_reducible refine hK _ ?_
        clear hK K
        with_reducible refine Sf.lx_one (by kernel_rfl) (by kernel_rfl) ?_
        intro K hK
        refine Sf.dft_quiet rfl ?_
        go_big_quiet_op
        with_reducible refine hK _ ?_
        clear hK K
        with_reducible refine Sf.lx_one (by kernel_rfl) (by kernel_rfl) ?_
        intro K hK
        refine Sf.dft_nil rfl rfl ?_
        with_reducible refine hK _ ?_
        clear hK K
        simp only [Act.put, List.setIfInBounds_toArray, List.set_cons_zero, List.set_cons_succ]
        with_reducible refine Sf.lx_one (by kernel_rfl) (by kernel_rfl) ?_
        intro K hK
        refine Sf.dft_quiet rfl ?_
        go_big_quiet_op
        with_reducible refine hK _ ?_
        clear hK K
        with_reducible refine Sf.lx_one (by kernel_rfl) (by kernel_rfl) ?_
        intro K hK
        refine Sf.dft_quiet rfl ?_
        go_big_quiet_op
        with_reducible refine hK _ ?_
        clear hK K
        with_reducible refine Sf.lx_one (by kernel_rfl) (by kernel_rfl) ?_
        intro K hK
        refine Sf.dft_quiet rfl ?_
        go_big_quiet_op
        with_reducible refine hK _ ?_
        clear hK K
        with_reducible refine Sf.lx_one (by kernel_rfl) (by kernel_rfl) ?_
        intro K hK
        refine Sf.dft_nil rfl rfl ?_
        with_reducible refine hK _ ?_
        clear hK K
        simp only [Act.put, List.setIfInBounds_toArray, List.set_cons_zero, List.set_cons_succ]
        with_reducible refine Sf.lx_one (by kernel_rfl) (by kernel_rfl) ?_
        intro K hK
        refine Sf.dft_quiet rfl ?_
        go_big_quiet_op
        with_reducible refine hK _ ?_
        clear hK K
        with_reducible refine Sf.lx_one (by kernel_rfl) (by kernel_rfl) ?_
        intro K hK
        refine Sf.dft_quiet rfl ?_
        go_big_quiet_op
        with_reducible refine hK _ ?_
        clear hK K
        with_reducible refine Sf.lx_one (by kernel_rfl) (by kernel_rfl) ?_
        intro K hK
        refine Sf.dft_quiet rfl ?_
        go_big_quiet_op
        with_reducible refine hK _ ?_
        clear hK K
        with_reducible refine Sf.lx_one (by kernel_rfl) (by kernel_rfl) ?_
        intro K hK
        refine Sf.dft_quiet rfl ?_
        go_big_quiet_op
        with_reducible refine hK _ ?_
        clear hK K
        with_reducible refine Sf.lx_one (by kernel_rfl) (by kernel_rfl) ?_
        intro K hK
        refine Sf.dft_quiet rfl ?_
        go_big_quiet_op
        with_reducible refine hK _ ?_
        clear hK K
        with_reducible refine Sf.lx_skip (by kernel_rfl) ?_
        simp only [Act.put, List.setIfInBounds_toArray, List.set_cons_zero, List.set_cons_succ]
        with_reducible refine Sf.lx_skip (by kernel_rfl) ?_
        simp only [Act.put, List.setIfInBounds_toArray, List.set_cons_zero, List.set_cons_succ]
        with_reducible refine Sf.lx_skip (by kernel_rfl) ?_
        simp only [Act.put, List.setIfInBounds_toArray, List.set_cons_zero, List.set_cons_succ]
        with_reducible refine Sf.lx_skip (by kernel_rfl) ?_
        simp only [Act.put, List.setIfInBounds_toArray, List.set_cons_zero, List.set_cons_succ]
        with_reducible refine Sf.lx_skip (by kernel_rfl) ?_
        simp only [Act.put, List.setIfInBounds_toArray, List.set_cons_zero, List.set_cons_succ]
        with_reducible refine Sf.lx_skip (by kernel_rfl) ?_
        simp only [Act.put, List.setIfInBounds_toArray, List.set_cons_zero, List.set_cons_succ]
        with_reducible refine Sf.lx_skip (by kernel_rfl) ?_
        simp only [Act.put, List.setIfInBounds_toArray, List.set_cons_zero, List.set_cons_succ]
        with_reducible refine Sf.lx_skip (by kernel_rfl) ?_
        simp only [Act.put, List.setIfInBounds_toArray, List.set_cons_zero, List.set_cons_succ]
        with_reducible refine Sf.lx_skip (by kernel_rfl) ?_
        simp only [Act.put, List.setIfInBounds_toArray, List.set_cons_zero, List.set_cons_succ]
        with_reducible refine Sf.lx_one (by kernel_rfl) (by kernel_rfl) ?_
        intro K hK
        refine Sf.dft_quiet rfl ?_
        go_big_quiet_op
        with_reducible refine hK _ ?_
        clear hK K
        with_reducible refine Sf.lx_one (by kernel_rfl) (by kernel_rfl) ?_
        intro K hK
        refine Sf.dft_quiet rfl ?_
        go_big_quiet_op
        with_reducible refine hK _ ?_
        clear hK K
        with_reducible refine Sf.lx_nil ?_
        rintro _ ⟨nq, rfl⟩
        go_wp2
        go_ret
        rw [HV.out]
        exact ⟨rfl, _, rfl⟩
end Go.Proofs.Ythkklilfignmpaa
namespace Go.Proofs.Ythkklilfignmpaa
open Go.RowKit Fl
set_option linter.unusedVariables false
set_option maxRecDepth 100000
set_option maxHeartbeats 8000000 in
theorem botI_any (v0 : Value) (p0 q0 : Int) (a0 : List Nat) (v1 : Value) (p1 q1 : Int) (a1 : List Nat) (w : World) (h0 : Rd w w.heap.size v0 (fl a0)) (h1 : Rd w w.heap.size v1 (fl a1)) (hm0 : a0.length ≤ 1048576) (hx0 : ∀ x ∈ a0, x < 2 ^ 32) (hm1 : a1.length ≤ 1048576) (hx1 : ∀ x ∈ a1, x < 2 ^ 32) :
    Calls Try.prog 110 #[.agg #[.int .i64 p0, .int .i64 q0, v0], .agg #[.int .i64 p1, .int .i64 q1, v1]] w fun e w' => e = .returned (.bool (botB p0 q0 a0 p1 q1 a1)) ∧ Below w.heap.size w w' := by
  obtain ⟨A0, c0, hv0, _, _, _⟩ := id h0
  obtain ⟨A1, c1, hv1, _, _, _⟩ := id h1
  rw [fl_len] at hv0 hv1
  subst hv0 hv1
  obtain ⟨w0, hw0⟩ : ∃ W, (w.alloc (.cells #[.int .i64 p0, .int .i64 q0, .slice A0 a0.length c0] 36)).alloc (.cells #[.int .i64 p1, .int .i64 q1, .slice A1 a1.length c1] 36) = W := ⟨_, rfl⟩
  have hb0 : Below w.heap.size w w0 := by rw [← hw0]; exact ((Below.refl _ _).alloc (Nat.le_refl _) _).alloc (by simp) _
  have hX : Bx w0 w.heap.size [.int .i64 p0, .int .i64 q0, .slice A0 a0.length c0] := by rw [← hw0]; exact (bx_new w [.int .i64 p0, .int .i64 q0, .slice A0 a0.length c0] _).step ((Below.refl _ _).alloc (Nat.le_refl _) _)
  have hY : Bx w0 (w.heap.size + 1) [.int .i64 p1, .int .i64 q1, .slice A1 a1.length c1] := by rw [← hw0]; have := bx_new (w.alloc (.cells #[.int .i64 p0, .int .i64 q0, .slice A0 a0.length c0] 36)) [.int .i64 p1, .int .i64 q1, .slice A1 a1.length c1] 36; simpa using this
  have HC0 := Lib.hid (fun (W : World) (hb : Below w0.heap.size w0 W) => vpI_any (.slice A0 a0.length c0) p0 q0 a0 W ((h0.step hb0).step hb) hm0 hx0)
  have HC1 := Lib.hid (fun (W : World) (hb : Below w0.heap.size w0 W) => vpI_any (.slice A1 a1.length c1) p1 q1 a1 W ((h1.step hb0).step hb) hm1 hx1)
  have x0 := (hX.2 0 _ rfl).1
  have y0 := (hY.2 0 _ rfl).1
  have x1 := (hX.2 1 _ rfl).1
  have y1 := (hY.2 1 _ rfl).1
  have x2 := (hX.2 2 _ rfl).1
  have y2 := (hY.2 2 _ rfl).1
  have X0 := Lib.hid hX
  have Y0 := Lib.hid hY
  have HB0 := Lib.hid hb0
  clear h0 h1 hX hY hx0 hx1 hb0
  cases b0 : vpcB p0 q0 a0 with
  | false =>
    have HV := Lib.hid (show botB p0 q0 a0 p1 q1 a1 = false by unfold botB; rw [b0]; rfl)
    rw [b0] at HC0
    clear b0
    replace x0 : ∀ q : Sf.Gw w0, q.w.cell? ⟨w.heap.size, 0, none⟩ = some (.int .i64 p0) := fun q => q.cell x0
    replace x1 : ∀ q : Sf.Gw w0, q.w.cell? ⟨w.heap.size, 1, none⟩ = some (.int .i64 q0) := fun q => q.cell x1
    replace x2 : ∀ q : Sf.Gw w0, q.w.cell? ⟨w.heap.size, 2, none⟩ = some (.slice A0 a0.length c0) := fun q => q.cell x2
    replace y0 : ∀ q : Sf.Gw w0, q.w.cell? ⟨w.heap.size + 1, 0, none⟩ = some (.int .i64 p1) := fun q => q.cell y0
    replace y1 : ∀ q : Sf.Gw w0, q.w.cell? ⟨w.heap.size + 1, 1, none⟩ = some (.int .i64 q1) := fun q => q.cell y1
    replace y2 : ∀ q : Sf.Gw w0, q.w.cell? ⟨w.heap.size + 1, 2, none⟩ = some (.slice A1 a1.length c1) := fun q => q.cell y2
    go_enter Try.func110, Try.ntmps110
    go_wp2_with fail
    refine Sf.wp_softC (C := fun w' => ∃ q : Sf.Gw w0, w' = q.w) [false, false, false, false, false, false, false, false, false, false, false, false, false, false] [true, true, true, true, true, true, true, true, true, true, true, true, true, true] (fun i =>  1) (fun i => if i = 1 then .bool false else undef) (by kernel_rfl) (by kernel_rfl) (by kernel_rfl) ⟨Sf.gw_draw w0 1, rfl⟩ ?_
    simp only [Sf.tl]
    refine Sf.lx_one rfl rfl (fun K hK => Sf.dft_quiet rfl ?_)
    go_big_quiet_op
    refine hK _ ?_
    clear hK K
    refine Sf.lx_one rfl rfl (fun K hK => Sf.dft_call ?_ (hK _ ?_))
    · clear hK K; rintro _ ⟨nc, rfl⟩; go_simp; exact (HC0.out nc.w nc.h).mono fun e w' ⟨he, hb⟩ => ⟨he, nc.next hb⟩
    clear hK K
    simp only [Act.put, List.setIfInBounds_toArray, List.set_cons_zero, List.set_cons_succ, if_true, if_false, reduceIte, Nat.reduceEqDiff]
    refine Sf.lx_one rfl rfl (fun K hK => Sf.dft_quiet rfl ?_)
    go_big_quiet_op
    refine hK _ ?_
    clear hK K
    refine Sf.lx_skip (by kernel_rfl) ?_
    simp only [Act.put, List.setIfInBounds_toArray, List.set_cons_zero, List.set_cons_succ]
    refine Sf.lx_skip (by kernel_rfl) ?_
    simp only [Act.put, List.setIfInBounds_toArray, List.set_cons_zero, List.set_cons_succ]
    refine Sf.lx_one rfl rfl (fun K hK => Sf.dft_quiet rfl ?_)
    go_big_quiet_op
    refine hK _ ?_
    clear hK K
    refine Sf.lx_one rfl rfl (fun K hK => Sf.dft_quiet rfl ?_)
    go_big_quiet_op
    refine hK _ ?_
    clear hK K
    refine Sf.lx_skip (by kernel_rfl) ?_
    simp only [Act.put, List.setIfInBounds_toArray, List.set_cons_zero, List.set_cons_succ]
    refine Sf.lx_skip (by kernel_rfl) ?_
    simp only [Act.put, List.setIfInBounds_toArray, List.set_cons_zero, List.set_cons_succ]
    refine Sf.lx_skip (by kernel_rfl) ?_
    simp only [Act.put, List.setIfInBounds_toArray, List.set_cons_zero, List.set_cons_succ]
    refine Sf.lx_skip (by kernel_rfl) ?_
    simp only [Act.put, List.setIfInBounds_toArray, List.set_cons_zero, List.set_cons_succ]
    refine Sf.lx_skip (by kernel_rfl) ?_
    simp only [Act.put, List.setIfInBounds_toArray, List.set_cons_zero, List.set_cons_succ]
    refine Sf.lx_one rfl rfl (fun K hK => Sf.dft_quiet rfl ?_)
    go_big_quiet_op
    refine hK _ ?_
    clear hK K
    refine Sf.lx_one rfl rfl (fun K hK => Sf.dft_quiet rfl ?_)
    go_big_quiet_op
    refine hK _ ?_
    clear hK K
    refine Sf.lx_nil ?_
    rintro _ ⟨nq, rfl⟩
    go_wp2
    go_ret
    rw [HV.out]
    exact ⟨rfl, HB0.out.trans (nq.h.mono HB0.out.size)⟩
  | true =>
    cases b1 : vpcB p1 q1 a1 with
    | false =>
      have HV := Lib.hid (show botB p0 q0 a0 p1 q1 a1 = false by unfold botB; rw [b0, b1]; rfl)
      rw [b0] at HC0
      rw [b1] at HC1
      clear b0 b1
      replace x0 : ∀ q : Sf.Gw w0, q.w.cell? ⟨w.heap.size, 0, none⟩ = some (.int .i64 p0) := fun q => q.cell x0
      replace x1 : ∀ q : Sf.Gw w0, q.w.cell? ⟨w.heap.size, 1, none⟩ = some (.int .i64 q0) := fun q => q.cell x1
      replace x2 : ∀ q : Sf.Gw w0, q.w.cell? ⟨w.heap.size, 2, none⟩ = some (.slice A0 a0.length c0) := fun q => q.cell x2
      replace y0 : ∀ q : Sf.Gw w0, q.w.cell? ⟨w.heap.size + 1, 0, none⟩ = some (.int .i64 p1) := fun q => q.cell y0
      replace y1 : ∀ q : Sf.Gw w0, q.w.cell? ⟨w.heap.size + 1, 1, none⟩ = some (.int .i64 q1) := fun q => q.cell y1
      replace y2 : ∀ q : Sf.Gw w0, q.w.cell? ⟨w.heap.size + 1, 2, none⟩ = some (.slice A1 a1.length c1) := fun q => q.cell y2
      go_enter Try.func110, Try.ntmps110
      go_wp2_with fail
      refine Sf.wp_softC (C := fun w' => ∃ q : Sf.Gw w0, w' = q.w) [false, false, false, false, false, false, false, false, false, false, false, false, false, false] [true, true, true, true, true, true, true, true, true, true, true, true, true, true] (fun i =>  1) (fun i => if i = 1 then .bool true else if i = 4 then .bool false else undef) (by kernel_rfl) (by kernel_rfl) (by kernel_rfl) ⟨Sf.gw_draw w0 1, rfl⟩ ?_
      simp only [Sf.tl]
      refine Sf.lx_one rfl rfl (fun K hK => Sf.dft_quiet rfl ?_)
      go_big_quiet_op
      refine hK _ ?_
      clear hK K
      refine Sf.lx_one rfl rfl (fun K hK => Sf.dft_call ?_ (hK _ ?_))
      · clear hK K; rintro _ ⟨nc, rfl⟩; go_simp; exact (HC0.out nc.w nc.h).mono fun e w' ⟨he, hb⟩ => ⟨he, nc.next hb⟩
      clear hK K
      simp only [Act.put, List.setIfInBounds_toArray, List.set_cons_zero, List.set_cons_succ, if_true, if_false, reduceIte, Nat.reduceEqDiff]
      refine Sf.lx_one rfl rfl (fun K hK => Sf.dft_quiet rfl ?_)
      go_big_quiet_op
      refine hK _ ?_
      clear hK K
      refine Sf.lx_one rfl (by kernel_rfl) (fun K hK => Sf.dft_quiet rfl ?_)
      go_big_quiet_op
      refine hK _ ?_
      clear hK K
      refine Sf.lx_one rfl (by kernel_rfl) (fun K hK => Sf.dft_call ?_ (hK _ ?_))
      · clear hK K; rintro _ ⟨nc, rfl⟩; go_simp; exact (HC1.out nc.w nc.h).mono fun e w' ⟨he, hb⟩ => ⟨he, nc.next hb⟩
      clear hK K
      simp only [Act.put, List.setIfInBounds_toArray, List.set_cons_zero, List.set_cons_succ, if_true, if_false, reduceIte, Nat.reduceEqDiff]
      refine Sf.lx_one rfl rfl (fun K hK => Sf.dft_quiet rfl ?_)
      go_big_quiet_op
      refine hK _ ?_
      clear hK K
      refine Sf.lx_one rfl rfl (fun K hK => Sf.dft_quiet rfl ?_)
      go_big_quiet_op
      refine hK _ ?_
      clear hK K
      refine Sf.lx_skip (by kernel_rfl) ?_
      simp only [Act.put, List.setIfInBounds_toArray, List.set_cons_zero, List.set_cons_succ]
      refine Sf.lx_skip (by kernel_rfl) ?_
      simp only [Act.put, List.setIfInBounds_toArray, List.set_cons_zero, List.set_cons_succ]
      refine Sf.lx_skip (by kernel_rfl) ?_
      simp only [Act.put, List.setIfInBounds_toArray, List.set_cons_zero, List.set_cons_succ]
      refine Sf.lx_skip (by kernel_rfl) ?_
      simp only [Act.put, List.setIfInBounds_toArray, List.set_cons_zero, List.set_cons_succ]
      refine Sf.lx_skip (by kernel_rfl) ?_
      simp only [Act.put, List.setIfInBounds_toArray, List.set_cons_zero, List.set_cons_succ]
      refine Sf.lx_one rfl rfl (fun K hK => Sf.dft_quiet rfl ?_)
      go_big_quiet_op
      refine hK _ ?_
      clear hK K
      refine Sf.lx_one rfl rfl (fun K hK => Sf.dft_quiet rfl ?_)
      go_big_quiet_op
      refine hK _ ?_
      clear hK K
      refine Sf.lx_nil ?_
      rintro _ ⟨nq, rfl⟩
      go_wp2
      go_ret
      rw [HV.out]
      exact ⟨rfl, HB0.out.trans (nq.h.mono HB0.out.size)⟩
    | true =>
      by_cases hp : p0 = p1
      · subst hp
        by_cases hq : q0 = q1
        · subst hq
          have HV := Lib.hid (show botB p0 q0 a0 p0 q0 a1 = true by unfold botB; rw [b0, b1]; simp)
          rw [b0] at HC0
          rw [b1] at HC1
          clear b0 b1
          have heq : ∀ w', (binOp .eql 136 (.agg #[.int .i64 p0, .int .i64 q0]) (.agg #[.int .i64 p0, .int .i64 q0])).run Try.prog w' = .ok (.bool true) w' := by intro w'; simp [go_sem, Try.underlying136, Try.underlying2]
          replace x0 : ∀ q : Sf.Gw w0, q.w.cell? ⟨w.heap.size, 0, none⟩ = some (.int .i64 p0) := fun q => q.cell x0
          replace x1 : ∀ q : Sf.Gw w0, q.w.cell? ⟨w.heap.size, 1, none⟩ = some (.int .i64 q0) := fun q => q.cell x1
          replace x2 : ∀ q : Sf.Gw w0, q.w.cell? ⟨w.heap.size, 2, none⟩ = some (.slice A0 a0.length c0) := fun q => q.cell x2
          replace y0 : ∀ q : Sf.Gw w0, q.w.cell? ⟨w.heap.size + 1, 0, none⟩ = some (.int .i64 p0) := fun q => q.cell y0
          replace y1 : ∀ q : Sf.Gw w0, q.w.cell? ⟨w.heap.size + 1, 1, none⟩ = some (.int .i64 q0) := fun q => q.cell y1
          replace y2 : ∀ q : Sf.Gw w0, q.w.cell? ⟨w.heap.size + 1, 2, none⟩ = some (.slice A1 a1.length c1) := fun q => q.cell y2
          go_enter Try.func110, Try.ntmps110
          go_wp2_with fail
          refine Sf.wp_softC (C := fun w' => ∃ q : Sf.Gw w0, w' = q.w) [false, false, false, false, false, false, false, false, false, false, false, false, false, false] [true, true, true, true, true, true, true, true, true, true, true, true, true, true] (fun i =>  1) (fun i => if i = 1 then .bool true else if i = 4 then .bool true else if i = 8 then (.agg #[.int .i64 p0, .int .i64 q0]) else if i = 10 then (.agg #[.int .i64 p0, .int .i64 q0]) else undef) (by kernel_rfl) (by kernel_rfl) (by kernel_rfl) ⟨Sf.gw_draw w0 1, rfl⟩ ?_
          simp only [Sf.tl]
          refine Sf.lx_one rfl rfl (fun K hK => Sf.dft_quiet rfl ?_)
          go_big_quiet_op
          refine hK _ ?_
          clear hK K
          refine Sf.lx_one rfl rfl (fun K hK => Sf.dft_call ?_ (hK _ ?_))
          · clear hK K; rintro _ ⟨nc, rfl⟩; go_simp; exact (HC0.out nc.w nc.h).mono fun e w' ⟨he, hb⟩ => ⟨he, nc.next hb⟩
          clear hK K
          simp only [Act.put, List.setIfInBounds_toArray, List.set_cons_zero, List.set_cons_succ, if_true, if_false, reduceIte, Nat.reduceEqDiff]
          refine Sf.lx_one rfl rfl (fun K hK => Sf.dft_quiet rfl ?_)
          go_big_quiet_op
          refine hK _ ?_
          clear hK K
          refine Sf.lx_one rfl (by kernel_rfl) (fun K hK => Sf.dft_quiet rfl ?_)
          go_big_quiet_op
          refine hK _ ?_
          clear hK K
          refine Sf.lx_one rfl (by kernel_rfl) (fun K hK => Sf.dft_call ?_ (hK _ ?_))
          · clear hK K; rintro _ ⟨nc, rfl⟩; go_simp; exact (HC1.out nc.w nc.h).mono fun e w' ⟨he, hb⟩ => ⟨he, nc.next hb⟩
          clear hK K
          simp only [Act.put, List.setIfInBounds_toArray, List.set_cons_zero, List.set_cons_succ, if_true, if_false, reduceIte, Nat.reduceEqDiff]
          refine Sf.lx_one rfl rfl (fun K hK => Sf.dft_quiet rfl ?_)
          go_big_quiet_op
          refine hK _ ?_
          clear hK K
          refine Sf.lx_one rfl rfl (fun K hK => Sf.dft_quiet rfl ?_)
          go_big_quiet_op
          refine hK _ ?_
          clear hK K
          refine Sf.lx_one rfl (by kernel_rfl) (fun K hK => Sf.dft_quiet rfl ?_)
          go_big_quiet_op
          refine hK _ ?_
          clear hK K
          refine Sf.lx_one rfl (by kernel_rfl) (fun K hK => Sf.dft_call ?_ (hK _ ?_))
          · clear hK K; rintro _ ⟨nc, rfl⟩; go_simp; exact (sid_any p0 q0 A0 a0.length c0 nc.w).mono fun e w' ⟨he, hb⟩ => ⟨he, nc.next hb⟩
          clear hK K
          simp only [Act.put, List.setIfInBounds_toArray, List.set_cons_zero, List.set_cons_succ, if_true, if_false, reduceIte, Nat.reduceEqDiff]
          refine Sf.lx_one rfl (by kernel_rfl) (fun K hK => Sf.dft_quiet rfl ?_)
          go_big_quiet_op
          refine hK _ ?_
          clear hK K
          refine Sf.lx_one rfl (by kernel_rfl) (fun K hK => Sf.dft_call ?_ (hK _ ?_))
          · clear hK K; rintro _ ⟨nc, rfl⟩; go_simp; exact (sid_any p0 q0 A1 a1.length c1 nc.w).mono fun e w' ⟨he, hb⟩ => ⟨he, nc.next hb⟩
          clear hK K
          simp only [Act.put, List.setIfInBounds_toArray, List.set_cons_zero, List.set_cons_succ, if_true, if_false, reduceIte, Nat.reduceEqDiff]
          refine Sf.lx_one rfl (by kernel_rfl) (fun K hK => Sf.dft_quiet rfl ?_)
          go_big_quiet_op
          refine hK _ ?_
          clear hK K
          refine Sf.lx_one rfl rfl (fun K hK => Sf.dft_quiet rfl ?_)
          go_big_quiet_op
          refine hK _ ?_
          clear hK K
          refine Sf.lx_one rfl rfl (fun K hK => Sf.dft_quiet rfl ?_)
          go_big_quiet_op
          refine hK _ ?_
          clear hK K
          refine Sf.lx_nil ?_
          rintro _ ⟨nq, rfl⟩
          go_wp2
          go_ret
          rw [HV.out]
          exact ⟨rfl, HB0.out.trans (nq.h.mono HB0.out.size)⟩
        · skip
          have HV := Lib.hid (show botB p0 q0 a0 p0 q1 a1 = false by unfold botB; rw [decide_eq_false hq]; simp)
          have hq1 : (q0 == q1) = false := beq_eq_false_iff_ne.2 hq
          have hq2 : decide (q0 = q1) = false := decide_eq_false hq
          rw [b0] at HC0
          rw [b1] at HC1
          clear b0 b1 hq
          have heq : ∀ w', (binOp .eql 136 (.agg #[.int .i64 p0, .int .i64 q0]) (.agg #[.int .i64 p0, .int .i64 q1])).run Try.prog w' = .ok (.bool false) w' := by intro w'; simp [go_sem, Try.underlying136, Try.underlying2, hq1, hq2]
          replace x0 : ∀ q : Sf.Gw w0, q.w.cell? ⟨w.heap.size, 0, none⟩ = some (.int .i64 p0) := fun q => q.cell x0
          replace x1 : ∀ q : Sf.Gw w0, q.w.cell? ⟨w.heap.size, 1, none⟩ = some (.int .i64 q0) := fun q => q.cell x1
          replace x2 : ∀ q : Sf.Gw w0, q.w.cell? ⟨w.heap.size, 2, none⟩ = some (.slice A0 a0.length c0) := fun q => q.cell x2
          replace y0 : ∀ q : Sf.Gw w0, q.w.cell? ⟨w.heap.size + 1, 0, none⟩ = some (.int .i64 p0) := fun q => q.cell y0
          replace y1 : ∀ q : Sf.Gw w0, q.w.cell? ⟨w.heap.size + 1, 1, none⟩ = some (.int .i64 q1) := fun q => q.cell y1
          replace y2 : ∀ q : Sf.Gw w0, q.w.cell? ⟨w.heap.size + 1, 2, none⟩ = some (.slice A1 a1.length c1) := fun q => q.cell y2
          go_enter Try.func110, Try.ntmps110
          go_wp2_with fail
          refine Sf.wp_softC (C := fun w' => ∃ q : Sf.Gw w0, w' = q.w) [false, false, false, false, false, false, false, false, false, false, false, false, false, false] [true, true, true, true, true, true, true, true, true, true, true, true, true, true] (fun i =>  1) (fun i => if i = 1 then .bool true else if i = 4 then .bool true else if i = 8 then (.agg #[.int .i64 p0, .int .i64 q0]) else if i = 10 then (.agg #[.int .i64 p0, .int .i64 q1]) else undef) (by kernel_rfl) (by kernel_rfl) (by kernel_rfl) ⟨Sf.gw_draw w0 1, rfl⟩ ?_
          simp only [Sf.tl]
          refine Sf.lx_one rfl rfl (fun K hK => Sf.dft_quiet rfl ?_)
          go_big_quiet_op
          refine hK _ ?_
          clear hK K
          refine Sf.lx_one rfl rfl (fun K hK => Sf.dft_call ?_ (hK _ ?_))
          · clear hK K; rintro _ ⟨nc, rfl⟩; go_simp; exact (HC0.out nc.w nc.h).mono fun e w' ⟨he, hb⟩ => ⟨he, nc.next hb⟩
          clear hK K
          simp only [Act.put, List.setIfInBounds_toArray, List.set_cons_zero, List.set_cons_succ, if_true, if_false, reduceIte, Nat.reduceEqDiff]
          refine Sf.lx_one rfl rfl (fun K hK => Sf.dft_quiet rfl ?_)
          go_big_quiet_op
          refine hK _ ?_
          clear hK K
          refine Sf.lx_one rfl (by kernel_rfl) (fun K hK => Sf.dft_quiet rfl ?_)
          go_big_quiet_op
          refine hK _ ?_
          clear hK K
          refine Sf.lx_one rfl (by kernel_rfl) (fun K hK => Sf.dft_call ?_ (hK _ ?_))
          · clear hK K; rintro _ ⟨nc, rfl⟩; go_simp; exact (HC1.out nc.w nc.h).mono fun e w' ⟨he, hb⟩ => ⟨he, nc.next hb⟩
          clear hK K
          simp only [Act.put, List.setIfInBounds_toArray, List.set_cons_zero, List.set_cons_succ, if_true, if_false, reduceIte, Nat.reduceEqDiff]
          refine Sf.lx_one rfl rfl (fun K hK => Sf.dft_quiet rfl ?_)
          go_big_quiet_op
          refine hK _ ?_
          clear hK K
          refine Sf.lx_one rfl rfl (fun K hK => Sf.dft_quiet rfl ?_)
          go_big_quiet_op
          refine hK _ ?_
          clear hK K
          refine Sf.lx_one rfl (by kernel_rfl) (fun K hK => Sf.dft_quiet rfl ?_)
          go_big_quiet_op
          refine hK _ ?_
          clear hK K
          refine Sf.lx_one rfl (by kernel_rfl) (fun K hK => Sf.dft_call ?_ (hK _ ?_))
          · clear hK K; rintro _ ⟨nc, rfl⟩; go_simp; exact (sid_any p0 q0 A0 a0.length c0 nc.w).mono fun e w' ⟨he, hb⟩ => ⟨he, nc.next hb⟩
          clear hK K
          simp only [Act.put, List.setIfInBounds_toArray, List.set_cons_zero, List.set_cons_succ, if_true, if_false, reduceIte, Nat.reduceEqDiff]
          refine Sf.lx_one rfl (by kernel_rfl) (fun K hK => Sf.dft_quiet rfl ?_)
          go_big_quiet_op
          refine hK _ ?_
          clear hK K
          refine Sf.lx_one rfl (by kernel_rfl) (fun K hK => Sf.dft_call ?_ (hK _ ?_))
          · clear hK K; rintro _ ⟨nc, rfl⟩; go_simp; exact (sid_any p0 q1 A1 a1.length c1 nc.w).mono fun e w' ⟨he, hb⟩ => ⟨he, nc.next hb⟩
          clear hK K
          simp only [Act.put, List.setIfInBounds_toArray, List.set_cons_zero, List.set_cons_succ, if_true, if_false, reduceIte, Nat.reduceEqDiff]
          refine Sf.lx_one rfl (by kernel_rfl) (fun K hK => Sf.dft_quiet rfl ?_)
          go_big_quiet_op
          refine hK _ ?_
          clear hK K
          refine Sf.lx_one rfl rfl (fun K hK => Sf.dft_quiet rfl ?_)
          go_big_quiet_op
          refine hK _ ?_
          clear hK K
          refine Sf.lx_one rfl rfl (fun K hK => Sf.dft_quiet rfl ?_)
          go_big_quiet_op
          refine hK _ ?_
          clear hK K
          refine Sf.lx_nil ?_
          rintro _ ⟨nq, rfl⟩
          go_wp2
          go_ret
          rw [HV.out]
          exact ⟨rfl, HB0.out.trans (nq.h.mono HB0.out.size)⟩
      · skip
        have HV := Lib.hid (show botB p0 q0 a0 p1 q1 a1 = false by unfold botB; rw [decide_eq_false hp]; simp)
        have hp1 : (p0 == p1) = false := beq_eq_false_iff_ne.2 hp
        have hp2 : decide (p0 = p1) = false := decide_eq_false hp
        rw [b0] at HC0
        rw [b1] at HC1
        clear b0 b1 hp
        have heq : ∀ w', (binOp .eql 136 (.agg #[.int .i64 p0, .int .i64 q0]) (.agg #[.int .i64 p1, .int .i64 q1])).run Try.prog w' = .ok (.bool false) w' := by intro w'; simp [go_sem, Try.underlying136, Try.underlying2, hp1, hp2]
        replace x0 : ∀ q : Sf.Gw w0, q.w.cell? ⟨w.heap.size, 0, none⟩ = some (.int .i64 p0) := fun q => q.cell x0
        replace x1 : ∀ q : Sf.Gw w0, q.w.cell? ⟨w.heap.size, 1, none⟩ = some (.int .i64 q0) := fun q => q.cell x1
        replace x2 : ∀ q : Sf.Gw w0, q.w.cell? ⟨w.heap.size, 2, none⟩ = some (.slice A0 a0.length c0) := fun q => q.cell x2
        replace y0 : ∀ q : Sf.Gw w0, q.w.cell? ⟨w.heap.size + 1, 0, none⟩ = some (.int .i64 p1) := fun q => q.cell y0
        replace y1 : ∀ q : Sf.Gw w0, q.w.cell? ⟨w.heap.size + 1, 1, none⟩ = some (.int .i64 q1) := fun q => q.cell y1
        replace y2 : ∀ q : Sf.Gw w0, q.w.cell? ⟨w.heap.size + 1, 2, none⟩ = some (.slice A1 a1.length c1) := fun q => q.cell y2
        go_enter Try.func110, Try.ntmps110
        go_wp2_with fail
        refine Sf.wp_softC (C := fun w' => ∃ q : Sf.Gw w0, w' = q.w) [false, false, false, false, false, false, false, false, false, false, false, false, false, false] [true, true, true, true, true, true, true, true, true, true, true, true, true, true] (fun i =>  1) (fun i => if i = 1 then .bool true else if i = 4 then .bool true else if i = 8 then (.agg #[.int .i64 p0, .int .i64 q0]) else if i = 10 then (.agg #[.int .i64 p1, .int .i64 q1]) else undef) (by kernel_rfl) (by kernel_rfl) (by kernel_rfl) ⟨Sf.gw_draw w0 1, rfl⟩ ?_
        simp only [Sf.tl]
        refine Sf.lx_one rfl rfl (fun K hK => Sf.dft_quiet rfl ?_)
        go_big_quiet_op
        refine hK _ ?_
        clear hK K
        refine Sf.lx_one rfl rfl (fun K hK => Sf.dft_call ?_ (hK _ ?_))
        · clear hK K; rintro _ ⟨nc, rfl⟩; go_simp; exact (HC0.out nc.w nc.h).mono fun e w' ⟨he, hb⟩ => ⟨he, nc.next hb⟩
        clear hK K
        simp only [Act.put, List.setIfInBounds_toArray, List.set_cons_zero, List.set_cons_succ, if_true, if_false, reduceIte, Nat.reduceEqDiff]
        refine Sf.lx_one rfl rfl (fun K hK => Sf.dft_quiet rfl ?_)
        go_big_quiet_op
        refine hK _ ?_
        clear hK K
        refine Sf.lx_one rfl (by kernel_rfl) (fun K hK => Sf.dft_quiet rfl ?_)
        go_big_quiet_op
        refine hK _ ?_
        clear hK K
        refine Sf.lx_one rfl (by kernel_rfl) (fun K hK => Sf.dft_call ?_ (hK _ ?_))
        · clear hK K; rintro _ ⟨nc, rfl⟩; go_simp; exact (HC1.out nc.w nc.h).mono fun e w' ⟨he, hb⟩ => ⟨he, nc.next hb⟩
        clear hK K
        simp only [Act.put, List.setIfInBounds_toArray, List.set_cons_zero, List.set_cons_succ, if_true, if_false, reduceIte, Nat.reduceEqDiff]
        refine Sf.lx_one rfl rfl (fun K hK => Sf.dft_quiet rfl ?_)
        go_big_quiet_op
        refine hK _ ?_
        clear hK K
        refine Sf.lx_one rfl rfl (fun K hK => Sf.dft_quiet rfl ?_)
        go_big_quiet_op
        refine hK _ ?_
        clear hK K
        refine Sf.lx_one rfl (by kernel_rfl) (fun K hK => Sf.dft_quiet rfl ?_)
        go_big_quiet_op
        refine hK _ ?_
        clear hK K
        refine Sf.lx_one rfl (by kernel_rfl) (fun K hK => Sf.dft_call ?_ (hK _ ?_))
        · clear hK K; rintro _ ⟨nc, rfl⟩; go_simp; exact (sid_any p0 q0 A0 a0.length c0 nc.w).mono fun e w' ⟨he, hb⟩ => ⟨he, nc.next hb⟩
        clear hK K
        simp only [Act.put, List.setIfInBounds_toArray, List.set_cons_zero, List.set_cons_succ, if_true, if_false, reduceIte, Nat.reduceEqDiff]
        refine Sf.lx_one rfl (by kernel_rfl) (fun K hK => Sf.dft_quiet rfl ?_)
        go_big_quiet_op
        refine hK _ ?_
        clear hK K
        refine Sf.lx_one rfl (by kernel_rfl) (fun K hK => Sf.dft_call ?_ (hK _ ?_))
        · clear hK K; rintro _ ⟨nc, rfl⟩; go_simp; exact (sid_any p1 q1 A1 a1.length c1 nc.w).mono fun e w' ⟨he, hb⟩ => ⟨he, nc.next hb⟩
        clear hK K
        simp only [Act.put, List.setIfInBounds_toArray, List.set_cons_zero, List.set_cons_succ, if_true, if_false, reduceIte, Nat.reduceEqDiff]
        refine Sf.lx_one rfl (by kernel_rfl) (fun K hK => Sf.dft_quiet rfl ?_)
        go_big_quiet_op
        refine hK _ ?_
        clear hK K
        refine Sf.lx_one rfl rfl (fun K hK => Sf.dft_quiet rfl ?_)
        go_big_quiet_op
        refine hK _ ?_
        clear hK K
        refine Sf.lx_one rfl rfl (fun K hK => Sf.dft_quiet rfl ?_)
        go_big_quiet_op
        refine hK _ ?_
        clear hK K
        refine Sf.lx_nil ?_
        rintro _ ⟨nq, rfl⟩
        go_wp2
        go_ret
        rw [HV.out]
        exact ⟨rfl, HB0.out.trans (nq.h.mono HB0.out.size)⟩
end Go.Proofs.Ythkklilfignmpaa
namespace Go.Proofs.Ythkklilfignmpaa.Fl
open Ieee
set_option linter.unusedVariables false

theorem rq_no {M : Nat} (h : finB .f32 M = false) : finB .f32 (na (sq (wi M))) = false := by
  unfold sq
  rw [cn_wi]
  rcases wi_bound M with ⟨s, hr⟩ | hn | hb
  · cases s with
    | true =>
      have e : double.sqrt (wi M) = none := by unfold Format.sqrt; rw [hr]; rfl
      rw [e]; decide
    | false =>
      have e : double.sqrt (wi M) = some (double.write (.infinity false)) := by unfold Format.sqrt; rw [hr]; rfl
      rw [e]; decide
  · rw [sqrt_nan hn]; decide
  · have := hb.fin
    rw [finB_wi, h] at this
    cases this
theorem rq_yes {M r : Nat} (h : finB .f32 M = true) (hs : double.sqrt (wi M) = some r) : finB .f32 (na (sq (wi M))) = true := by
  unfold sq
  rw [cn_wi, hs]
  rcases wi_bound M with ⟨s, hr⟩ | hn | hb
  · exfalso
    have := finB_wi M
    rw [h] at this
    unfold finB at this
    rw [show FloatKind.f64.format.read (wi M) = .infinity s from hr] at this
    cases this
  · exfalso
    have := finB_wi M
    rw [h] at this
    unfold finB at this
    unfold isN at hn
    cases hr : FloatKind.f64.format.read (wi M) <;> rw [hr] at this hn <;> simp [Datum.isNaN] at this hn
  · exact (Bd.naOk (n := 64) (Bd.sqrt (q := 64) hb hs (by decide) (by decide)) (by decide) (by decide)).2.fin
theorem nn_sqr {x : Nat} (hx : isN .f32 x = false) : Nn (ar .mul .f32 x x) := by
  rcases isN_num hx with ⟨s, m, e, hr⟩ | ⟨s, hr⟩
  · have h : floatBits .mul .f32 x x = some (single.nearest false (m * m) (e + e)) := by
      rw [mul_bits', hr]
      cases s <;> rfl
    rw [ar_some h]; exact nn_near _ _
  · have h : floatBits .mul .f32 x x = some (single.write (.infinity false)) := by
      rw [mul_bits', hr]
      cases s <;> rfl
    rw [ar_some h]; exact nn_inf
theorem sqr_some {M : Nat} (h : Nn M) : ∃ r, double.sqrt (wi M) = some r := by
  have hs := wi_same M
  rcases h with ⟨m, e, h⟩ | h
  · rw [h] at hs
    cases hd : double.read (wi M) with
    | number s' m' e' =>
      rw [hd] at hs
      have hs0 : s' = false := by cases hs <;> rfl
      subst hs0
      unfold Format.sqrt
      rw [hd]
      unfold Datum.root
      simp only [Bool.false_eq_true, if_false]
      split <;> exact ⟨_, rfl⟩
    | infinity _ => rw [hd] at hs; cases hs
    | nan _ _ => rw [hd] at hs; cases hs
  · rw [h] at hs
    have hd : double.read (wi M) = .infinity false := by
      generalize double.read (wi M) = d at hs
      cases hs; rfl
    exact ⟨_, by unfold Format.sqrt; rw [hd]; rfl⟩
end Go.Proofs.Ythkklilfignmpaa.Fl
namespace Go.Proofs.Ythkklilfignmpaa
open Go.RowKit Fl
set_option linter.unusedVariables false
set_option maxRecDepth 100000
theorem IsW.eqN {ys cs : List Nat} (h : IsW ys cs) (hn : ∀ i, isN .f32 (cs.getD i 0) = false) : ys = cs := by
  refine List.ext_getElem h.1 fun i h1 h2 => ?_
  have := h.2 i
  have hi := hn i
  rw [show ys.getD i 0 = ys[i] by simp [List.getD, h1], show cs.getD i 0 = cs[i] by simp [List.getD, h2]] at this
  rw [show cs.getD i 0 = cs[i] by simp [List.getD, h2]] at hi
  exact is_eq this hi
def dsX (a0 a1 : List Nat) : Nat := msX (dfL a0 a1)
def dsB (p0 q0 : Int) (a0 : List Nat) (p1 q1 : Int) (a1 : List Nat) : Bool := botB p0 q0 a0 p1 q1 a1 && finB .f32 (dsX a0 a1)
def dsV (p0 q0 : Int) (a0 : List Nat) (p1 q1 : Int) (a1 : List Nat) : Nat := if botB p0 q0 a0 p1 q1 a1 then fnV (rtF (dsX a0 a1)) else 0
theorem df_not {a0 a1 : List Nat} (f0 : finA a0 = true) (f1 : finA a1 = true) (i : Nat) : isN .f32 ((dfL a0 a1).getD i 0) = false := by
  by_cases hi : i < a0.length
  · have : (dfL a0 a1).getD i 0 = ar .sub .f32 (a0.getD i 0) (a1.getD i 0) := by simp [dfL, List.getD, hi]
    rw [this]
    exact dif_nums (fin_getD f0 i) (fin_getD f1 i)
  · rw [getD_ge (by rw [dfL_len]; omega)]; decide
theorem dk_nn {xs : List Nat} (h : ∀ i, isN .f32 (xs.getD i 0) = false) : ∀ k, k ≤ xs.length → Nn (dotK xs xs k)
  | 0, _ => .inl ⟨_, _, read_0⟩
  | k + 1, hk => by
    have := h k
    rw [show xs.getD k 0 = xs[k] by simp [List.getD, show k < xs.length by omega]] at this
    rw [dotK_succ xs xs k (by omega) (by omega)]
    exact nn_add (dk_nn h k (by omega)) (nn_sqr this)
theorem ds_nn {a0 a1 : List Nat} (f0 : finA a0 = true) (f1 : finA a1 = true) (h1 : 1 ≤ a0.length) (h2 : a0.length ≤ 256) : Nn (dsX a0 a1) := by
  unfold dsX msX enF
  refine nn_quo (dk_nn (df_not f0 f1) _ (Nat.le_refl _)) (foi_ps _ ?_ ?_) <;> rw [dfL_len] <;> omega
theorem ds_fin {a0 a1 : List Nat} (f0 : finA a0 = true) (f1 : finA a1 = true) (h1 : 1 ≤ a0.length) (h2 : a0.length ≤ 256) : finB .f32 (rtF (dsX a0 a1)) = finB .f32 (dsX a0 a1) ∧ rtF (fnV (dsX a0 a1)) = fnV (rtF (dsX a0 a1)) := by
  obtain ⟨r, hr⟩ := sqr_some (ds_nn f0 f1 h1 h2)
  cases h : finB .f32 (dsX a0 a1) with
  | true =>
    have h3 : finB .f32 (rtF (dsX a0 a1)) = true := rq_yes h hr
    exact ⟨h3, by unfold fnV; rw [h, h3]; rfl⟩
  | false =>
    have h3 : finB .f32 (rtF (dsX a0 a1)) = false := rq_no h
    refine ⟨h3, ?_⟩
    unfold fnV
    rw [h, h3]
    simp only [Bool.false_eq_true, if_false]
    decide
theorem bot_len {p0 q0 p1 q1 : Int} {a0 a1 : List Nat} (h : botB p0 q0 a0 p1 q1 a1 = true) : finA a0 = true ∧ finA a1 = true ∧ a1.length = a0.length ∧ 1 ≤ a0.length ∧ a0.length ≤ 256 := by
  obtain ⟨h1, h2, rfl, rfl⟩ := botB_out h
  obtain ⟨b1, b2, l1, f1⟩ := vpcB_out h1
  obtain ⟨_, _, l2, f2⟩ := vpcB_out h2
  have := mul_bd b1 b2
  exact ⟨f1, f2, by omega, by omega, by omega⟩
def FaR (w0 : World) (xs ys : List Nat) (v iv : Value) (wr : World) : Prop := ∃ (k : Nat) (cur : List Nat), k ≤ xs.length ∧ iv = .int .i64 k ∧ IsW cur ((dfL xs ys).take k) ∧ RowF w0 v cur wr
set_option maxHeartbeats 8000000 in
theorem farS_any (g0 g1 : Nat) (v0 : Value) (p0 q0 : Int) (a0 : List Nat) (v1 : Value) (p1 q1 : Int) (a1 : List Nat) (w : World) (h0 : Rd w w.heap.size v0 (fl a0)) (h1 : Rd w w.heap.size v1 (fl a1)) (hX : Bx w g0 [.int .i64 p0, .int .i64 q0, v0]) (hY : Bx w g1 [.int .i64 p1, .int .i64 q1, v1]) (hm0 : a0.length ≤ 1048576) (hx0 : ∀ x ∈ a0, x < 2 ^ 32) (hm1 : a1.length ≤ 1048576) (hx1 : ∀ x ∈ a1, x < 2 ^ 32) (f0 : finA a0 = true) (f1 : finA a1 = true) (hl : a1.length = a0.length) (l1 : 1 ≤ a0.length) (l2 : a0.length ≤ 256) :
    Calls Try.prog 116 #[.pointer (some ⟨g0, 0, none⟩), .pointer (some ⟨g1, 0, none⟩)] w fun e w' => ∃ r, e = .returned (.float .f32 r) ∧ Is .f32 r (rtF (dsX a0 a1)) ∧ Below w.heap.size w w' := by
  obtain ⟨i0, hi, hz0, hz1, hz2⟩ := info_parts infoF
  obtain ⟨A0, c0, hv0, _, _, z0⟩ := h0
  obtain ⟨A1, c1, hv1, _, _, z1⟩ := h1
  rw [fl_len] at hv0 hv1 z0 z1
  subst hv0 hv1
  obtain ⟨b, off, rfl, hb, hc⟩ := z0 (by omega)
  obtain ⟨b', off', rfl, hb', hc'⟩ := z1 (by omega)
  have HC := Lib.hid (show ∀ j, j < a0.length → w.cell? ⟨b, off + j, none⟩ = some (.float .f32 (a0.getD j 0)) from fun j hj => hc j _ (fl_getD a0 j hj))
  have HD := Lib.hid (show ∀ j, j < a0.length → w.cell? ⟨b', off' + j, none⟩ = some (.float .f32 (a1.getD j 0)) from fun j hj => hc' j _ (fl_getD a1 j (by omega)))
  have HX := Lib.hid hX
  have HYY := Lib.hid hY
  have HF0 := Lib.hid f0
  have HF1 := Lib.hid f1
  have HX0 := Lib.hid hx0
  have HX1 := Lib.hid hx1
  have HL := Lib.hid hl
  rw [hl] at hY HYY
  obtain ⟨n, hn⟩ : ∃ n, a0.length = n := ⟨_, rfl⟩
  have HNN := Lib.hid hn
  rw [hn] at l1 l2 HC HD HX HYY
  clear hX hY hx0 hx1 f0 f1 hl hc hc' z0 z1 hm0 hm1
  go_enter Try.func116, Try.ntmps116
  go_wp2
  go_loopw [5, 6] (FaR w a0 a1) (fun _ i _ => n - (intOf i).toNat)
  case atStart => exact ⟨0, [], Nat.zero_le _, rfl, IsW.nil, RowF.lit _⟩
  case round =>
    obtain ⟨k, cur, hk, rfl, hw, hr⟩ := hrel
    rw [HNN.out] at hk
    have x2 : wr.cell? ⟨g0, 2, none⟩ = some (.slice (some ⟨b, off, none⟩) n c0) := (hr.2.cell (p := ⟨g0, 2, none⟩) HX.out.1).trans (HX.out.2 2 _ rfl).1
    have y2 : wr.cell? ⟨g1, 2, none⟩ = some (.slice (some ⟨b', off', none⟩) n c1) := (hr.2.cell (p := ⟨g1, 2, none⟩) HYY.out.1).trans (HYY.out.2 2 _ rfl).1
    by_cases hlt : k < n
    · have hI : (k : Int) < (n : Int) := by omega
      have c0' : wr.cell? ⟨b, off + k, none⟩ = some (.float .f32 (a0.getD k 0)) := (hr.2.cell (p := ⟨b, off + k, none⟩) hb).trans (HC.out k hlt)
      have c1' : wr.cell? ⟨b', off' + k, none⟩ = some (.float .f32 (a1.getD k 0)) := (hr.2.cell (p := ⟨b', off' + k, none⟩) hb').trans (HD.out k hlt)
      have k0 := is_getD HF0.out HX0.out k
      have k1 := is_getD HF1.out HX1.out k
      have HN := Lib.hid (show cur.length ≤ 256 by rw [hw.len, List.length_take, dfL_len, HNN.out]; omega)
      have HT := Lib.hid (show (dfL a0 a1).take (k + 1) = (dfL a0 a1).take k ++ [ar .sub .f32 (a0.getD k 0) (a1.getD k 0)] by
        rw [List.take_add_one]
        congr 1
        have h1 := HNN.out
        simp [dfL, show k < a0.length by omega])
      have HR' := Lib.hid hr
      have HW := Lib.hid hw
      generalize a0.getD k 0 = xa at *
      generalize a1.getD k 0 = xb at *
      clear hr hw HC HD HX HYY
      go_wp2_with fail
      refine Sf.wp_softM [true, false, false, false, false, false, false, false, false, false, false, false, false, false, false, false, true, true, true] [true, true, true, true, true, true, true, true, true, true, true, true, true, true, true, true, false, false, false] (fun i => if i = 15 then 0 else 1) (fun _ => undef) _ (by kernel_rfl) (by kernel_rfl) (by kernel_rfl) (by kernel_rfl) (by kernel_rfl) (by kernel_rfl) (fun _ _ _ h => h) (.inl ⟨rfl, fun _ => rfl⟩) ?_
      simp only [Act.put, List.setIfInBounds_toArray, List.set_cons_zero, List.set_cons_succ]
      simp only [Sf.tl]
      refine Sf.lx_over ?_
      refine Sf.lx_one rfl rfl (fun K hK => Sf.dft_quiet rfl ?_)
      go_big_quiet_op
      refine hK _ ?_
      clear hK K
      refine Sf.lx_one rfl rfl (fun K hK => Sf.dft_nil rfl rfl (hK _ ?_))
      clear hK K
      simp only [Act.put, List.setIfInBounds_toArray, List.set_cons_zero, List.set_cons_succ]
      refine Sf.lx_one rfl rfl (fun K hK => Sf.dft_quiet rfl ?_)
      go_big_quiet_op
      refine hK _ ?_
      clear hK K
      refine Sf.lx_one rfl rfl (fun K hK => Sf.dft_quiet rfl ?_)
      go_big_quiet_op
      refine hK _ ?_
      clear hK K
      refine Sf.lx_one rfl rfl (fun K hK => Sf.dft_quiet rfl ?_)
      go_big_quiet_op
      refine hK _ ?_
      clear hK K
      refine Sf.lx_one rfl rfl (fun K hK => Sf.dft_quiet rfl ?_)
      go_big_quiet_op
      refine hK _ ?_
      clear hK K
      refine Sf.lx_one rfl rfl (fun K hK => Sf.dft_quiet rfl ?_)
      go_big_quiet_op
      refine hK _ ?_
      clear hK K
      refine Sf.lx_one rfl rfl (fun K hK => Sf.dft_quiet rfl ?_)
      go_big_quiet_op
      refine hK _ ?_
      clear hK K
      refine Sf.lx_one rfl rfl (fun K hK => Sf.dft_nil rfl rfl (hK _ ?_))
      clear hK K
      simp only [Act.put, List.setIfInBounds_toArray, List.set_cons_zero, List.set_cons_succ]
      refine Sf.lx_one rfl rfl (fun K hK => Sf.dft_quiet rfl ?_)
      go_big_quiet_op
      refine hK _ ?_
      clear hK K
      refine Sf.lx_one rfl rfl (fun K hK => Sf.dft_quiet rfl ?_)
      go_big_quiet_op
      refine hK _ ?_
      clear hK K
      refine Sf.lx_one rfl rfl (fun K hK => Sf.dft_quiet rfl ?_)
      go_big_quiet_op
      refine hK _ ?_
      clear hK K
      refine Sf.lx_one rfl rfl (fun K hK => Sf.dft_quiet rfl ?_)
      go_big_quiet_op
      refine hK _ ?_
      clear hK K
      refine Sf.lx_one rfl rfl (fun K hK => Sf.dft_quiet rfl ?_)
      go_big_quiet_op
      refine hK _ ?_
      clear hK K
      refine Sf.lx_fl rfl rfl (fun K hK => Sf.sft_ar (k := .f32) rfl rfl rfl rfl (k0) (k1) (fun r32 hr32 => hK _ ?_))
      clear hK K
      simp only [Act.put, List.setIfInBounds_toArray, List.set_cons_zero, List.set_cons_succ]
      refine Sf.lx_over ?_
      refine Sf.lx_over ?_
      refine Sf.lx_over ?_
      refine Sf.lx_nil ?_
      rintro _ ⟨nq, rfl⟩
      go_wp2_with (first | (at_builtin; refine wpList_append_own _ rfl _ _ 22 rfl w.heap.size 23 i0 (.float .f32 0) 1 4 Try.underlying22 hi hz0 hz1 hz2 rfl (by decide) _ _ _ rfl (HR'.out.1.alloc _) ⟨wr.heap.size, 0, none⟩ 1 1 [.float .f32 r32] rfl rfl (one_newF _ _ _) (cellsF [r32]) (by unfold maxLen; have := HN.out; omega) (by have := HN.out; omega) (by simp; have := HR'.out.2.size; omega) ?_; intro v' w1 hown' hgrow _) | (at_builtin; refine wpList_append_own _ rfl _ _ 22 rfl w.heap.size 23 i0 (.float .f32 0) 1 4 Try.underlying22 hi hz0 hz1 hz2 rfl (by decide) _ _ _ rfl ((rowDrewF HR'.out.1 _).alloc _) ⟨wr.heap.size, 0, none⟩ 1 1 [.float .f32 r32] rfl rfl (one_newF _ _ _) (cellsF [r32]) (by unfold maxLen; have := HN.out; omega) (by have := HN.out; omega) (by simp; have := HR'.out.2.size; omega) ?_; intro v' w1 hown' hgrow _))
      have HR2 := Lib.hid (show RowF w v' (cur ++ [r32]) w1 from RowF.push hown' (by first | exact HR'.out.2.alloc HR'.out.2.size _ | exact (below_drawn HR'.out.2 _).alloc HR'.out.2.size _) hgrow (fun j hj => (HR'.out.1.lt j hj).1))
      clear hown' hgrow
      go_wp2
      go_roundw
      case rel => exact ⟨k + 1, cur ++ [r32], by rw [HNN.out]; omega, by go_num, by rw [HT.out]; exact HW.out.app hr32, HR2.out⟩
      case measure => simp [intOf]; omega
    · obtain rfl : k = n := by omega
      have hE : cur = dfL a0 a1 := by
        have := hw.eqN (fun i => by
          rw [List.take_of_length_le (by rw [dfL_len, HNN.out]; exact Nat.le_refl _)]
          exact df_not HF0.out HF1.out i)
        rw [this, List.take_of_length_le (by rw [dfL_len, HNN.out]; exact Nat.le_refl _)]
      have hcl : cur.length = k := by rw [hE, dfL_len, HNN.out]
      have HEN := Lib.hid (fun W v5 (h : Rd W W.heap.size v5 (fl cur)) => enS_any v5 cur W W.heap.size h (by omega))
      have HE := Lib.hid (show dsX a0 a1 = ar .quo .f32 (enF cur) (floatOfInt .f32 (k : Int)) by unfold dsX msX; rw [hE, dfL_len, HNN.out])
      have HO := Lib.hid hr.own
      have HB := Lib.hid hr.2
      obtain ⟨Ao, co, hvo, _, _, _⟩ := id hr.own
      rw [fl_len, hcl] at hvo
      subst hvo
      clear hr hw hE HX HYY HC HD
      generalize enF cur = en at *
      go_wp2_with (first | (go_at_call 159; refine (HEN.out _ _ HO.out.rd).mono ?_; rintro e w' ⟨r1, n1, rfl, hr1, rfl⟩) | (refine up_ar2 (op := .quo) rfl hr1 (is_int32 _) ?_; intro r2 n2 hr2) | (go_at_call 158; refine (rtS_any _ _ _ hr2).mono ?_; rintro e w' ⟨r3, n3, rfl, hr3, rfl⟩))
      go_ret
      exact ⟨_, rfl, by rw [HE.out]; exact hr3, by first | exact below_drawn HB.out _ | exact below_drawn (below_drawn HB.out _) _ | exact below_drawn (below_drawn (below_drawn HB.out _) _) _⟩
end Go.Proofs.Ythkklilfignmpaa
namespace Go.Proofs.Ythkklilfignmpaa
open Go.RowKit Fl
set_option linter.unusedVariables false
set_option maxRecDepth 100000
theorem ds_no {p0 q0 p1 q1 : Int} {a0 a1 : List Nat} (h : botB p0 q0 a0 p1 q1 a1 = false) : dsV p0 q0 a0 p1 q1 a1 = 0 ∧ dsB p0 q0 a0 p1 q1 a1 = false := by unfold dsV dsB; rw [h]; exact ⟨rfl, rfl⟩
theorem ds_yes {p0 q0 p1 q1 : Int} {a0 a1 : List Nat} (h : botB p0 q0 a0 p1 q1 a1 = true) : dsV p0 q0 a0 p1 q1 a1 = fnV (rtF (dsX a0 a1)) ∧ dsB p0 q0 a0 p1 q1 a1 = finB .f32 (rtF (dsX a0 a1)) := by
  obtain ⟨f0, f1, _, l1, l2⟩ := bot_len h
  unfold dsV dsB; rw [h, (ds_fin f0 f1 l1 l2).1]; exact ⟨rfl, rfl⟩
theorem en_ok {a0 a1 : List Nat} (f0 : finA a0 = true) (f1 : finA a1 = true) : Is .f32 (enF (dfL a0 a1)) (enF (dfL a0 a1)) := by
  have h := dk_nn (df_not f0 f1) (dfL a0 a1).length (Nat.le_refl _)
  refine ⟨cn_of_not (nn_not h), ?_⟩
  unfold enF
  cases hl : (dfL a0 a1).length with
  | zero => show (0 : Nat) < _; decide
  | succ k => rw [dotK_succ _ _ k (by omega) (by omega)]; exact ar_ltS _ _ _
set_option maxHeartbeats 4000000 in
theorem dsS_any (v0 : Value) (p0 q0 : Int) (a0 : List Nat) (v1 : Value) (p1 q1 : Int) (a1 : List Nat) (w : World) (h0 : Rd w w.heap.size v0 (fl a0)) (h1 : Rd w w.heap.size v1 (fl a1)) (hm0 : a0.length ≤ 1048576) (hx0 : ∀ x ∈ a0, x < 2 ^ 32) (hm1 : a1.length ≤ 1048576) (hx1 : ∀ x ∈ a1, x < 2 ^ 32) :
    Calls Try.prog 50 #[.agg #[.int .i64 p0, .int .i64 q0, v0], .agg #[.int .i64 p1, .int .i64 q1, v1]] w (RetFb (dsV p0 q0 a0 p1 q1 a1) (dsB p0 q0 a0 p1 q1 a1) w) := by
  obtain ⟨w0, hw0⟩ : ∃ W, (w.alloc (.cells #[.int .i64 p0, .int .i64 q0, v0] 36)).alloc (.cells #[.int .i64 p1, .int .i64 q1, v1] 36) = W := ⟨_, rfl⟩
  have hb0 : Below w.heap.size w w0 := by rw [← hw0]; exact ((Below.refl _ _).alloc (Nat.le_refl _) _).alloc (by simp) _
  have hX : Bx w0 w.heap.size [.int .i64 p0, .int .i64 q0, v0] := by rw [← hw0]; exact (bx_new w [.int .i64 p0, .int .i64 q0, v0] _).step ((Below.refl _ _).alloc (Nat.le_refl _) _)
  have hY : Bx w0 (w.heap.size + 1) [.int .i64 p1, .int .i64 q1, v1] := by rw [← hw0]; have := bx_new (w.alloc (.cells #[.int .i64 p0, .int .i64 q0, v0] 36)) [.int .i64 p1, .int .i64 q1, v1] 36; simpa using this
  have HB0 := Lib.hid hb0
  have HX := Lib.hid hX
  have HYY := Lib.hid hY
  have HBO := Lib.hid (botS_any w.heap.size (w.heap.size + 1) v0 p0 q0 a0 v1 p1 q1 a1 w0 w0.heap.size (h0.step hb0) (h1.step hb0) hX hY hm0 hx0 hm1 hx1)
  have HF := Lib.hid (fun (m : Nat) (f0 : finA a0 = true) (f1 : finA a1 = true) (hl : a1.length = a0.length) (l1 : 1 ≤ a0.length) (l2 : a0.length ≤ 256) => farS_any w.heap.size (w.heap.size + 1) v0 p0 q0 a0 v1 p1 q1 a1 (w0.drewN m) ((h0.step hb0).drewN m) ((h1.step hb0).drewN m) hX hY hm0 hx0 hm1 hx1 f0 f1 hl l1 l2)
  obtain ⟨A0, c0, hv0, _, _, _⟩ := id h0
  obtain ⟨A1, c1, hv1, _, _, _⟩ := id h1
  rw [fl_len] at hv0 hv1
  subst hv0 hv1
  clear h0 h1 hX hY hb0 hx0 hx1
  cases hbo : botB p0 q0 a0 p1 q1 a1 with
  | false =>
    rw [hbo] at HBO
    obtain ⟨e1, e2⟩ := ds_no hbo
    rw [e1, e2]
    clear hbo e1 e2 HF
    go_enter Try.func50, Try.ntmps50
    go_wp2_with fail
    with_reducible refine HBO.out.mono ?_
    rintro e w1 ⟨rfl, n1, rfl⟩
    go_wp2_with fail
    go_ret2
    exact ⟨_, rfl, is_lit (by decide), below_drawn HB0.out _⟩
  | true =>
    rw [hbo] at HBO
    obtain ⟨e1, e2⟩ := ds_yes hbo
    obtain ⟨f0, f1, hl, l1, l2⟩ := bot_len hbo
    have HFF := Lib.hid (fun m => HF.out m f0 f1 hl l1 l2)
    rw [e1, e2]
    generalize rtF (dsX a0 a1) = c at *
    clear hbo e1 e2 HF f0 f1 hl l1 l2
    go_enter Try.func50, Try.ntmps50
    go_wp2_with fail
    with_reducible refine HBO.out.mono ?_
    rintro e w1 ⟨rfl, n1, rfl⟩
    go_wp2_with fail
    with_reducible refine (HFF.out _).mono ?_
    rintro e w2 ⟨r, rfl, hr, hb⟩
    have HB2 := Lib.hid (show Below w.heap.size w w2 from (below_drawn HB0.out n1).trans (hb.mono HB0.out.size))
    clear hb
    go_wp2_with fail
    with_reducible refine (numS_any _ _ _ hr).mono ?_
    rintro e w3 ⟨r3, n3, rfl, hr3, rfl⟩
    go_wp2_with fail
    go_ret2
    exact ⟨_, rfl, hr3, below_drawn HB2.out _⟩
set_option maxHeartbeats 4000000 in
theorem dsI_any (v0 : Value) (p0 q0 : Int) (a0 : List Nat) (v1 : Value) (p1 q1 : Int) (a1 : List Nat) (w : World) (h0 : Rd w w.heap.size v0 (fl a0)) (h1 : Rd w w.heap.size v1 (fl a1)) (hm0 : a0.length ≤ 1048576) (hx0 : ∀ x ∈ a0, x < 2 ^ 32) (hm1 : a1.length ≤ 1048576) (hx1 : ∀ x ∈ a1, x < 2 ^ 32) :
    Calls Try.prog 51 #[.agg #[.int .i64 p0, .int .i64 q0, v0], .agg #[.int .i64 p1, .int .i64 q1, v1]] w (RetFb (dsV p0 q0 a0 p1 q1 a1) (dsB p0 q0 a0 p1 q1 a1) w) := by
  obtain ⟨A0, c0, hv0, _, _, _⟩ := id h0
  obtain ⟨A1, c1, hv1, _, _, _⟩ := id h1
  rw [fl_len] at hv0 hv1
  subst hv0 hv1
  obtain ⟨w0, hw0⟩ : ∃ W, (w.alloc (.cells #[.int .i64 p0, .int .i64 q0, .slice A0 a0.length c0] 36)).alloc (.cells #[.int .i64 p1, .int .i64 q1, .slice A1 a1.length c1] 36) = W := ⟨_, rfl⟩
  have hb0 : Below w.heap.size w w0 := by rw [← hw0]; exact ((Below.refl _ _).alloc (Nat.le_refl _) _).alloc (by simp) _
  have hX : Bx w0 w.heap.size [.int .i64 p0, .int .i64 q0, .slice A0 a0.length c0] := by rw [← hw0]; exact (bx_new w [.int .i64 p0, .int .i64 q0, .slice A0 a0.length c0] _).step ((Below.refl _ _).alloc (Nat.le_refl _) _)
  have hY : Bx w0 (w.heap.size + 1) [.int .i64 p1, .int .i64 q1, .slice A1 a1.length c1] := by rw [← hw0]; have := bx_new (w.alloc (.cells #[.int .i64 p0, .int .i64 q0, .slice A0 a0.length c0] 36)) [.int .i64 p1, .int .i64 q1, .slice A1 a1.length c1] 36; simpa using this
  have HB0 := Lib.hid hb0
  have HX := Lib.hid hX
  have HYY := Lib.hid hY
  have HBO := Lib.hid (botI_any (.slice A0 a0.length c0) p0 q0 a0 (.slice A1 a1.length c1) p1 q1 a1 w0 (h0.step hb0) (h1.step hb0) hm0 hx0 hm1 hx1)
  have HF := Lib.hid (fun (W : World) (hb : Below w.heap.size w W) (f0 : finA a0 = true) (f1 : finA a1 = true) (hl : a1.length = a0.length) (l1 : 1 ≤ a0.length) => dfI_any (.slice A0 a0.length c0) (.slice A1 a1.length c1) a0 a1 W (h0.step hb) (h1.step hb) hl l1 hm0 f0 f1)
  have x0 := (hX.2 0 _ rfl).1
  have y0 := (hY.2 0 _ rfl).1
  have x1 := (hX.2 1 _ rfl).1
  have y1 := (hY.2 1 _ rfl).1
  have x2 := (hX.2 2 _ rfl).1
  have y2 := (hY.2 2 _ rfl).1
  clear h0 h1 hX hY hb0 hx0 hx1
  cases hbo : botB p0 q0 a0 p1 q1 a1 with
  | false =>
    rw [hbo] at HBO
    obtain ⟨e1, e2⟩ := ds_no hbo
    rw [e1, e2]
    clear hbo e1 e2 HF
    go_enter Try.func51, Try.ntmps51
    go_wp2_with fail
    with_reducible refine HBO.out.mono ?_
    rintro e w1 ⟨rfl, hb⟩
    have HB1 := Lib.hid (HB0.out.trans (hb.mono HB0.out.size))
    clear hb
    go_wp2_with fail
    go_ret2
    exact ⟨_, rfl, is_lit (by decide), HB1.out⟩
  | true =>
    rw [hbo] at HBO
    obtain ⟨e1, e2⟩ := ds_yes hbo
    obtain ⟨f0, f1, hl, l1, l2⟩ := bot_len hbo
    obtain ⟨e3, e4⟩ := ds_fin f0 f1 l1 l2
    have HFF := Lib.hid (fun W hb => HF.out W hb f0 f1 hl l1)
    have HEN := Lib.hid (en_ok f0 f1)
    have HLEN := Lib.hid (show (dfL a0 a1).length = a0.length ∧ 1 ≤ a0.length ∧ a0.length ≤ 256 from ⟨dfL_len _ _, l1, l2⟩)
    rw [e1, e2, ← e4, e3]
    have HM := Lib.hid (show dsX a0 a1 = msX (dfL a0 a1) from rfl)
    clear hbo e1 e2 e3 e4 HF f0 f1 hl l1 l2
    go_enter Try.func51, Try.ntmps51
    go_wp2_with fail
    with_reducible refine HBO.out.mono ?_
    rintro e w1 ⟨rfl, hb⟩
    have HB1 := Lib.hid (HB0.out.trans (hb.mono HB0.out.size))
    have X1 := Lib.hid (HX.out.step hb)
    have Y1 := Lib.hid (HYY.out.step hb)
    have u2 := (X1.out.2 2 _ rfl).1
    have t2 := (Y1.out.2 2 _ rfl).1
    clear hb x0 x1 x2 y0 y1 y2
    go_wp2_with fail
    first | with_reducible refine (HFF.out _ HB1.out).mono ?_ | refine (HFF.out _ HB1.out).mono ?_
    rintro e w2 ⟨vd, rfl, ho, hb⟩
    have HB2 := Lib.hid (HB1.out.trans (hb.mono HB1.out.size))
    have HMS := Lib.hid (msI_any vd (dfL a0 a1) w2 w2.heap.size ho.rd (by have := HLEN.out; omega) (by have := HLEN.out; omega) ⟨_, HEN.out⟩)
    rw [← HM.out] at HMS
    obtain ⟨Ad, cd, hvd, _, _, _⟩ := id ho
    rw [fl_len, HLEN.out.1] at hvd
    subst hvd
    clear ho hb
    generalize dsX a0 a1 = M at *
    go_wp2_with fail
    with_reducible refine HMS.out.mono ?_
    rintro e w3 ⟨r3, n3, rfl, hr3, rfl⟩
    go_wp2_with fail
    with_reducible refine (rtI_any _ _ _ hr3).mono ?_
    rintro e w4 ⟨r4, n4, rfl, hr4, rfl⟩
    go_wp2_with fail
    go_ret2
    exact ⟨_, rfl, hr4, by first | exact below_drawn (below_drawn HB2.out _) _ | exact below_drawn HB2.out _⟩
end Go.Proofs.Ythkklilfignmpaa
namespace Go.Proofs.Ythkklilfignmpaa
open Go.RowKit Fl
set_option linter.unusedVariables false
set_option maxRecDepth 100000
def pkG (p0 q0 : Int) (a0 : List Nat) (p1 q1 : Int) (a1 : List Nat) (pk : Nat) : Bool := dsB p0 q0 a0 p1 q1 a1 && psB pk && !(FloatKind.f32.format.order (dsV p0 q0 a0 p1 q1 a1) 0 == some .eq)
def pkV (p0 q0 : Int) (a0 : List Nat) (p1 q1 : Int) (a1 : List Nat) (pk lg : Nat) : Nat := if pkG p0 q0 a0 p1 q1 a1 pk then fnV (ar .quo .f32 (ar .mul .f32 1101004800 lg) 1075010958) else 0
def pkB (p0 q0 : Int) (a0 : List Nat) (p1 q1 : Int) (a1 : List Nat) (pk lg : Nat) : Bool := pkG p0 q0 a0 p1 q1 a1 pk && finB .f32 (ar .quo .f32 (ar .mul .f32 1101004800 lg) 1075010958)
theorem pk_no {p0 q0 p1 q1 : Int} {a0 a1 : List Nat} {pk lg : Nat} (h : pkG p0 q0 a0 p1 q1 a1 pk = false) : pkV p0 q0 a0 p1 q1 a1 pk lg = 0 ∧ pkB p0 q0 a0 p1 q1 a1 pk lg = false := by unfold pkV pkB; rw [h]; exact ⟨rfl, rfl⟩
theorem pk_yes {p0 q0 p1 q1 : Int} {a0 a1 : List Nat} {pk lg : Nat} (h : pkG p0 q0 a0 p1 q1 a1 pk = true) : pkV p0 q0 a0 p1 q1 a1 pk lg = fnV (ar .quo .f32 (ar .mul .f32 1101004800 lg) 1075010958) ∧ pkB p0 q0 a0 p1 q1 a1 pk lg = finB .f32 (ar .quo .f32 (ar .mul .f32 1101004800 lg) 1075010958) := by unfold pkV pkB; rw [h]; exact ⟨rfl, rfl⟩
theorem fnV_not (c : Nat) : isN .f32 (fnV c) = false := by
  unfold fnV
  split
  · rename_i h; exact nan_fin h
  · decide
theorem ds_not (p0 q0 : Int) (a0 : List Nat) (p1 q1 : Int) (a1 : List Nat) : isN .f32 (dsV p0 q0 a0 p1 q1 a1) = false := by
  unfold dsV
  split
  · exact fnV_not _
  · decide
theorem fin_lt32 {x : Nat} (h : finB .f32 x = true) (hc : cn .f32 x < 2 ^ 32) : x < 2 ^ 32 := by rw [cn_fin h] at hc; exact hc
theorem ds_lt (p0 q0 : Int) (a0 : List Nat) (p1 q1 : Int) (a1 : List Nat) : dsV p0 q0 a0 p1 q1 a1 < 2 ^ 32 := by
  unfold dsV fnV
  split
  · split
    · exact na_lt _
    · decide
  · decide
set_option maxHeartbeats 8000000 in
theorem pkS_any (v0 : Value) (p0 q0 : Int) (a0 : List Nat) (v1 : Value) (p1 q1 : Int) (a1 : List Nat) (w : World) (h0 : Rd w w.heap.size v0 (fl a0)) (h1 : Rd w w.heap.size v1 (fl a1)) (hm0 : a0.length ≤ 1048576) (hx0 : ∀ x ∈ a0, x < 2 ^ 32) (hm1 : a1.length ≤ 1048576) (hx1 : ∀ x ∈ a1, x < 2 ^ 32) (pk : Nat) (lg : Nat) (HLG : ∀ r, Is .f32 r (ar .quo .f32 pk (dsV p0 q0 a0 p1 q1 a1)) → (∀ w, Calls Try.prog 121 #[.float .f32 r] w (RetF .f32 lg w)) ∧ (∀ w, Calls Try.prog 123 #[.float .f32 r] w (RetF .f32 lg w))) (hpk : pk < 2 ^ 32) :
    Calls Try.prog 53 #[.agg #[.int .i64 p0, .int .i64 q0, v0], .agg #[.int .i64 p1, .int .i64 q1, v1], .float .f32 pk] w (RetFb (pkV p0 q0 a0 p1 q1 a1 pk lg) (pkB p0 q0 a0 p1 q1 a1 pk lg) w) := by
  obtain ⟨A0, c0, hv0, _, _, _⟩ := id h0
  obtain ⟨A1, c1, hv1, _, _, _⟩ := id h1
  rw [fl_len] at hv0 hv1
  subst hv0 hv1
  obtain ⟨w0, hw0⟩ : ∃ W, (w.alloc (.cells #[.int .i64 p0, .int .i64 q0, .slice A0 a0.length c0] 36)).alloc (.cells #[.int .i64 p1, .int .i64 q1, .slice A1 a1.length c1] 36) = W := ⟨_, rfl⟩
  have hb0 : Below w.heap.size w w0 := by rw [← hw0]; exact ((Below.refl _ _).alloc (Nat.le_refl _) _).alloc (by simp) _
  have hX : Bx w0 w.heap.size [.int .i64 p0, .int .i64 q0, .slice A0 a0.length c0] := by rw [← hw0]; exact (bx_new w [.int .i64 p0, .int .i64 q0, .slice A0 a0.length c0] _).step ((Below.refl _ _).alloc (Nat.le_refl _) _)
  have hY : Bx w0 (w.heap.size + 1) [.int .i64 p1, .int .i64 q1, .slice A1 a1.length c1] := by rw [← hw0]; have := bx_new (w.alloc (.cells #[.int .i64 p0, .int .i64 q0, .slice A0 a0.length c0] 36)) [.int .i64 p1, .int .i64 q1, .slice A1 a1.length c1] 36; simpa using this
  have HB0 := Lib.hid hb0
  have HD := Lib.hid (dsS_any (.slice A0 a0.length c0) p0 q0 a0 (.slice A1 a1.length c1) p1 q1 a1 w0 (h0.step hb0) (h1.step hb0) hm0 hx0 hm1 hx1)
  have HP := Lib.hid (fun W => psS_any pk W hpk)
  have HDN := Lib.hid (ds_not p0 q0 a0 p1 q1 a1)
  have HDL := Lib.hid (ds_lt p0 q0 a0 p1 q1 a1)
  have x0 := (hX.2 0 _ rfl).1
  have y0 := (hY.2 0 _ rfl).1
  have x1 := (hX.2 1 _ rfl).1
  have y1 := (hY.2 1 _ rfl).1
  have x2 := (hX.2 2 _ rfl).1
  have y2 := (hY.2 2 _ rfl).1
  clear h0 h1 hX hY hb0 hx0 hx1
  cases bd : dsB p0 q0 a0 p1 q1 a1 with
  | false =>
    have HNO := Lib.hid (pk_no (lg := lg) (show pkG p0 q0 a0 p1 q1 a1 pk = false by unfold pkG; rw [bd]; simp))
    rw [bd] at HD
    generalize dsV p0 q0 a0 p1 q1 a1 = D at *
    clear bd
    go_enter Try.func53, Try.ntmps53
    go_wp2_with fail
    first | with_reducible refine HD.out.mono ?_ | refine HD.out.mono ?_
    rintro e w1 ⟨r0, rfl, hr0, hb⟩
    obtain rfl := is_eq hr0 HDN.out
    have HB1 := Lib.hid (HB0.out.trans (hb.mono HB0.out.size))
    clear hb hr0
    go_wp2_with fail
    go_ret2
    rw [HNO.out.1, HNO.out.2]
    exact ⟨_, rfl, is_lit (by decide), HB1.out⟩
  | true =>
    cases bp : psB pk with
    | false =>
      have HNO := Lib.hid (pk_no (lg := lg) (show pkG p0 q0 a0 p1 q1 a1 pk = false by unfold pkG; rw [bd, bp]; simp))
      rw [bd] at HD
      rw [bp] at HP
      generalize dsV p0 q0 a0 p1 q1 a1 = D at *
      clear bd bp
      go_enter Try.func53, Try.ntmps53
      go_wp2_with fail
      first | with_reducible refine HD.out.mono ?_ | refine HD.out.mono ?_
      rintro e w1 ⟨r0, rfl, hr0, hb⟩
      obtain rfl := is_eq hr0 HDN.out
      have HB1 := Lib.hid (HB0.out.trans (hb.mono HB0.out.size))
      clear hb hr0
      go_wp2_with fail
      with_reducible refine (HP.out _).mono ?_
      rintro e w2 ⟨rfl, n2, hw⟩
      have HB2 := Lib.hid (show Below w.heap.size w w2 by rw [hw]; exact below_drawn HB1.out _)
      clear hw
      go_wp2_with fail
      go_ret2
      rw [HNO.out.1, HNO.out.2]
      exact ⟨_, rfl, is_lit (by decide), HB2.out⟩
    | true =>
      cases be : (FloatKind.f32.format.order (dsV p0 q0 a0 p1 q1 a1) 0 == some .eq) with
      | true =>
        have HNO := Lib.hid (pk_no (lg := lg) (show pkG p0 q0 a0 p1 q1 a1 pk = false by unfold pkG; rw [bd, bp, be]; simp))
        rw [bd] at HD
        rw [bp] at HP
        generalize dsV p0 q0 a0 p1 q1 a1 = D at *
        clear bd bp
        go_enter Try.func53, Try.ntmps53
        go_wp2_with fail
        first | with_reducible refine HD.out.mono ?_ | refine HD.out.mono ?_
        rintro e w1 ⟨r0, rfl, hr0, hb⟩
        obtain rfl := is_eq hr0 HDN.out
        have HB1 := Lib.hid (HB0.out.trans (hb.mono HB0.out.size))
        clear hb hr0
        go_wp2_with fail
        with_reducible refine (HP.out _).mono ?_
        rintro e w2 ⟨rfl, n2, hw⟩
        have HB2 := Lib.hid (show Below w.heap.size w w2 by rw [hw]; exact below_drawn HB1.out _)
        clear hw
        go_wp2_with fail
        go_ret2
        rw [HNO.out.1, HNO.out.2]
        exact ⟨_, rfl, is_lit (by decide), HB2.out⟩
      | false =>
        have HG := Lib.hid (show pkG p0 q0 a0 p1 q1 a1 pk = true by unfold pkG; rw [bd, bp, be]; rfl)
        have HYE := Lib.hid (pk_yes (lg := lg) HG.out)
        rw [bd] at HD
        rw [bp] at HP
        have KP := Lib.hid (show Is .f32 pk pk from ⟨cn_fin (by have := bp; unfold psB at this; rw [Bool.and_eq_true] at this; exact this.1), hpk⟩)
        have KD := Lib.hid (show Is .f32 (dsV p0 q0 a0 p1 q1 a1) (dsV p0 q0 a0 p1 q1 a1) from ⟨cn_of_not HDN.out, HDL.out⟩)
        have HL := Lib.hid HLG
        clear HLG HG bd bp
        rw [HYE.out.1, HYE.out.2]
        clear HYE
        generalize dsV p0 q0 a0 p1 q1 a1 = D at *
        obtain ⟨Xv, hXv⟩ : ∃ x, x = ar .quo .f32 (ar .mul .f32 1101004800 lg) 1075010958 := ⟨_, rfl⟩
        rw [← hXv]
        have HXV := Lib.hid hXv
        clear hXv
        go_enter Try.func53, Try.ntmps53
        go_wp2_with fail
        first | with_reducible refine HD.out.mono ?_ | refine HD.out.mono ?_
        rintro e w1 ⟨r0, rfl, hr0, hb⟩
        obtain rfl := is_eq hr0 HDN.out
        have HB1 := Lib.hid (HB0.out.trans (hb.mono HB0.out.size))
        clear hb hr0
        go_wp2_with fail
        with_reducible refine (HP.out _).mono ?_
        rintro e w2 ⟨rfl, n2, hw⟩
        have HB2 := Lib.hid (show Below w.heap.size w w2 by rw [hw]; exact below_drawn HB1.out _)
        clear hw
        go_wp2_with (first | (refine up_ar2 (op := .quo) rfl KP.out KD.out ?_; intro r3 n3 h3) | (go_at_call 121; refine ((HL.out _ h3).1 _).mono ?_; rintro e w4 ⟨r4, n4, rfl, h4, rfl⟩) | (refine up_ar2 (op := .mul) rfl (is_lit (by decide)) h4 ?_; intro r5 n5 h5) | (refine up_ar2 (op := .quo) rfl h5 (is_lit (by decide)) ?_; intro r6 n6 h6) | (go_at_call 115; refine (numS_any _ Xv _ (by rw [HXV.out]; exact h6)).mono ?_; rintro e w7 ⟨r7, n7, rfl, h7, rfl⟩))
        go_ret2
        exact ⟨_, rfl, h7, by first | exact below_drawn HB2.out _ | exact below_drawn (below_drawn HB2.out _) _ | exact below_drawn (below_drawn (below_drawn HB2.out _) _) _ | exact below_drawn (below_drawn (below_drawn (below_drawn HB2.out _) _) _) _⟩
set_option maxHeartbeats 8000000 in
theorem pkI_any (v0 : Value) (p0 q0 : Int) (a0 : List Nat) (v1 : Value) (p1 q1 : Int) (a1 : List Nat) (w : World) (h0 : Rd w w.heap.size v0 (fl a0)) (h1 : Rd w w.heap.size v1 (fl a1)) (hm0 : a0.length ≤ 1048576) (hx0 : ∀ x ∈ a0, x < 2 ^ 32) (hm1 : a1.length ≤ 1048576) (hx1 : ∀ x ∈ a1, x < 2 ^ 32) (pk : Nat) (lg : Nat) (HLG : ∀ r, Is .f32 r (ar .quo .f32 pk (dsV p0 q0 a0 p1 q1 a1)) → (∀ w, Calls Try.prog 121 #[.float .f32 r] w (RetF .f32 lg w)) ∧ (∀ w, Calls Try.prog 123 #[.float .f32 r] w (RetF .f32 lg w))) (hpk : pk < 2 ^ 32) :
    Calls Try.prog 54 #[.agg #[.int .i64 p0, .int .i64 q0, v0], .agg #[.int .i64 p1, .int .i64 q1, v1], .float .f32 pk] w (RetFb (pkV p0 q0 a0 p1 q1 a1 pk lg) (pkB p0 q0 a0 p1 q1 a1 pk lg) w) := by
  obtain ⟨A0, c0, hv0, _, _, _⟩ := id h0
  obtain ⟨A1, c1, hv1, _, _, _⟩ := id h1
  rw [fl_len] at hv0 hv1
  subst hv0 hv1
  obtain ⟨w0, hw0⟩ : ∃ W, (w.alloc (.cells #[.int .i64 p0, .int .i64 q0, .slice A0 a0.length c0] 36)).alloc (.cells #[.int .i64 p1, .int .i64 q1, .slice A1 a1.length c1] 36) = W := ⟨_, rfl⟩
  have hb0 : Below w.heap.size w w0 := by rw [← hw0]; exact ((Below.refl _ _).alloc (Nat.le_refl _) _).alloc (by simp) _
  have hX : Bx w0 w.heap.size [.int .i64 p0, .int .i64 q0, .slice A0 a0.length c0] := by rw [← hw0]; exact (bx_new w [.int .i64 p0, .int .i64 q0, .slice A0 a0.length c0] _).step ((Below.refl _ _).alloc (Nat.le_refl _) _)
  have hY : Bx w0 (w.heap.size + 1) [.int .i64 p1, .int .i64 q1, .slice A1 a1.length c1] := by rw [← hw0]; have := bx_new (w.alloc (.cells #[.int .i64 p0, .int .i64 q0, .slice A0 a0.length c0] 36)) [.int .i64 p1, .int .i64 q1, .slice A1 a1.length c1] 36; simpa using this
  have HB0 := Lib.hid hb0
  have HD := Lib.hid (dsI_any (.slice A0 a0.length c0) p0 q0 a0 (.slice A1 a1.length c1) p1 q1 a1 w0 (h0.step hb0) (h1.step hb0) hm0 hx0 hm1 hx1)
  have HP := Lib.hid (fun W => psI_any pk W hpk)
  have HDN := Lib.hid (ds_not p0 q0 a0 p1 q1 a1)
  have HDL := Lib.hid (ds_lt p0 q0 a0 p1 q1 a1)
  have x0 := (hX.2 0 _ rfl).1
  have y0 := (hY.2 0 _ rfl).1
  have x1 := (hX.2 1 _ rfl).1
  have y1 := (hY.2 1 _ rfl).1
  have x2 := (hX.2 2 _ rfl).1
  have y2 := (hY.2 2 _ rfl).1
  clear h0 h1 hX hY hb0 hx0 hx1
  cases bd : dsB p0 q0 a0 p1 q1 a1 with
  | false =>
    have HNO := Lib.hid (pk_no (lg := lg) (show pkG p0 q0 a0 p1 q1 a1 pk = false by unfold pkG; rw [bd]; simp))
    rw [bd] at HD
    generalize dsV p0 q0 a0 p1 q1 a1 = D at *
    clear bd
    go_enter Try.func54, Try.ntmps54
    go_wp2_with fail
    first | with_reducible refine HD.out.mono ?_ | refine HD.out.mono ?_
    rintro e w1 ⟨r0, rfl, hr0, hb⟩
    obtain rfl := is_eq hr0 HDN.out
    have HB1 := Lib.hid (HB0.out.trans (hb.mono HB0.out.size))
    clear hb hr0
    go_wp2_with fail
    go_ret2
    rw [HNO.out.1, HNO.out.2]
    exact ⟨_, rfl, is_lit (by decide), HB1.out⟩
  | true =>
    cases be : (FloatKind.f32.format.order (dsV p0 q0 a0 p1 q1 a1) 0 == some .eq) with
    | true =>
      have HNO := Lib.hid (pk_no (lg := lg) (show pkG p0 q0 a0 p1 q1 a1 pk = false by unfold pkG; rw [bd, be]; simp))
      rw [bd] at HD
      generalize dsV p0 q0 a0 p1 q1 a1 = D at *
      clear bd
      go_enter Try.func54, Try.ntmps54
      go_wp2_with fail
      first | with_reducible refine HD.out.mono ?_ | refine HD.out.mono ?_
      rintro e w1 ⟨r0, rfl, hr0, hb⟩
      obtain rfl := is_eq hr0 HDN.out
      have HB1 := Lib.hid (HB0.out.trans (hb.mono HB0.out.size))
      clear hb hr0
      go_wp2_with fail
      go_ret2
      rw [HNO.out.1, HNO.out.2]
      exact ⟨_, rfl, is_lit (by decide), HB1.out⟩
    | false =>
      cases bp : psB pk with
      | false =>
        have HNO := Lib.hid (pk_no (lg := lg) (show pkG p0 q0 a0 p1 q1 a1 pk = false by unfold pkG; rw [bd, bp, be]; simp))
        rw [bd] at HD
        rw [bp] at HP
        generalize dsV p0 q0 a0 p1 q1 a1 = D at *
        clear bd bp
        go_enter Try.func54, Try.ntmps54
        go_wp2_with fail
        first | with_reducible refine HD.out.mono ?_ | refine HD.out.mono ?_
        rintro e w1 ⟨r0, rfl, hr0, hb⟩
        obtain rfl := is_eq hr0 HDN.out
        have HB1 := Lib.hid (HB0.out.trans (hb.mono HB0.out.size))
        clear hb hr0
        go_wp2_with fail
        with_reducible refine (HP.out _).mono ?_
        rintro e w2 ⟨rfl, n2, hw⟩
        have HB2 := Lib.hid (show Below w.heap.size w w2 by rw [hw]; exact below_drawn HB1.out _)
        clear hw
        go_wp2_with fail
        go_ret2
        rw [HNO.out.1, HNO.out.2]
        exact ⟨_, rfl, is_lit (by decide), HB2.out⟩
      | true =>
        cases bf : finB .f32 (ar .quo .f32 (ar .mul .f32 1101004800 lg) 1075010958) with
        | true =>
          have HG := Lib.hid (show pkG p0 q0 a0 p1 q1 a1 pk = true by unfold pkG; rw [bd, bp, be]; rfl)
          have HYE := Lib.hid (pk_yes (lg := lg) HG.out)
          rw [bd] at HD
          rw [bp] at HP
          have KP := Lib.hid (show Is .f32 pk pk from ⟨cn_fin (by have := bp; unfold psB at this; rw [Bool.and_eq_true] at this; exact this.1), hpk⟩)
          have KD := Lib.hid (show Is .f32 (dsV p0 q0 a0 p1 q1 a1) (dsV p0 q0 a0 p1 q1 a1) from ⟨cn_of_not HDN.out, HDL.out⟩)
          have HL := Lib.hid HLG
          clear HLG HG bd bp
          rw [HYE.out.1, HYE.out.2]
          clear HYE
          generalize dsV p0 q0 a0 p1 q1 a1 = D at *
          obtain ⟨Xv, hXv⟩ : ∃ x, x = ar .quo .f32 (ar .mul .f32 1101004800 lg) 1075010958 := ⟨_, rfl⟩
          rw [← hXv]
          have HXV := Lib.hid hXv
          have BF := Lib.hid (show finB .f32 Xv = true by rw [hXv]; exact bf)
          clear hXv bf
          go_enter Try.func54, Try.ntmps54
          go_wp2_with fail
          first | with_reducible refine HD.out.mono ?_ | refine HD.out.mono ?_
          rintro e w1 ⟨r0, rfl, hr0, hb⟩
          obtain rfl := is_eq hr0 HDN.out
          have HB1 := Lib.hid (HB0.out.trans (hb.mono HB0.out.size))
          clear hb hr0
          go_wp2_with fail
          with_reducible refine (HP.out _).mono ?_
          rintro e w2 ⟨rfl, n2, hw⟩
          have HB2 := Lib.hid (show Below w.heap.size w w2 by rw [hw]; exact below_drawn HB1.out _)
          clear hw
          go_wp2_with (first | (refine up_ar2 (op := .quo) rfl KP.out KD.out ?_; intro r3 n3 h3) | (go_at_call 123; refine ((HL.out _ h3).2 _).mono ?_; rintro e w4 ⟨r4, n4, rfl, h4, rfl⟩) | (refine up_ar2 (op := .mul) rfl (is_lit (by decide)) h4 ?_; intro r5 n5 h5) | (refine up_ar2 (op := .quo) rfl h5 (is_lit (by decide)) ?_; intro r6 n6 h6; have h6' : Is .f32 r6 Xv := by rw [HXV.out]; exact h6) | (go_at_call 124; refine (implFin_any r6 _ (by exact h6'.2)).mono ?_; rintro e w7 ⟨rfl, n7, rfl⟩; rw [fin_is h6', BF.out]))
          go_ret2
          rw [show fnV Xv = Xv by unfold fnV; rw [BF.out]; rfl, BF.out]
          exact ⟨_, rfl, h6', by first | exact below_drawn HB2.out _ | exact below_drawn (below_drawn HB2.out _) _ | exact below_drawn (below_drawn (below_drawn HB2.out _) _) _ | exact below_drawn (below_drawn (below_drawn (below_drawn HB2.out _) _) _) _⟩
        | false =>
          have HG := Lib.hid (show pkG p0 q0 a0 p1 q1 a1 pk = true by unfold pkG; rw [bd, bp, be]; rfl)
          have HYE := Lib.hid (pk_yes (lg := lg) HG.out)
          rw [bd] at HD
          rw [bp] at HP
          have KP := Lib.hid (show Is .f32 pk pk from ⟨cn_fin (by have := bp; unfold psB at this; rw [Bool.and_eq_true] at this; exact this.1), hpk⟩)
          have KD := Lib.hid (show Is .f32 (dsV p0 q0 a0 p1 q1 a1) (dsV p0 q0 a0 p1 q1 a1) from ⟨cn_of_not HDN.out, HDL.out⟩)
          have HL := Lib.hid HLG
          clear HLG HG bd bp
          rw [HYE.out.1, HYE.out.2]
          clear HYE
          generalize dsV p0 q0 a0 p1 q1 a1 = D at *
          obtain ⟨Xv, hXv⟩ : ∃ x, x = ar .quo .f32 (ar .mul .f32 1101004800 lg) 1075010958 := ⟨_, rfl⟩
          rw [← hXv]
          have HXV := Lib.hid hXv
          have BF := Lib.hid (show finB .f32 Xv = false by rw [hXv]; exact bf)
          clear hXv bf
          go_enter Try.func54, Try.ntmps54
          go_wp2_with fail
          first | with_reducible refine HD.out.mono ?_ | refine HD.out.mono ?_
          rintro e w1 ⟨r0, rfl, hr0, hb⟩
          obtain rfl := is_eq hr0 HDN.out
          have HB1 := Lib.hid (HB0.out.trans (hb.mono HB0.out.size))
          clear hb hr0
          go_wp2_with fail
          with_reducible refine (HP.out _).mono ?_
          rintro e w2 ⟨rfl, n2, hw⟩
          have HB2 := Lib.hid (show Below w.heap.size w w2 by rw [hw]; exact below_drawn HB1.out _)
          clear hw
          go_wp2_with (first | (refine up_ar2 (op := .quo) rfl KP.out KD.out ?_; intro r3 n3 h3) | (go_at_call 123; refine ((HL.out _ h3).2 _).mono ?_; rintro e w4 ⟨r4, n4, rfl, h4, rfl⟩) | (refine up_ar2 (op := .mul) rfl (is_lit (by decide)) h4 ?_; intro r5 n5 h5) | (refine up_ar2 (op := .quo) rfl h5 (is_lit (by decide)) ?_; intro r6 n6 h6; have h6' : Is .f32 r6 Xv := by rw [HXV.out]; exact h6) | (go_at_call 124; refine (implFin_any r6 _ (by exact h6'.2)).mono ?_; rintro e w7 ⟨rfl, n7, rfl⟩; rw [fin_is h6', BF.out]))
          go_ret2
          rw [show fnV Xv = 0 by unfold fnV; rw [BF.out]; rfl, BF.out]
          exact ⟨_, rfl, is_lit (by decide), by first | exact below_drawn HB2.out _ | exact below_drawn (below_drawn HB2.out _) _ | exact below_drawn (below_drawn (below_drawn HB2.out _) _) _ | exact below_drawn (below_drawn (below_drawn (below_drawn HB2.out _) _) _) _⟩
end Go.Proofs.Ythkklilfignmpaa
