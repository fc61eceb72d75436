/-
  Contracts: the pixels that are not coarse, by the program.
-/
import Derived.Test.YtfbdmhkmkmbipaaFiK
import Derived.Test.YtfbdmhkmkmbipaaRgb
import Derived.Test.YtfbdmhkmkmbipaaSfw
import Derived.OwnWalk
import Derived.BigRegion
import Derived.BigQuiet
namespace Go.Proofs.Ytfbdmhkmkmbipaa
open Go.RowKit Fl
set_option linter.unusedVariables false
set_option maxRecDepth 100000

set_option maxHeartbeats 4000000 in
theorem hoI_any (u v a b : Int) (w : World) (hu : 0 ≤ u ∧ u ≤ 16) (hv : 0 ≤ v ∧ v ≤ 16) (ha0 : 0 ≤ a) (hb0 : 0 ≤ b) :
    Calls Try.prog 138 #[.agg #[.int .i64 0, .int .i64 0, .int .i64 u, .int .i64 v], .int .i64 a, .int .i64 b] w (RetBB (decide (a < u) && decide (b < v)) w) := by
  have hw1 : IntKind.i64.wrap (0 + u) = u := by rw [Int.zero_add, IntKind.wrap_i64]; omega
  have hw2 : IntKind.i64.wrap u = u := by rw [IntKind.wrap_i64]; omega
  have hw3 : IntKind.i64.wrap (0 + v) = v := by rw [Int.zero_add, IntKind.wrap_i64]; omega
  have hw4 : IntKind.i64.wrap v = v := by rw [IntKind.wrap_i64]; omega
  have HB := Lib.hid (show Below w.heap.size w (w.alloc (.cells #[.int .i64 0, .int .i64 0, .int .i64 u, .int .i64 v] 97)) from (Below.refl _ _).alloc (Nat.le_refl _) _)
  by_cases ha : a < u
  · rw [decide_eq_true ha, Bool.true_and]
    by_cases hb : b < v
    · rw [decide_eq_true hb]
      have hd : decide (b < v) = true := decide_eq_true hb
      go_enter Try.func138, Try.ntmps138
      go_wp2_with fail
      go_ret
      first | exact ⟨rfl, HB.out⟩ | exact ⟨by rw [← hd]; rfl, HB.out⟩
    · rw [decide_eq_false hb]
      have hd : decide (b < v) = false := decide_eq_false hb
      have hb' : v ≤ b := by omega
      go_enter Try.func138, Try.ntmps138
      go_wp2_with fail
      go_ret
      first | exact ⟨rfl, HB.out⟩ | exact ⟨by rw [← hd]; rfl, HB.out⟩
  · rw [decide_eq_false ha, Bool.false_and]
    have hd : decide (a < u) = false := decide_eq_false ha
    have ha' : u ≤ a := by omega
    go_enter Try.func138, Try.ntmps138
    go_wp2_with fail
    go_ret
    first | exact ⟨rfl, HB.out⟩ | exact ⟨by rw [← hd]; rfl, HB.out⟩
def FiRel (w0 : World) (c : Nat → Bool) (n : Nat) (v i : Value) (wr : World) : Prop := ∃ k : Nat, k ≤ n ∧ i = .int .i64 k ∧ RowI w0 v (fiL c k) wr
set_option maxHeartbeats 8000000 in
theorem fiI_any (p q : Int) (L : Nat) (w : World) (hp : 1 ≤ p ∧ p ≤ 16) (hq : 1 ≤ q ∧ q ≤ 16) (hL : 1 ≤ L ∧ L ≤ 4) :
    Calls Try.prog 115 #[.agg #[.int .i64 p, .int .i64 q], .int .i64 L] w (RetJ1 (fiL (csB p q L) (p * q).toNat) w) := by
  obtain ⟨P, rfl⟩ : ∃ P : Nat, p = (P : Int) := ⟨p.toNat, by omega⟩
  obtain ⟨Q, rfl⟩ : ∃ P : Nat, q = (P : Int) := ⟨q.toNat, by omega⟩
  obtain ⟨i0, hi, hz0, hz1, hz2⟩ := info_parts infoI
  obtain ⟨n, hn⟩ : ∃ n, n = P * Q := ⟨_, rfl⟩
  have hn256 : n ≤ 256 := by rw [hn]; exact Nat.le_trans (Nat.mul_le_mul (show P ≤ 16 by omega) (show Q ≤ 16 by omega)) (by omega)
  have hmul : (P : Int) * (Q : Int) = (n : Int) := by rw [hn]; simp
  have hmw : IntKind.i64.wrap ((P : Int) * (Q : Int)) = (n : Int) := by rw [hmul, IntKind.wrap_i64]; omega
  rw [show ((P : Int) * (Q : Int)).toNat = n by rw [hmul]; simp]
  have HBD := Lib.hid (fun W => bd0_any (P : Int) (Q : Int) L W hp hq hL)
  have hu := hvI_bd hp L
  have hv := hvI_bd hq L
  obtain ⟨c, hc⟩ : ∃ c, c = csB (P : Int) (Q : Int) L := ⟨_, rfl⟩
  rw [← hc]
  have HH := Lib.hid (fun (k : Nat) (W : World) => (show Calls Try.prog 138 #[.agg #[.int .i64 0, .int .i64 0, .int .i64 (hvI L P), .int .i64 (hvI L Q)], .int .i64 ((k % P : Nat) : Int), .int .i64 ((k / P : Nat) : Int)] W (RetBB (c k) W) by rw [hc]; exact hoI_any (hvI L P) (hvI L Q) _ _ W (by omega) (by omega) (Int.natCast_nonneg _) (Int.natCast_nonneg _)))
  have HN := Lib.hid (fun k (hk : k ≤ n) => (show (fiL c k).length ≤ 256 by rw [fiL_len]; exact Nat.le_trans (fiN_len c k) (by omega)))
  generalize hvI L (P : Int) = u at *
  generalize hvI L (Q : Int) = v at *
  clear hc hn hmul hu hv
  obtain ⟨w0, hw0⟩ : ∃ w0, w.alloc (.cells #[.int .i64 (P : Int), .int .i64 (Q : Int)] 94) = w0 := ⟨_, rfl⟩
  have hb0 : Below w.heap.size w w0 := by rw [← hw0]; exact (Below.refl _ _).alloc (Nat.le_refl _) _
  have hlt : w.heap.size < w0.heap.size := by rw [← hw0]; simp
  have x0 : w0.cell? ⟨w.heap.size, 0, none⟩ = some (.int .i64 (P : Int)) := by rw [← hw0]; simp [go_sem]
  have x1 : w0.cell? ⟨w.heap.size, 1, none⟩ = some (.int .i64 (Q : Int)) := by rw [← hw0]; simp [go_sem]
  have HB0 := Lib.hid hb0
  clear hb0
  go_enter Try.func115, Try.ntmps115
  go_wp2_with fail
  with_reducible refine (HBD.out _).mono ?_
  rintro e w1 ⟨rfl, hb1⟩
  clear hw0
  replace x0 := (hb1.cell (p := ⟨w.heap.size, 0, none⟩) hlt).trans x0
  replace x1 := (hb1.cell (p := ⟨w.heap.size, 1, none⟩) hlt).trans x1
  replace hlt : w.heap.size < w1.heap.size := Nat.lt_of_lt_of_le hlt hb1.size
  have HB1 := Lib.hid (HB0.out.trans (hb1.mono HB0.out.size))
  clear hb1
  have X0 := Lib.hid x0
  have X1 := Lib.hid x1
  go_wp2_with fail
  go_loopw [6, 18] (FiRel w1 c n) (fun _ i _ => n - (intOf i).toNat)
  case atStart => exact ⟨0, Nat.zero_le _, rfl, RowI.lit w1⟩
  case round =>
    clear x0 x1
    obtain ⟨k, hk, rfl, hr⟩ := hrel
    have HR0 := Lib.hid hr
    have x0 : ∀ q : Sf.Gw wr, q.w.cell? ⟨w.heap.size, 0, none⟩ = some (.int .i64 (P : Int)) := fun q => q.cell ((HR0.out.2.cell (p := ⟨w.heap.size, 0, none⟩) hlt).trans X0.out)
    clear hr
    by_cases hkn : k < n
    · have hpz : ¬ (P : Int) = 0 := by omega
      have hpzN : ¬ P = 0 := by omega
      have hrem : (k : Int).tmod (P : Int) = ((k % P : Nat) : Int) := by rw [Int.tmod_eq_emod_of_nonneg (by omega)]; simp
      have hquo : (k : Int).tdiv (P : Int) = ((k / P : Nat) : Int) := by rw [Int.tdiv_eq_ediv_of_nonneg (by omega)]; simp
      have hql : k / P ≤ k := Nat.div_le_self _ _
      have hrl : k % P ≤ k := Nat.mod_le _ _
      have HHk := Lib.hid (HH.out k)
      have HNk := Lib.hid (HN.out k (by omega))
      generalize k % P = x at *
      generalize k / P = y at *
      have hyw : IntKind.i64.wrap (y : Int) = (y : Int) := by rw [IntKind.wrap_i64]; omega
      have hkn2 : (k : Int) < (n : Int) := by omega
      cases hck : c k with
      | true =>
        rw [hck] at HHk
        have HCK := Lib.hid hck
        clear hck
        go_wp2_with fail
        refine Sf.wp_softC (C := fun w' => ∃ q : Sf.Gw wr, w' = q.w) [false, false, false, false, false, false, false, false, false, false, false] [true, true, true, true, true, true, true, true, true, true, true] (fun i => 1) (fun i => if i = 9 then (.bool true) else undef) (by kernel_rfl) (by kernel_rfl) (by kernel_rfl) ⟨Sf.gw_draw wr 1, rfl⟩ ?_
        simp only [Sf.tl]
        with_reducible refine Sf.lx_one (by kernel_rfl) (by kernel_rfl) ?_
        intro K hK
        refine Sf.dft_quiet rfl ?_
        go_big_quiet_op
        with_reducible refine hK _ ?_
        clear hK K
        with_reducible refine Sf.lx_one (by kernel_rfl) (by kernel_rfl) ?_
        intro K hK
        refine Sf.dft_quiet rfl ?_
        go_big_quiet_op
        with_reducible refine hK _ ?_
        clear hK K
        with_reducible refine Sf.lx_one (by kernel_rfl) (by kernel_rfl) ?_
        intro K hK
        refine Sf.dft_quiet rfl ?_
        go_big_quiet_op
        with_reducible refine hK _ ?_
        clear hK K
        with_reducible refine Sf.lx_one (by kernel_rfl) (by kernel_rfl) ?_
        intro K hK
        refine Sf.dft_quiet rfl ?_
        go_big_quiet_op
        with_reducible refine hK _ ?_
        clear hK K
        with_reducible refine Sf.lx_one (by kernel_rfl) (by kernel_rfl) ?_
        intro K hK
        refine Sf.dft_quiet rfl ?_
        go_big_quiet_op
        with_reducible refine hK _ ?_
        clear hK K
        with_reducible refine Sf.lx_one (by kernel_rfl) (by kernel_rfl) ?_
        intro K hK
        refine Sf.dft_quiet rfl ?_
        go_big_quiet_op
        with_reducible refine hK _ ?_
        clear hK K
        with_reducible refine Sf.lx_one (by kernel_rfl) (by kernel_rfl) ?_
        intro K hK
        refine Sf.dft_quiet rfl ?_
        go_big_quiet_op
        with_reducible refine hK _ ?_
        clear hK K
        with_reducible refine Sf.lx_one (by kernel_rfl) (by kernel_rfl) ?_
        intro K hK
        refine Sf.dft_quiet rfl ?_
        go_big_quiet_op
        with_reducible refine hK _ ?_
        clear hK K
        with_reducible refine Sf.lx_one (by kernel_rfl) (by kernel_rfl) ?_
        intro K hK
        refine Sf.dft_quiet rfl ?_
        go_big_quiet_op
        with_reducible refine hK _ ?_
        clear hK K
        with_reducible refine Sf.lx_one (by kernel_rfl) (by kernel_rfl) ?_
        intro K hK
        refine Sf.dft_call ?_ ?_
        · clear hK K; rintro _ ⟨nc, rfl⟩; go_simp; exact (HHk.out nc.w).mono fun e w' ⟨he, hb⟩ => ⟨he, nc.next hb⟩
        with_reducible refine hK _ ?_
        clear hK K
        (try simp only [Act.put, List.setIfInBounds_toArray, List.set_cons_zero, List.set_cons_succ, if_true, if_false, reduceIte, Nat.reduceEqDiff])
        with_reducible refine Sf.lx_one (by kernel_rfl) (by kernel_rfl) ?_
        intro K hK
        refine Sf.dft_quiet rfl ?_
        go_big_quiet_op
        with_reducible refine hK _ ?_
        clear hK K
        with_reducible refine Sf.lx_nil ?_
        rintro _ ⟨nq, rfl⟩
        have HR := Lib.hid (row_stepI HR0.out nq.h)
        generalize nq.w = wq at *
        clear x0
        go_wp2_with fail
        go_roundw
        case rel => exact ⟨k + 1, by omega, by go_num, by rw [fiL_yes HCK.out]; exact HR.out⟩
        case measure => simp [intOf]; omega
      | false =>
        rw [hck] at HHk
        have HCK := Lib.hid hck
        clear hck
        go_wp2_with fail
        refine Sf.wp_softC (C := fun w' => ∃ q : Sf.Gw wr, w' = q.w) [false, false, false, false, false, false, false, false, false, false, false] [true, true, true, true, true, true, true, true, true, true, true] (fun i => 1) (fun i => if i = 9 then (.bool false) else undef) (by kernel_rfl) (by kernel_rfl) (by kernel_rfl) ⟨Sf.gw_draw wr 1, rfl⟩ ?_
        simp only [Sf.tl]
        with_reducible refine Sf.lx_one (by kernel_rfl) (by kernel_rfl) ?_
        intro K hK
        refine Sf.dft_quiet rfl ?_
        go_big_quiet_op
        with_reducible refine hK _ ?_
        clear hK K
        with_reducible refine Sf.lx_one (by kernel_rfl) (by kernel_rfl) ?_
        intro K hK
        refine Sf.dft_quiet rfl ?_
        go_big_quiet_op
        with_reducible refine hK _ ?_
        clear hK K
        with_reducible refine Sf.lx_one (by kernel_rfl) (by kernel_rfl) ?_
        intro K hK
        refine Sf.dft_quiet rfl ?_
        go_big_quiet_op
        with_reducible refine hK _ ?_
        clear hK K
        with_reducible refine Sf.lx_one (by kernel_rfl) (by kernel_rfl) ?_
        intro K hK
        refine Sf.dft_quiet rfl ?_
        go_big_quiet_op
        with_reducible refine hK _ ?_
        clear hK K
        with_reducible refine Sf.lx_one (by kernel_rfl) (by kernel_rfl) ?_
        intro K hK
        refine Sf.dft_quiet rfl ?_
        go_big_quiet_op
        with_reducible refine hK _ ?_
        clear hK K
        with_reducible refine Sf.lx_one (by kernel_rfl) (by kernel_rfl) ?_
        intro K hK
        refine Sf.dft_quiet rfl ?_
        go_big_quiet_op
        with_reducible refine hK _ ?_
        clear hK K
        with_reducible refine Sf.lx_one (by kernel_rfl) (by kernel_rfl) ?_
        intro K hK
        refine Sf.dft_quiet rfl ?_
        go_big_quiet_op
        with_reducible refine hK _ ?_
        clear hK K
        with_reducible refine Sf.lx_one (by kernel_rfl) (by kernel_rfl) ?_
        intro K hK
        refine Sf.dft_quiet rfl ?_
        go_big_quiet_op
        with_reducible refine hK _ ?_
        clear hK K
        with_reducible refine Sf.lx_one (by kernel_rfl) (by kernel_rfl) ?_
        intro K hK
        refine Sf.dft_quiet rfl ?_
        go_big_quiet_op
        with_reducible refine hK _ ?_
        clear hK K
        with_reducible refine Sf.lx_one (by kernel_rfl) (by kernel_rfl) ?_
        intro K hK
        refine Sf.dft_call ?_ ?_
        · clear hK K; rintro _ ⟨nc, rfl⟩; go_simp; exact (HHk.out nc.w).mono fun e w' ⟨he, hb⟩ => ⟨he, nc.next hb⟩
        with_reducible refine hK _ ?_
        clear hK K
        (try simp only [Act.put, List.setIfInBounds_toArray, List.set_cons_zero, List.set_cons_succ, if_true, if_false, reduceIte, Nat.reduceEqDiff])
        with_reducible refine Sf.lx_one (by kernel_rfl) (by kernel_rfl) ?_
        intro K hK
        refine Sf.dft_quiet rfl ?_
        go_big_quiet_op
        with_reducible refine hK _ ?_
        clear hK K
        with_reducible refine Sf.lx_nil ?_
        rintro _ ⟨nq, rfl⟩
        have HR := Lib.hid (row_stepI HR0.out nq.h)
        generalize nq.w = wq at *
        clear x0
        go_wp2_with (first | (at_builtin; refine wpList_append_own _ rfl _ _ 125 rfl w1.heap.size 2 i0 (.int .i64 0) 1 8 Try.underlying125 hi hz0 hz1 hz2 rfl (by decide) _ _ _ rfl (HR.out.1.alloc _) ⟨wq.heap.size, 0, none⟩ 1 1 [.int .i64 (k : Int)] rfl rfl (one_newF _ _ _) (cellsI [(k : Int)]) (by unfold maxLen; have := HNk.out; omega) (by have := HNk.out; omega) (by simp; have := HR.out.2.size; omega) ?_; intro v' w2 hown' hgrow _) | (at_builtin; refine wpList_append_own _ rfl _ _ 125 rfl w1.heap.size 2 i0 (.int .i64 0) 1 8 Try.underlying125 hi hz0 hz1 hz2 rfl (by decide) _ _ _ rfl ((rowDrewF HR.out.1 _).alloc _) ⟨wq.heap.size, 0, none⟩ 1 1 [.int .i64 (k : Int)] rfl rfl (one_newF _ _ _) (cellsI [(k : Int)]) (by unfold maxLen; have := HNk.out; omega) (by have := HNk.out; omega) (by simp; have := HR.out.2.size; omega) ?_; intro v' w2 hown' hgrow _))
        have HR2 := Lib.hid (show RowI w1 v' (fiL c k ++ [(k : Int)]) w2 from RowI.push hown' (by first | exact HR.out.2.alloc HR.out.2.size _ | exact (below_drawn HR.out.2 _).alloc HR.out.2.size _) hgrow (fun j hj => (HR.out.1.lt j hj).1))
        clear hown' hgrow
        go_wp2_with fail
        go_roundw
        case rel => exact ⟨k + 1, by omega, by go_num, by rw [fiL_no HCK.out]; exact HR2.out⟩
        case measure => simp [intOf]; omega
    · obtain rfl : k = n := by omega
      clear x0
      have HO := Lib.hid (HR0.out.own.less (lo' := w.heap.size) HB1.out.size)
      have HBE := Lib.hid (HB1.out.trans (HR0.out.2.mono HB1.out.size))
      go_wp2_with fail
      go_ret
      exact ⟨_, rfl, HO.out, HBE.out⟩
end Go.Proofs.Ytfbdmhkmkmbipaa
