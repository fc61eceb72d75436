/-
  Contracts: PlaneOf of one side.
-/
import Derived.Test.YtmokgmmjnfnbfaaPnK
namespace Go.Proofs.Ytmokgmmjnfnbfaa
open Go.RowKit Fl
set_option linter.unusedVariables false

theorem abS_any (n : Int) (w : World) (h1 : -1000000 ≤ n) (h2 : n ≤ 1000000) : Calls Try.prog 85 #[.int .i64 n] w fun e w' => e = .returned (.int .i64 (absI n)) ∧ w = w' := by
  by_cases h : n < 0
  · rw [show absI n = -n by unfold absI; rw [if_pos h]]
    go_enter Try.func85, Try.ntmps85
    go_wp2_with fail
    go_ret
    exact ⟨rfl, rfl⟩
  · rw [show absI n = n by unfold absI; rw [if_neg h]]
    have h' : 0 ≤ n := by omega
    clear h
    go_enter Try.func85, Try.ntmps85
    go_wp2_with fail
    go_ret
    exact ⟨rfl, rfl⟩
theorem dgS_any (n : Int) (p : Nat) (w : World) (h1 : -1000000 ≤ n) (h2 : n ≤ 1000000) (hp : p ≤ 63) : Calls Try.prog 58 #[.int .i64 n, .int .i64 p] w fun e w' => e = .returned (.bool (dig (absI n) p)) ∧ w = w' := by
  have HAb := Lib.hid (fun w' => abS_any n w' h1 h2)
  obtain ⟨d1, d2⟩ := absI_b n h1 h2
  clear h1 h2
  generalize absI n = z at *
  have hm := minP p hp
  have hq0 : 0 ≤ z / 2 ^ p := Int.ediv_nonneg d1 (by have := pow_pos2 p; omega)
  have hq1 : z / 2 ^ p ≤ 1000000000000 := Int.le_trans (Int.ediv_le_self _ d1) (by omega)
  unfold dig
  obtain ⟨q, hq⟩ : ∃ q, z / 2 ^ p = q := ⟨_, rfl⟩
  rw [hq] at hq0 hq1
  have hand := i64_and1 q
  go_enter Try.func58, Try.ntmps58
  go_wp2_with (go_at_call 85; refine (HAb.out _).mono ?_; rintro e w' ⟨rfl, rfl⟩)
  go_ret
  rw [hq]
  exact ⟨rfl, rfl⟩
def PnRel (w0 : World) (xs : List Int) (p : Nat) (v i : Value) (wr : World) : Prop := ∃ j : Nat, j ≤ xs.length ∧ i = .int .i64 j ∧ RowB w0 v (pnK xs p j) wr
set_option maxRecDepth 100000 in
set_option maxHeartbeats 4000000 in
theorem poS_any (v : Value) (xs : List Int) (p : Int) (w : World) (hr : Rd w w.heap.size v (il xs)) (hm : xs.length ≤ 1048576) :
    Calls Try.prog 19 #[v, .int .i64 p] w (RetBl (pnV xs p) (pnG xs p) w) := by
  obtain ⟨i0, hi, hz0, hz1, hz2⟩ := info_parts infoB
  have HA := Lib.hid (areS_any v xs w _ hr hm)
  obtain ⟨A0, c, hv, hc1, hc2, hcell⟩ := hr
  rw [il_len] at hv hc1 hcell
  subst hv
  have HC := Lib.hid hcell
  clear hcell
  cases t1 : areB xs with
  | false =>
    have hb : pnG xs p = false := by unfold pnG; rw [t1]; rfl
    rw [pnV_no hb, hb]
    have T1 := Lib.hid t1
    clear t1 hb
    go_enter Try.func19, Try.ntmps19
    go_wp2_with (first | (go_at_call 53; refine HA.out.mono ?_; rintro e w' ⟨rfl, rfl⟩; rw [T1.out]))
    go_ret2
    exact retBl_nil (Below.refl _ _)
  | true =>
    cases t2 : pnP p with
    | false =>
      have hb : pnG xs p = false := by unfold pnG; rw [t1, t2]; rfl
      rw [pnV_no hb, hb]
      have T1 := Lib.hid t1
      have T2 := Lib.hid (show decide (0 ≤ p ∧ p ≤ 23) = false from t2)
      clear t1 t2 hb
      go_enter Try.func19, Try.ntmps19
      go_wp2_with (first | (go_at_call 53; refine HA.out.mono ?_; rintro e w' ⟨rfl, rfl⟩; rw [T1.out]) | (go_at_call 57; refine (inD_any p 0 23 _).mono ?_; rintro e w' ⟨rfl, rfl⟩; rw [T2.out]))
      go_ret2
      exact retBl_nil (Below.refl _ _)
    | true =>
      have hb : pnG xs p = true := by unfold pnG; rw [t1, t2]; rfl
      rw [pnV_yes hb, hb]
      obtain ⟨hl1, hl2, hw⟩ := areB_len t1
      obtain ⟨hp1, hp2⟩ := of_decide_eq_true (show decide (0 ≤ p ∧ p ≤ 23) = true from t2)
      have T1 := Lib.hid t1
      have T2 := Lib.hid (show decide (0 ≤ p ∧ p ≤ 23) = true from t2)
      have HW := Lib.hid hw
      clear t1 t2 hb hw
      obtain ⟨q, rfl⟩ : ∃ q : Nat, p = q := ⟨p.toNat, by omega⟩
      rw [show ((q : Int)).toNat = q by omega]
      go_enter Try.func19, Try.ntmps19
      go_wp2_with (first | (go_at_call 53; refine HA.out.mono ?_; rintro e w' ⟨rfl, rfl⟩; rw [T1.out]) | (go_at_call 57; refine (inD_any q 0 23 _).mono ?_; rintro e w' ⟨rfl, rfl⟩; rw [T2.out]))
      go_loopw [6, 7] (PnRel w xs q) (fun _ i _ => xs.length - (intOf i).toNat)
      case atStart => exact ⟨0, Nat.zero_le _, rfl, RowB.lit w⟩
      case round =>
        obtain ⟨j, hj, rfl, hrr⟩ := hrel
        have HR := Lib.hid hrr
        clear hrr
        by_cases hlt : j < xs.length
        · obtain ⟨b, off, rfl, hbl, hcc⟩ := HC.out (by omega)
          have hsrc : wr.cell? ⟨b, off + j, none⟩ = some (.int .i64 xs[j]) := (HR.out.2.cell (p := ⟨b, off + j, none⟩) hbl).trans (hcc j _ (il_get xs j hlt))
          clear hcc HC
          obtain ⟨x1, x2⟩ := withB_out HW.out j hlt
          have HD := Lib.hid (fun w' => dgS_any xs[j] q w' x1 x2 (by omega))
          have HS := Lib.hid (pnK_succ xs q j hlt)
          have HN := Lib.hid (show (pnK xs q j).length ≤ 128 by rw [pnK_len]; omega)
          clear HW x1 x2
          generalize dig (absI xs[j]) q = y at *
          generalize xs[j] = x at *
          go_wp2_with (first | (go_at_call 58; refine (HD.out _).mono ?_; rintro e w' ⟨rfl, rfl⟩) | (first | (at_builtin; refine wpList_append_own _ rfl _ _ 28 rfl w.heap.size 4 i0 (.bool false) 1 1 Try.underlying28 hi hz0 hz1 hz2 rfl (by decide) _ _ _ rfl (HR.out.1.alloc _) ⟨wr.heap.size, 0, none⟩ 1 1 [.bool y] rfl rfl (one_newF _ _ _) (cellsB [y]) (by unfold maxLen; have := HN.out; omega) (by have := HN.out; omega) (by simp; have := HR.out.2.size; omega) ?_; intro v' w1 hown' hgrow _) | (at_builtin; refine wpList_append_own _ rfl _ _ 28 rfl w.heap.size 4 i0 (.bool false) 1 1 Try.underlying28 hi hz0 hz1 hz2 rfl (by decide) _ _ _ rfl ((rowDrewF HR.out.1 _).alloc _) ⟨wr.heap.size, 0, none⟩ 1 1 [.bool y] rfl rfl (one_newF _ _ _) (cellsB [y]) (by unfold maxLen; have := HN.out; omega) (by have := HN.out; omega) (by simp; have := HR.out.2.size; omega) ?_; intro v' w1 hown' hgrow _)))
          have HR2 := Lib.hid (show RowB w v' ((pnK xs q j) ++ [y]) w1 from RowB.push hown' (by first | exact HR.out.2.alloc HR.out.2.size _ | exact (below_drawn HR.out.2 _).alloc HR.out.2.size _) hgrow (fun j hj => (HR.out.1.lt j hj).1))
          clear hown' hgrow
          go_roundw
          case rel => exact ⟨j + 1, by omega, by go_num, by rw [HS.out]; exact HR2.out⟩
          case measure => simp [intOf]; omega
        · obtain rfl : j = xs.length := by omega
          go_wp2
          go_ret2
          exact ⟨_, rfl, HR.out.own, HR.out.2⟩
end Go.Proofs.Ytmokgmmjnfnbfaa
