/-
  Contracts: step pictures, by the model.
-/
import Derived.Test.YtgfdgcoimfjhbaaStK
namespace Go.Proofs.Ytgfdgcoimfjhbaa
open Go.RowKit Fl
set_option linter.unusedVariables false

set_option maxRecDepth 100000 in
set_option maxHeartbeats 8000000 in
theorem stP_any (p q at_ : Int) (l r : Nat) (w : World) (hl : l < 2 ^ 32) (hr : r < 2 ^ 32) :
    Calls Try.prog 26 #[.int .i64 p, .int .i64 q, .int .i64 at_, .float .f32 l, .float .f32 r] w (RetSt p q at_ l r w) := by
  have HSS := Lib.hid (fun w => ssS_any p q w)
  have HIN := Lib.hid (fun w => inB_any at_ 0 16 w)
  have HBX := Lib.hid (show Below w.heap.size w (w.alloc (.cells #[.int .i64 0, .int .i64 0, .slice none 0 0] 27)) from (Below.refl _ _).alloc (Nat.le_refl _) _)
  cases hs : ssB p q with
  | false =>
    have HS := Lib.hid hs
    have HI := Lib.hid (rfl : at_ = at_)
    have HL := Lib.hid (rfl : finB .f32 l = finB .f32 l)
    have HR := Lib.hid (rfl : finB .f32 r = finB .f32 r)
    rw [retSt_side hs]
    go_enter Try.func26, Try.ntmps26
    go_wp2_with (first | (go_at_call 55; refine (HSS.out _).mono ?_; rintro e w0 ⟨rfl, rfl⟩; rw [HS.out]) | (go_at_call 62; refine (HIN.out _).mono ?_; rintro e w0 ⟨rfl, rfl⟩; rw [HI.out]) | (go_at_call_of 63 l; refine (specFin_any l _ hl).mono ?_; rintro e w1 ⟨rfl, n1, rfl⟩; rw [HL.out]) | (go_at_call_of 63 r; refine (specFin_any r _ hr).mono ?_; rintro e w2 ⟨rfl, n2, rfl⟩; rw [HR.out]))
    exact bodyPost_ret (v := .tuple #[.agg #[.int .i64 0, .int .i64 0, .slice none 0 0], .bool false]) (by simp [results, Try.results26, go_sem]) rfl (retPc_no _ _ (by first | exact HBX.out | exact below_drawn HBX.out _ | exact (((below_drawn HBX.out _).setCell (p := ⟨w.heap.size, 0, none⟩) (Nat.le_refl _) _).setCell (p := ⟨w.heap.size, 1, none⟩) (Nat.le_refl _) _).setCell (p := ⟨w.heap.size, 2, none⟩) (Nat.le_refl _) _))
  | true =>
    have HS := Lib.hid hs
    cases hi : decide (0 ≤ at_ ∧ at_ ≤ 16) with
    | false =>
      have HI := Lib.hid hi
      have HL := Lib.hid (rfl : finB .f32 l = finB .f32 l)
      have HR := Lib.hid (rfl : finB .f32 r = finB .f32 r)
      rw [retSt_no (by unfold okS; rw [hi]; rfl)]
      go_enter Try.func26, Try.ntmps26
      go_wp2_with (first | (go_at_call 55; refine (HSS.out _).mono ?_; rintro e w0 ⟨rfl, rfl⟩; rw [HS.out]) | (go_at_call 62; refine (HIN.out _).mono ?_; rintro e w0 ⟨rfl, rfl⟩; rw [HI.out]) | (go_at_call_of 63 l; refine (specFin_any l _ hl).mono ?_; rintro e w1 ⟨rfl, n1, rfl⟩; rw [HL.out]) | (go_at_call_of 63 r; refine (specFin_any r _ hr).mono ?_; rintro e w2 ⟨rfl, n2, rfl⟩; rw [HR.out]))
      exact bodyPost_ret (v := .tuple #[.agg #[.int .i64 0, .int .i64 0, .slice none 0 0], .bool false]) (by simp [results, Try.results26, go_sem]) rfl (retPc_no _ _ (by first | exact HBX.out | exact below_drawn HBX.out _ | exact (((below_drawn HBX.out _).setCell (p := ⟨w.heap.size, 0, none⟩) (Nat.le_refl _) _).setCell (p := ⟨w.heap.size, 1, none⟩) (Nat.le_refl _) _).setCell (p := ⟨w.heap.size, 2, none⟩) (Nat.le_refl _) _))
    | true =>
      have HI := Lib.hid hi
      cases hfl : finB .f32 l with
      | false =>
        have HL := Lib.hid hfl
        have HR := Lib.hid (rfl : finB .f32 r = finB .f32 r)
        rw [retSt_no (by unfold okS; rw [hfl]; simp)]
        go_enter Try.func26, Try.ntmps26
        go_wp2_with (first | (go_at_call 55; refine (HSS.out _).mono ?_; rintro e w0 ⟨rfl, rfl⟩; rw [HS.out]) | (go_at_call 62; refine (HIN.out _).mono ?_; rintro e w0 ⟨rfl, rfl⟩; rw [HI.out]) | (go_at_call_of 63 l; refine (specFin_any l _ hl).mono ?_; rintro e w1 ⟨rfl, n1, rfl⟩; rw [HL.out]) | (go_at_call_of 63 r; refine (specFin_any r _ hr).mono ?_; rintro e w2 ⟨rfl, n2, rfl⟩; rw [HR.out]))
        exact bodyPost_ret (v := .tuple #[.agg #[.int .i64 0, .int .i64 0, .slice none 0 0], .bool false]) (by simp [results, Try.results26, go_sem]) rfl (retPc_no _ _ (by first | exact HBX.out | exact below_drawn HBX.out _ | exact (((below_drawn HBX.out _).setCell (p := ⟨w.heap.size, 0, none⟩) (Nat.le_refl _) _).setCell (p := ⟨w.heap.size, 1, none⟩) (Nat.le_refl _) _).setCell (p := ⟨w.heap.size, 2, none⟩) (Nat.le_refl _) _))
      | true =>
        have HL := Lib.hid hfl
        cases hfr : finB .f32 r with
        | false =>
          have HR := Lib.hid hfr
          rw [retSt_no (by unfold okS; rw [hfr]; simp)]
          go_enter Try.func26, Try.ntmps26
          go_wp2_with (first | (go_at_call 55; refine (HSS.out _).mono ?_; rintro e w0 ⟨rfl, rfl⟩; rw [HS.out]) | (go_at_call 62; refine (HIN.out _).mono ?_; rintro e w0 ⟨rfl, rfl⟩; rw [HI.out]) | (go_at_call_of 63 l; refine (specFin_any l _ hl).mono ?_; rintro e w1 ⟨rfl, n1, rfl⟩; rw [HL.out]) | (go_at_call_of 63 r; refine (specFin_any r _ hr).mono ?_; rintro e w2 ⟨rfl, n2, rfl⟩; rw [HR.out]))
          exact bodyPost_ret (v := .tuple #[.agg #[.int .i64 0, .int .i64 0, .slice none 0 0], .bool false]) (by simp [results, Try.results26, go_sem]) rfl (retPc_no _ _ (by first | exact HBX.out | exact below_drawn HBX.out _ | exact (((below_drawn HBX.out _).setCell (p := ⟨w.heap.size, 0, none⟩) (Nat.le_refl _) _).setCell (p := ⟨w.heap.size, 1, none⟩) (Nat.le_refl _) _).setCell (p := ⟨w.heap.size, 2, none⟩) (Nat.le_refl _) _))
        | true =>
          have HR := Lib.hid hfr
          have hok : okS at_ l r = true := by unfold okS; rw [hi, hfl, hfr]; rfl
          have hpc := pcB_st hok hs
          rw [retSt_yes hok]
          obtain ⟨b1, b2⟩ := ssB_out hs
          have HE := Lib.hid (stF_grd p q at_ l r b1.1 hl hr)
          have HST := Lib.hid (fun n => stS_any p q at_ l r ((w.alloc (.cells #[.int .i64 0, .int .i64 0, .slice none 0 0] 27)).drewN n) b1 b2)
          obtain ⟨g, hg⟩ : ∃ g : Nat → Nat → Nat, g = stG at_ l r := ⟨_, rfl⟩
          rw [← hg] at HE hpc ⊢
          have heq := isLs_eq HE.out (by unfold pcB at hpc; rw [Bool.and_eq_true] at hpc; exact hpc.2)
          rw [retGr_yes hpc]
          rw [heq] at HST
          clear heq HE hpc hok hi hfl hfr hg hs b1 b2
          go_enter Try.func26, Try.ntmps26
          go_wp2_with (first | (go_at_call 55; refine (HSS.out _).mono ?_; rintro e w0 ⟨rfl, rfl⟩; rw [HS.out]) | (go_at_call 62; refine (HIN.out _).mono ?_; rintro e w0 ⟨rfl, rfl⟩; rw [HI.out]) | (go_at_call_of 63 l; refine (specFin_any l _ hl).mono ?_; rintro e w1 ⟨rfl, n1, rfl⟩; rw [HL.out]) | (go_at_call_of 63 r; refine (specFin_any r _ hr).mono ?_; rintro e w2 ⟨rfl, n2, rfl⟩; rw [HR.out]))
          refine (HST.out _).mono ?_
          rintro e w5 ⟨v, rfl, ho5, hb5⟩
          obtain ⟨hc6, hf6⟩ := bcell hb5
          have r0 : w5.cell? ⟨w.heap.size, 0, none⟩ = some (.int .i64 0) := (hc6 _ _ (by simp)).trans (by simp [go_sem])
          have r1 : w5.cell? ⟨w.heap.size, 1, none⟩ = some (.int .i64 0) := (hc6 _ _ (by simp)).trans (by simp [go_sem])
          have r2 : w5.cell? ⟨w.heap.size, 2, none⟩ = some (.slice none 0 0) := (hc6 _ _ (by simp)).trans (by simp [go_sem])
          have e0 : w5.frozen? ⟨w.heap.size, 0, none⟩ = false := (hf6 _ _ (by simp)).trans (by simp [go_sem])
          have e1 : w5.frozen? ⟨w.heap.size, 1, none⟩ = false := (hf6 _ _ (by simp)).trans (by simp [go_sem])
          have e2 : w5.frozen? ⟨w.heap.size, 2, none⟩ = false := (hf6 _ _ (by simp)).trans (by simp [go_sem])
          have hb7 : Below w.heap.size w w5 := (below_drawn HBX.out _).trans (hb5.mono (by simp))
          have ho6 := Lib.hid (ho5.less (lo' := w.heap.size + 1) (by simp))
          clear hc6 hf6 hb5 ho5
          obtain ⟨A5, c5, hv5, _, _, _⟩ := id ho6.out
          subst hv5
          have HB := Lib.hid (((hb7.setCell (p := ⟨w.heap.size, 0, none⟩) (Nat.le_refl _) (.int .i64 p)).setCell (p := ⟨w.heap.size, 1, none⟩) (Nat.le_refl _) (.int .i64 q)).setCell (p := ⟨w.heap.size, 2, none⟩) (Nat.le_refl _) (.slice A5 (fl (grd p q g)).length c5))
          have HOF := Lib.hid ((((ho6.out.setLess (a := ⟨w.heap.size, 0, none⟩) (Nat.lt_succ_self _) (.int .i64 p)).setLess (a := ⟨w.heap.size, 1, none⟩) (Nat.lt_succ_self _) (.int .i64 q)).setLess (a := ⟨w.heap.size, 2, none⟩) (Nat.lt_succ_self _) (.slice A5 (fl (grd p q g)).length c5)).less (lo' := w.heap.size) (Nat.le_succ _))
          clear hb7
          go_wp2_with fail
          exact bodyPost_ret (v := .tuple #[.agg #[.int .i64 p, .int .i64 q, .slice A5 (fl (grd p q g)).length c5], .bool true]) (by simp [results, Try.results26, go_sem, r0, r1, r2]) rfl ⟨_, rfl, HOF.out, HB.out⟩
end Go.Proofs.Ytgfdgcoimfjhbaa
