/-
  Contract: a list is lifted by a scheme, by the program.
-/
import Derived.Test.YtfbdmhkmkmbipaaLsk
namespace Go.Proofs.Ytfbdmhkmkmbipaa
open Go.RowKit Fl
set_option linter.unusedVariables false
set_option maxRecDepth 100000

def RetF2 (xs : List Nat) (w : World) (e : Ending) (w' : World) : Prop :=
  ∃ Av cv Au cu, e = .returned (.tuple #[.slice Av ((xs.length + 1) / 2) cv, .slice Au (xs.length / 2) cu]) ∧ Own w' w.heap.size (.slice Av ((xs.length + 1) / 2) cv) (fl (evN xs)) ∧ Own w' w.heap.size (.slice Au (xs.length / 2) cu) (fl (odN xs)) ∧ Apart (.slice Au (xs.length / 2) cu) (.slice Av ((xs.length + 1) / 2) cv) ∧ Below w.heap.size w w'
theorem half_sl (vl : Value) (xs : List Nat) (w : World) (h : Rd w w.heap.size vl (fl xs)) (hm : xs.length ≤ 1048576) (hp : 1 ≤ xs.length) :
    Calls Try.prog 120 #[vl] w (RetF2 xs w) := by
  refine (half_any vl xs w h hm hp).mono ?_
  rintro e w' ⟨v, u, rfl, hV, hU, hA, hB⟩
  obtain ⟨Av, cv, hv, _⟩ := id hV
  obtain ⟨Au, cu, hu, _⟩ := id hU
  rw [fl_len, evN_len] at hv
  rw [fl_len, odN_len] at hu
  subst hv hu
  exact ⟨_, _, _, _, rfl, hV, hU, hA, hB⟩
set_option maxHeartbeats 8000000 in
theorem lsI_any (s : Nat) (ws xs : List Nat) (vw vx : Value) (w : World) (hrw : Rd w w.heap.size vw (fl ws)) (hrx : Rd w w.heap.size vx (fl xs)) (hw8 : 1 ≤ ws.length ∧ ws.length ≤ 8) (hx1 : 1 ≤ xs.length) (hx128 : xs.length ≤ 128)
    (hfw : finA ws = true) (hwx : ∀ x ∈ ws, x < 2 ^ 32) (hfx : finA xs = true) (hx : ∀ x ∈ xs, x < 2 ^ 32) (hfs : finB .f32 s = true) (hs : s < 2 ^ 32) :
    Calls Try.prog 62 #[.agg #[vw, .float .f32 s], vx] w (RetLp (loE ws s xs) (loO ws s xs) w) := by
  obtain ⟨w1, hw1⟩ : ∃ w1, w1 = (w.alloc (Obj.cells #[vw, .float .f32 s] 29)) := ⟨_, rfl⟩
  have hb01 : Below w.heap.size w w1 := by rw [hw1]; exact (Below.refl _ _).alloc (Nat.le_refl _) _
  have HB01 := Lib.hid hb01
  have hg : w.heap.size < w1.heap.size := by rw [hw1]; simp
  have K0 := Lib.hid (show w1.cell? ⟨w.heap.size, 0, none⟩ = some vw by rw [hw1]; exact (cell_of_row _ _ _ _ _ _ (heap_alloc_new w _)).trans rfl)
  have K1 := Lib.hid (show w1.cell? ⟨w.heap.size, 1, none⟩ = some (.float .f32 s) by rw [hw1]; exact (cell_of_row _ _ _ _ _ _ (heap_alloc_new w _)).trans rfl)
  have HRW := Lib.hid ((hrw.below hb01).more (Nat.le_of_lt hg))
  have HRX := Lib.hid ((hrx.below hb01).more (Nat.le_of_lt hg))
  have HW1 := Lib.hid hw1
  clear hw1 hb01 hrw hrx
  have hsf : ∀ (a : Addr) (x : Nat) (w : World), (store a (.float .f32 x)).run Try.prog w = stored Try.prog w a (.float .f32 x) .plain := fun a x w => run_store _ w a _ _ rfl
  obtain ⟨Aw, cw, hvw, _, _, hcw⟩ := id HRW.out
  rw [fl_len] at hvw hcw
  subst hvw
  obtain ⟨bw, ofw, rfl, hbw, hcw⟩ := hcw (by omega)
  have HW := Lib.hid (fun (i : Nat) (h : i < ws.length) => hcw i _ (fl_get ws i h))
  clear hcw
  by_cases h2 : 2 ≤ xs.length
  · obtain ⟨l1, l2⟩ := lo_more (ws := ws) (s := s) (xs := xs) h2
    have HL1 := Lib.hid l1
    have HL2 := Lib.hid l2
    clear l1 l2
    have hz : 0 < xs.length / 2 := by omega
    have hzb : (((xs.length : Int) / 2) == 0) = false := by rw [beq_eq_false_iff_ne]; omega
    go_enter Try.func62, Try.ntmps62
    go_wp2_with (go_at_call 120; rw [← HW1.out]; refine (half_sl vx xs w1 HRX.out (by omega) hx1).mono ?_; rintro e wr ⟨Av, cv, Au, cu, rfl, hV, hU, hAP, hB⟩; have hsv := (hB.cell (p := ⟨w.heap.size, 0, none⟩) hg).trans K0.out; obtain ⟨Av1, cv1, hv1, _, _, hcv⟩ := id hV; injection hv1 with e1 e2 e3; subst e1 e3; obtain ⟨bv, ov, rfl, _⟩ := hcv (by rw [fl_len, evN_len]; omega); obtain ⟨Au1, cu1, hu1, _, _, hcu⟩ := id hU; injection hu1 with e4 e5 e6; subst e4 e6; obtain ⟨bu, ou, rfl, _⟩ := hcu (by rw [fl_len, odN_len]; omega); clear hcv hcu e2 e5; have HV := Lib.hid hV; have HU := Lib.hid hU; have HAP := Lib.hid hAP; have HB := Lib.hid hB; clear hV hU hAP hB)
    go_wp2_with fail
    clear hsv
    try rw [hzb]
    go_loopw [6, 7, 23] (fun _ _ => WtR w1 ws xs (.slice (some ⟨bv, ov, none⟩) ((xs.length + 1) / 2) cv) (.slice (some ⟨bu, ou, none⟩) (xs.length / 2) cu)) (fun _ _ i _ => ws.length - (intOf i).toNat)
    case atStart => exact ⟨0, evN xs, odN xs, Nat.zero_le _, rfl, HV.out, isL_self (evN_fin hfx) (evN_mem hx), HU.out, isL_self (odN_fin hfx) (odN_mem hx), HB.out⟩
    case round =>
      clear HV HU HB
      obtain ⟨k, cE, cO, hk, rfl, ho, hE, hp, hO, hb⟩ := hrel
      have hlE : cE.length = (xs.length + 1) / 2 := by rw [hE.1, (wgK_len ws (evN xs) (odN xs) k).1, evN_len]
      have hlO : cO.length = xs.length / 2 := by rw [hO.1, (wgK_len ws (evN xs) (odN xs) k).2, odN_len]
      by_cases hlt : k < ws.length
      · have hwk := (hb.cell (p := ⟨bw, ofw + k, none⟩) hbw).trans (HW.out k hlt)
        have hwi : Is .f32 ws[k] (ws.getD k 0) := by have := (isL_self hfw hwx).2 k; simpa [List.getD, hlt] using this
        have hwe : ws.getD k 0 = ws[k] := by simp [List.getD, hlt]
        rw [hwe] at hwi
        have HWE := Lib.hid hwe
        clear hwe
        generalize ws[k] = wt at *
        have HB := Lib.hid hb
        have hki : (k : Int) < (ws.length : Int) := by omega
        by_cases he : k % 2 = 0
        · have HC := Lib.hid (stp_run k wt (.slice (some ⟨bv, ov, none⟩) ((xs.length + 1) / 2) cv) (.slice (some ⟨bu, ou, none⟩) (xs.length / 2) cu) cE _ cO _ _ w1.heap.size he hb.size hwi hp ho HAP.out hE hO (by omega) (by omega))
          have HT := Lib.hid (stepE_any k wt · he)
          have HE := Lib.hid hE
          have HO := Lib.hid hO
          have HEV := Lib.hid (wgK_even ws (evN xs) (odN xs) k he)
          rw [HWE.out] at HEV
          clear ho hp hE hO he hwi hb
          go_wp2_with (first | (go_at_call 121; refine (HT.out _).mono ?_; rintro e w2 ⟨rfl, rfl⟩) | (go_at_call 141; refine HC.out.mono ?_; rintro e w3 ⟨rfl, cur, q1, q2, q3, q4⟩))
          go_wp2_with fail
          have hbn := (HB.out.alloc HB.out.size _).trans q4
          go_roundw
          case rel => exact ⟨k + 1, cE, cur, by omega, by go_num, q3, by rw [HEV.out]; exact HE.out, q1, by rw [HEV.out]; exact q2, hbn⟩
          case measure => simp [intOf]; omega
        · have he1 : k % 2 = 1 := by omega
          have HC := Lib.hid (stp_runE k wt (.slice (some ⟨bv, ov, none⟩) ((xs.length + 1) / 2) cv) (.slice (some ⟨bu, ou, none⟩) (xs.length / 2) cu) cE _ cO _ _ w1.heap.size he1 hb.size hwi ho hp HAP.out.symm hO hE (by omega) (by omega) (by omega))
          have HT := Lib.hid (stepO_any k wt · he1)
          have HE := Lib.hid hE
          have HO := Lib.hid hO
          have HEV := Lib.hid (wgK_odd ws (evN xs) (odN xs) k he1)
          rw [HWE.out] at HEV
          clear ho hp hE hO he hwi hb he1
          go_wp2_with (first | (go_at_call 121; refine (HT.out _).mono ?_; rintro e w2 ⟨rfl, rfl⟩) | (go_at_call 143; refine HC.out.mono ?_; rintro e w3 ⟨rfl, cur, q1, q2, q3, q4⟩))
          go_wp2_with fail
          have hbn := (HB.out.alloc HB.out.size _).trans q4
          go_roundw
          case rel => exact ⟨k + 1, cur, cO, by omega, by go_num, q1, by rw [HEV.out]; exact q2, q3, by rw [HEV.out]; exact HO.out, hbn⟩
          case measure => simp [intOf]; omega
      · obtain rfl : k = ws.length := by omega
        have HV := Lib.hid ho
        have HE := Lib.hid hE
        have HU := Lib.hid hp
        have HO := Lib.hid hO
        have HB := Lib.hid hb
        clear ho hE hp hO hb
        have HIS := Lib.hid (show Is .f32 s s from is_fin hfs hs)
        generalize (wgK ws (evN xs) (odN xs) ws.length).1 = tE at *
        generalize (wgK ws (evN xs) (odN xs) ws.length).2 = tO at *
        have httE : tE.length = (xs.length + 1) / 2 := by rw [← HE.out.1, hlE]
        have HI := Lib.hid (show IsL cE (prN tE (scF .mul s tE) 0) by rw [prN_zero]; exact HE.out)
        have HN := Lib.hid (show prN tE (scF .mul s tE) tE.length = loE ws s xs by rw [HL1.out]; exact prN_all _ _)
        have HF := Lib.hid (show ∀ k : Nat, scF .mul s tE k = ar .mul .f32 (tE.getD k 0) s from fun k => rfl)
        generalize scF .mul s tE = fg at *
        go_wp2_with fail
        go_loopw [8, 37] (fun _ => WgR w1 w1.heap.size (.slice (some ⟨bv, ov, none⟩) ((xs.length + 1) / 2) cv) (.slice (some ⟨bu, ou, none⟩) (xs.length / 2) cu) cO tE fg) (fun _ i _ => tE.length - (intOf i).toNat)
        case atStart => exact ⟨0, cE, Nat.zero_le _, rfl, HV.out, HI.out, HU.out, HB.out⟩
        case round =>
          clear HV HU HB
          obtain ⟨k, cur, hk, rfl, ho, hi, hr, hb⟩ := hrel
          have hcl : cur.length = (xs.length + 1) / 2 := by rw [hi.1, prN_len, httE]
          by_cases hlt : k < (xs.length + 1) / 2
          · obtain ⟨hlo, hbw1, hcc, hff⟩ := ho.cells' (by omega)
            have hdst := (hcc k _ (fl_get cur k (by omega))).trans (show _ = some (Value.float .f32 (cur.getD k 0)) by simp [List.getD, show k < cur.length by omega])
            have hfz := hff k hlt
            have hs1 := (hb.cell (p := ⟨w.heap.size, 1, none⟩) hg).trans K1.out
            have hc0 := Lib.hid (show Is .f32 (cur.getD k 0) (tE.getD k 0) by have := hi.2 k; rw [prN_at] at this; exact this)
            have HFk := Lib.hid (HF.out k)
            have HS := Lib.hid (fun r (hr : Is .f32 r (fg k)) => hi.set (by omega) hr)
            have HP := Lib.hid (fun N r => (ho.drewN N).put k hlt (.float .f32 r))
            have HR := Lib.hid (fun N r => own_put (hr.drewN N) HAP.out.symm hlt (.float .f32 r))
            have HB := Lib.hid hb
            generalize cur.getD k 0 = x0 at *
            generalize tE.getD k 0 = cx0 at *
            have hki : (k : Int) < ((xs.length : Int) + 1) / 2 := by omega
            clear hcc hff hr hb ho hi
            go_wp2_with fail
            refine Sf.wp_soft [false, false, false, false, false, false, false, true, true] [true, true, true, true, true, true, true, false, false] (fun i => if i = 6 then 0 else 1) (fun _ => undef) (by kernel_rfl) (by kernel_rfl) (by kernel_rfl) ?_
            simp only [Sf.tl]
            refine Sf.lx_one rfl rfl (fun K hK => Sf.dft_quiet rfl ?_)
            go_big_quiet_op
            refine hK _ ?_
            clear hK K
            refine Sf.lx_one rfl rfl (fun K hK => Sf.dft_quiet rfl ?_)
            go_big_quiet_op
            refine hK _ ?_
            clear hK K
            refine Sf.lx_one rfl rfl (fun K hK => Sf.dft_quiet rfl ?_)
            go_big_quiet_op
            refine hK _ ?_
            clear hK K
            refine Sf.lx_one rfl rfl (fun K hK => Sf.dft_quiet rfl ?_)
            go_big_quiet_op
            refine hK _ ?_
            clear hK K
            refine Sf.lx_one rfl rfl (fun K hK => Sf.dft_quiet rfl ?_)
            go_big_quiet_op
            refine hK _ ?_
            clear hK K
            refine Sf.lx_one rfl rfl (fun K hK => Sf.dft_quiet rfl ?_)
            go_big_quiet_op
            refine hK _ ?_
            clear hK K
            refine Sf.lx_fl rfl rfl (fun K hK => Sf.sft_ar (k := .f32) rfl rfl rfl rfl (hc0.out) (HIS.out) (fun r46 hr46 => hK _ ?_))
            clear hK K
            simp only [Act.put, List.setIfInBounds_toArray, List.set_cons_zero, List.set_cons_succ]
            refine Sf.lx_over ?_
            refine Sf.lx_over ?_
            refine Sf.lx_nil ?_
            rintro _ ⟨nq, rfl⟩
            go_wp2_with fail
            go_roundw
            case rel => exact ⟨k + 1, cur.set k r46, by omega, by go_num, by rw [← fl_set]; exact HP.out _ r46, HS.out r46 (by rw [HFk.out]; exact hr46), HR.out _ r46, (below_drawn HB.out _).setCell hlo _⟩
            case measure => simp [intOf]; omega
          · obtain rfl : k = (xs.length + 1) / 2 := by omega
            have HE := Lib.hid (show IsL cur (loE ws s xs) by rw [← HN.out, httE]; exact hi)
            have HV := Lib.hid ho
            have HU := Lib.hid hr
            have HB := Lib.hid hb
            clear hi ho hr hb HI HN HF
            generalize cur = cF at *
            have httO : tO.length = xs.length / 2 := by rw [← HO.out.1, hlO]
            have HI := Lib.hid (show IsL cO (prN tO (scF .quo s tO) 0) by rw [prN_zero]; exact HO.out)
            have HN := Lib.hid (show prN tO (scF .quo s tO) tO.length = loO ws s xs by rw [HL2.out]; exact prN_all _ _)
            have HF := Lib.hid (show ∀ k : Nat, scF .quo s tO k = ar .quo .f32 (tO.getD k 0) s from fun k => rfl)
            generalize scF .quo s tO = fg at *
            go_wp2_with fail
            go_loopw [9, 51] (fun _ => WgR w1 w1.heap.size (.slice (some ⟨bu, ou, none⟩) (xs.length / 2) cu) (.slice (some ⟨bv, ov, none⟩) ((xs.length + 1) / 2) cv) cF tO fg) (fun _ i _ => tO.length - (intOf i).toNat)
            case atStart => exact ⟨0, cO, Nat.zero_le _, rfl, HU.out, HI.out, HV.out, HB.out⟩
            case round =>
              clear HV HU HB
              obtain ⟨k, cur, hk, rfl, ho, hi, hr, hb⟩ := hrel
              have hcl : cur.length = xs.length / 2 := by rw [hi.1, prN_len, httO]
              by_cases hlt : k < xs.length / 2
              · obtain ⟨hlo, hbw1, hcc, hff⟩ := ho.cells' (by omega)
                have hdst := (hcc k _ (fl_get cur k (by omega))).trans (show _ = some (Value.float .f32 (cur.getD k 0)) by simp [List.getD, show k < cur.length by omega])
                have hfz := hff k hlt
                have hs1 := (hb.cell (p := ⟨w.heap.size, 1, none⟩) hg).trans K1.out
                have hc0 := Lib.hid (show Is .f32 (cur.getD k 0) (tO.getD k 0) by have := hi.2 k; rw [prN_at] at this; exact this)
                have HFk := Lib.hid (HF.out k)
                have HS := Lib.hid (fun r (hr : Is .f32 r (fg k)) => hi.set (by omega) hr)
                have HP := Lib.hid (fun N r => (ho.drewN N).put k hlt (.float .f32 r))
                have HR := Lib.hid (fun N r => own_put (hr.drewN N) HAP.out hlt (.float .f32 r))
                have HB := Lib.hid hb
                generalize cur.getD k 0 = x0 at *
                generalize tO.getD k 0 = cx0 at *
                have hki : (k : Int) < (xs.length : Int) / 2 := by omega
                clear hcc hff hr hb ho hi
                go_wp2_with fail
                refine Sf.wp_soft [false, false, false, false, false, false, false, true, true] [true, true, true, true, true, true, true, false, false] (fun i => if i = 6 then 0 else 1) (fun _ => undef) (by kernel_rfl) (by kernel_rfl) (by kernel_rfl) ?_
                simp only [Sf.tl]
                refine Sf.lx_one rfl rfl (fun K hK => Sf.dft_quiet rfl ?_)
                go_big_quiet_op
                refine hK _ ?_
                clear hK K
                refine Sf.lx_one rfl rfl (fun K hK => Sf.dft_quiet rfl ?_)
                go_big_quiet_op
                refine hK _ ?_
                clear hK K
                refine Sf.lx_one rfl rfl (fun K hK => Sf.dft_quiet rfl ?_)
                go_big_quiet_op
                refine hK _ ?_
                clear hK K
                refine Sf.lx_one rfl rfl (fun K hK => Sf.dft_quiet rfl ?_)
                go_big_quiet_op
                refine hK _ ?_
                clear hK K
                refine Sf.lx_one rfl rfl (fun K hK => Sf.dft_quiet rfl ?_)
                go_big_quiet_op
                refine hK _ ?_
                clear hK K
                refine Sf.lx_one rfl rfl (fun K hK => Sf.dft_quiet rfl ?_)
                go_big_quiet_op
                refine hK _ ?_
                clear hK K
                refine Sf.lx_fl rfl rfl (fun K hK => Sf.sft_ar (k := .f32) rfl rfl rfl rfl (hc0.out) (HIS.out) (fun r60 hr60 => hK _ ?_))
                clear hK K
                simp only [Act.put, List.setIfInBounds_toArray, List.set_cons_zero, List.set_cons_succ]
                refine Sf.lx_over ?_
                refine Sf.lx_over ?_
                refine Sf.lx_nil ?_
                rintro _ ⟨nq, rfl⟩
                go_wp2_with fail
                go_roundw
                case rel => exact ⟨k + 1, cur.set k r60, by omega, by go_num, by rw [← fl_set]; exact HP.out _ r60, HS.out r60 (by rw [HFk.out]; exact hr60), HR.out _ r60, (below_drawn HB.out _).setCell hlo _⟩
                case measure => simp [intOf]; omega
              · obtain rfl : k = xs.length / 2 := by omega
                have HO := Lib.hid (show IsL cur (loO ws s xs) by rw [← HN.out, httO]; exact hi)
                have HU := Lib.hid ho
                have HV := Lib.hid hr
                have HB := Lib.hid hb
                clear hi ho hr hb HI HN HF
                generalize cur = cG at *
                go_wp2_with fail
                exact bodyPost_ret (v := .tuple #[(.slice (some ⟨bv, ov, none⟩) ((xs.length + 1) / 2) cv), (.slice (some ⟨bu, ou, none⟩) (xs.length / 2) cu)]) (by simp [results, Try.results62, go_sem]) rfl ⟨(.slice (some ⟨bv, ov, none⟩) ((xs.length + 1) / 2) cv), (.slice (some ⟨bu, ou, none⟩) (xs.length / 2) cu), cF, cG, rfl, HV.out.less (Nat.le_of_lt hg), HE.out, HU.out.less (Nat.le_of_lt hg), HO.out, HAP.out, HB01.out.trans (HB.out.mono (Nat.le_of_lt hg))⟩
  · obtain ⟨l1, l2⟩ := lo_one (ws := ws) (s := s) (xs := xs) (by omega)
    have hz : xs.length / 2 = 0 := by omega
    have HSE := Lib.hid (show IsL (evN xs) (loE ws s xs) by rw [l1]; exact isL_self (evN_fin hfx) (evN_mem hx))
    have HSO := Lib.hid (show IsL (odN xs) (loO ws s xs) by rw [l2]; exact isL_self (odN_fin hfx) (odN_mem hx))
    clear l1 l2 h2
    go_enter Try.func62, Try.ntmps62
    go_wp2_with (go_at_call 120; rw [← HW1.out]; refine (half_sl vx xs w1 HRX.out (by omega) hx1).mono ?_; rintro e wr ⟨Av, cv, Au, cu, rfl, hV, hU, hAP, hB⟩; have HV := Lib.hid hV; have HU := Lib.hid hU; have HAP := Lib.hid hAP; have HB := Lib.hid hB; clear hV hU hAP hB)
    go_wp2_with fail
    exact bodyPost_ret (v := .tuple #[.slice Av ((xs.length + 1) / 2) cv, .slice Au (xs.length / 2) cu]) (by simp [results, Try.results62, go_sem, hz]) rfl ⟨.slice Av ((xs.length + 1) / 2) cv, .slice Au (xs.length / 2) cu, evN xs, odN xs, rfl, HV.out.less (Nat.le_of_lt hg), HSE.out, HU.out.less (Nat.le_of_lt hg), HSO.out, HAP.out, HB01.out.trans (HB.out.mono (Nat.le_of_lt hg))⟩
end Go.Proofs.Ytfbdmhkmkmbipaa
