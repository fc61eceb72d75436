/-
  Contract: evens and odds are dropped by a scheme, by the program.
-/
import Derived.Test.YtfbdmhkmkmbipaaDsk
namespace Go.Proofs.Ytfbdmhkmkmbipaa
open Go.RowKit Fl Go.Shelf
set_option linter.unusedVariables false
set_option maxRecDepth 100000
attribute [local go_sem] Oper.semAt_some
set_option linter.unusedSimpArgs false
set_option maxHeartbeats 8000000 in
theorem dsI_any (s : Nat) (ws low high : List Nat) (vw vl vh : Value) (w : World) (hrw : Rd w w.heap.size vw (fl ws)) (hrl : Rd w w.heap.size vl (fl low)) (hrh : Rd w w.heap.size vh (fl high)) (hw8 : 1 ≤ ws.length ∧ ws.length ≤ 8) (hl1 : 1 ≤ low.length) (hl64 : low.length ≤ 64) (hlh : high.length = low.length ∨ high.length + 1 = low.length)
    (hfw : finA ws = true) (hwx : ∀ x ∈ ws, x < 2 ^ 32) (hfl : finA low = true) (hlx : ∀ x ∈ low, x < 2 ^ 32) (hfh : finA high = true) (hhx : ∀ x ∈ high, x < 2 ^ 32) (hfs : finB .f32 s = true) (hs : s < 2 ^ 32) :
    Calls Try.prog 68 #[.agg #[vw, .float .f32 s], vl, vh] w (RetD (dpL ws s low high) w) := by
  obtain ⟨w1, hw1⟩ : ∃ w1, w1 = (w.alloc (Obj.cells #[vw, .float .f32 s] 29)) := ⟨_, rfl⟩
  have hb01 : Below w.heap.size w w1 := by rw [hw1]; exact (Below.refl _ _).alloc (Nat.le_refl _) _
  have HB01 := Lib.hid hb01
  have hg : w.heap.size < w1.heap.size := by rw [hw1]; simp
  have K0 := Lib.hid (show w1.cell? ⟨w.heap.size, 0, none⟩ = some vw by rw [hw1]; exact (cell_of_row _ _ _ _ _ _ (heap_alloc_new w _)).trans rfl)
  have K1 := Lib.hid (show w1.cell? ⟨w.heap.size, 1, none⟩ = some (.float .f32 s) by rw [hw1]; exact (cell_of_row _ _ _ _ _ _ (heap_alloc_new w _)).trans rfl)
  have HRW := Lib.hid ((hrw.below hb01).more (Nat.le_of_lt hg))
  have HRL := Lib.hid ((hrl.below hb01).more (Nat.le_of_lt hg))
  have HRH := Lib.hid ((hrh.below hb01).more (Nat.le_of_lt hg))
  have HW1 := Lib.hid hw1
  clear hw1 hb01 hrw hrl hrh
  have hsf : ∀ (a : Addr) (x : Nat) (w : World), (store a (.float .f32 x)).run Try.prog w = stored Try.prog w a (.float .f32 x) .plain := fun a x w => run_store _ w a _ _ rfl
  obtain ⟨Aw, cw, hvw, _, _, hcw⟩ := id HRW.out
  rw [fl_len] at hvw hcw
  subst hvw
  obtain ⟨bw, ofw, rfl, hbw, hcw⟩ := hcw (by omega)
  have HW := Lib.hid (fun (i : Nat) (h : i < ws.length) => hcw i _ (fl_get ws i h))
  clear hcw
  by_cases h1 : 1 ≤ high.length
  · refine (callsIn_wide (n := 6)).1 ?_
    refine callsIn_of_wp_marks Try.func68 rfl trivial ?_ rfl
    refine wpIn_wide.2 ?_
    simp only [Try.ntmps68, List.size_toArray, List.length_cons, List.length_nil, Nat.reduceAdd, Nat.reduceSub, Array.replicate_succ, Array.replicate_zero, List.push_toArray, List.append_toArray, List.nil_append, List.cons_append]
    go_wp2_with (first | (go_at_call 82; (with_reducible refine (cloneB vh high w2 (HRH.out.step HB2.out) (by omega) h1).mono ?_); rintro e w3 ⟨bu, ou, cu, rfl, O3, g3, s3, B3⟩; have HO3 := Lib.hid O3; have HG3 := Lib.hid g3; have HS3 := Lib.hid s3; have HB3 := Lib.hid B3; clear O3 B3 g3 s3) | (go_at_call 82; rw [← HW1.out]; (with_reducible refine (cloneB vl low w1 HRL.out (by omega) hl1).mono ?_); rintro e w2 ⟨bv, ov, cv, rfl, O2, g2, s2, B2⟩; have HO2 := Lib.hid O2; have HG2 := Lib.hid g2; have HS2 := Lib.hid s2; have HB2 := Lib.hid B2; clear O2 B2 g2 s2))
    go_wp2_with fail
    obtain ⟨w4, hw4⟩ : ∃ w4, w4 = ((w3.alloc (Obj.cells #[(.slice (some ⟨bv, ov, none⟩) low.length cv)] 22)).alloc (Obj.cells #[(.slice (some ⟨bu, ou, none⟩) high.length cu)] 22)) := ⟨_, rfl⟩
    rw [← hw4]
    have hb34 : Below w3.heap.size w3 w4 := by rw [hw4]; exact ((Below.refl _ _).alloc (Nat.le_refl _) _).alloc (by simp) _
    have CE := Lib.hid (show w4.cell? ⟨w3.heap.size, 0, none⟩ = some (.slice (some ⟨bv, ov, none⟩) low.length cv) by rw [hw4]; exact (((Below.refl _ _).alloc (Nat.le_refl _) _).cell (p := ⟨w3.heap.size, 0, none⟩) (by simp)).trans ((cell_of_row _ _ _ _ _ _ (heap_alloc_new w3 _)).trans rfl))
    have CO := Lib.hid (show w4.cell? ⟨w3.heap.size + 1, 0, none⟩ = some (.slice (some ⟨bu, ou, none⟩) high.length cu) by rw [hw4, show w3.heap.size + 1 = (w3.alloc (Obj.cells #[(.slice (some ⟨bv, ov, none⟩) low.length cv)] 22)).heap.size by simp]; exact (cell_of_row _ _ _ _ _ _ (heap_alloc_new _ _)).trans rfl)
    have HSZ := Lib.hid (show w4.heap.size = w3.heap.size + 2 by rw [hw4]; simp)
    have HW4 := Lib.hid hw4
    clear hw4
    have HB := Lib.hid (show Below w1.heap.size w1 w4 from (HB2.out.trans (HB3.out.mono HB2.out.size)).trans (hb34.mono (Nat.le_trans HB2.out.size HB3.out.size)))
    have HV := Lib.hid (show Own w4 w1.heap.size (.slice (some ⟨bv, ov, none⟩) low.length cv) (fl low) from ((HO2.out.below HB3.out).below hb34))
    have HU := Lib.hid (show Own w4 w1.heap.size (.slice (some ⟨bu, ou, none⟩) high.length cu) (fl high) from ((HO3.out.below hb34).less HB2.out.size))
    have hv3 := Nat.lt_of_lt_of_le HS2.out HB3.out.size
    have hu3 := HS3.out
    have HAP := Lib.hid (show Apart (.slice (some ⟨bu, ou, none⟩) high.length cu) (.slice (some ⟨bv, ov, none⟩) low.length cv) from apart_blk (by have h1 := HS2.out; have h2 := HG3.out; omega))
    have HVE := Lib.hid (ne_blk (o := ov) (n := low.length) (c := cv) (show bv ≠ w3.heap.size by omega))
    have HVO := Lib.hid (ne_blk (o := ov) (n := low.length) (c := cv) (show bv ≠ w3.heap.size + 1 by omega))
    have HUE := Lib.hid (ne_blk (o := ou) (n := high.length) (c := cu) (show bu ≠ w3.heap.size by omega))
    have HUO := Lib.hid (ne_blk (o := ou) (n := high.length) (c := cu) (show bu ≠ w3.heap.size + 1 by omega))
    have HIS := Lib.hid (show Is .f32 s s from is_fin hfs hs)
    clear hb34 HO2 HO3
    have HI := Lib.hid (show IsL low (prN low (scF .quo s low) 0) by rw [prN_zero]; exact isL_self hfl hlx)
    have HN := Lib.hid (show prN low (scF .quo s low) low.length = scL .quo s low from prN_all _ _)
    have HF := Lib.hid (show ∀ k : Nat, scF .quo s low k = ar .quo .f32 (low.getD k 0) s from fun k => rfl)
    generalize scF .quo s low = fg at *
    go_wp2_with fail
    go_loopw [9, 23] (fun _ => DgR w4 w1 w1.heap.size (.slice (some ⟨bv, ov, none⟩) low.length cv) (.slice (some ⟨bu, ou, none⟩) high.length cu) high low fg) (fun _ i _ => low.length - (intOf i).toNat)
    case atStart => exact ⟨0, low, Nat.zero_le _, rfl, HV.out, HI.out, HU.out, HB.out, fun _ _ => rfl⟩
    case round =>
      clear HV HU HB
      obtain ⟨k, cur, hk, rfl, ho, hi, hr, hb, hkc⟩ := hrel
      have hcl : cur.length = low.length := by rw [hi.1, prN_len]
      have hbE := (hkc (w3.heap.size) HVE.out).trans CE.out
      have hbO := (hkc (w3.heap.size + 1) HVO.out).trans CO.out
      by_cases hlt : k < low.length
      · obtain ⟨hlo, hbw1, hcc, hff⟩ := ho.cells' (by omega)
        have hdst := (hcc k _ (fl_get cur k (by omega))).trans (show _ = some (Value.float .f32 (cur.getD k 0)) by simp [List.getD, show k < cur.length by omega])
        have hfz := hff k hlt
        have hs1 := (hb.cell (p := ⟨w.heap.size, 1, none⟩) hg).trans K1.out
        have hc0 := Lib.hid (show Is .f32 (cur.getD k 0) (low.getD k 0) by have := hi.2 k; rw [prN_at] at this; exact this)
        have HFk := Lib.hid (HF.out k)
        have HS := Lib.hid (fun r (hr : Is .f32 r (fg k)) => hi.set (by omega) hr)
        have HP := Lib.hid (fun N r => (ho.drewN N).put k hlt (.float .f32 r))
        have HR := Lib.hid (fun N r => own_put (hr.drewN N) HAP.out.symm hlt (.float .f32 r))
        have HB := Lib.hid hb
        have HK := Lib.hid (fun N r => kpc_put hkc (N := N) (k := k) (r := r) hlt)
        generalize cur.getD k 0 = x0 at *
        generalize low.getD k 0 = cx0 at *
        have hki : (k : Int) < (low.length : Int) := by omega
        clear hcc hff hr hb ho hi hkc
        go_wp2_with fail
        refine Sf.wp_soft [false, false, false, false, false, false, false, true, true] [true, true, true, true, true, true, true, false, false] (fun i => if i = 6 then 0 else 1) (fun _ => undef) (by kernel_rfl) (by kernel_rfl) (by kernel_rfl) ?_
        simp only [Sf.tl]
        refine Sf.lx_one rfl rfl (fun K hK => Sf.dft_quiet rfl ?_)
        go_big_quiet_op
        refine hK _ ?_
        clear hK K
        refine Sf.lx_one rfl rfl (fun K hK => Sf.dft_quiet rfl ?_)
        go_big_quiet_op
        refine hK _ ?_
        clear hK K
        refine Sf.lx_one rfl rfl (fun K hK => Sf.dft_quiet rfl ?_)
        go_big_quiet_op
        refine hK _ ?_
        clear hK K
        refine Sf.lx_one rfl rfl (fun K hK => Sf.dft_quiet rfl ?_)
        go_big_quiet_op
        refine hK _ ?_
        clear hK K
        refine Sf.lx_one rfl rfl (fun K hK => Sf.dft_quiet rfl ?_)
        go_big_quiet_op
        refine hK _ ?_
        clear hK K
        refine Sf.lx_one rfl rfl (fun K hK => Sf.dft_quiet rfl ?_)
        go_big_quiet_op
        refine hK _ ?_
        clear hK K
        refine Sf.lx_fl rfl rfl (fun K hK => Sf.sft_ar (k := .f32) rfl rfl rfl rfl (hc0.out) (HIS.out) (fun r32 hr32 => hK _ ?_))
        clear hK K
        simp only [Act.put, List.setIfInBounds_toArray, List.set_cons_zero, List.set_cons_succ]
        refine Sf.lx_over ?_
        refine Sf.lx_over ?_
        refine Sf.lx_nil ?_
        rintro _ ⟨nq, rfl⟩
        go_wp2_with fail
        go_roundw
        case rel => exact ⟨k + 1, cur.set k r32, by omega, by go_num, by rw [← fl_set]; exact HP.out _ r32, HS.out r32 (by rw [HFk.out]; exact hr32), HR.out _ r32, (below_drawn HB.out _).setCell hlo _, HK.out _ _⟩
        case measure => simp [intOf]; omega
      · obtain rfl : k = low.length := by omega
        have HE := Lib.hid (show IsL cur (scL .quo s low) by rw [← HN.out]; exact hi)
        have HV := Lib.hid ho
        have HU := Lib.hid hr
        have HB := Lib.hid hb
        clear hi ho hr hb HI HN HF hkc
        generalize cur = cF at *
        have CE := Lib.hid hbE
        have CO := Lib.hid hbO
        have HI := Lib.hid (show IsL high (prN high (scF .mul s high) 0) by rw [prN_zero]; exact isL_self hfh hhx)
        have HN := Lib.hid (show prN high (scF .mul s high) high.length = scL .mul s high from prN_all _ _)
        have HF := Lib.hid (show ∀ k : Nat, scF .mul s high k = ar .mul .f32 (high.getD k 0) s from fun k => rfl)
        generalize scF .mul s high = fg at *
        go_wp2_with fail
        clear hbE hbO
        go_loopw [10, 37] (fun _ => DgR wr w1 w1.heap.size (.slice (some ⟨bu, ou, none⟩) high.length cu) (.slice (some ⟨bv, ov, none⟩) low.length cv) cF high fg) (fun _ i _ => high.length - (intOf i).toNat)
        case atStart => exact ⟨0, high, Nat.zero_le _, rfl, HU.out, HI.out, HV.out, HB.out, fun _ _ => rfl⟩
        case round =>
          clear HV HU HB
          obtain ⟨k, cur, hk, rfl, ho, hi, hr, hb, hkc⟩ := hrel
          have hcl : cur.length = high.length := by rw [hi.1, prN_len]
          have hbE := (hkc (w3.heap.size) HUE.out).trans CE.out
          have hbO := (hkc (w3.heap.size + 1) HUO.out).trans CO.out
          by_cases hlt : k < high.length
          · obtain ⟨hlo, hbw1, hcc, hff⟩ := ho.cells' (by omega)
            have hdst := (hcc k _ (fl_get cur k (by omega))).trans (show _ = some (Value.float .f32 (cur.getD k 0)) by simp [List.getD, show k < cur.length by omega])
            have hfz := hff k hlt
            have hs1 := (hb.cell (p := ⟨w.heap.size, 1, none⟩) hg).trans K1.out
            have hc0 := Lib.hid (show Is .f32 (cur.getD k 0) (high.getD k 0) by have := hi.2 k; rw [prN_at] at this; exact this)
            have HFk := Lib.hid (HF.out k)
            have HS := Lib.hid (fun r (hr : Is .f32 r (fg k)) => hi.set (by omega) hr)
            have HP := Lib.hid (fun N r => (ho.drewN N).put k hlt (.float .f32 r))
            have HR := Lib.hid (fun N r => own_put (hr.drewN N) HAP.out hlt (.float .f32 r))
            have HB := Lib.hid hb
            have HK := Lib.hid (fun N r => kpc_put hkc (N := N) (k := k) (r := r) hlt)
            generalize cur.getD k 0 = x0 at *
            generalize high.getD k 0 = cx0 at *
            have hki : (k : Int) < (high.length : Int) := by omega
            clear hcc hff hr hb ho hi hkc
            go_wp2_with fail
            refine Sf.wp_soft [false, false, false, false, false, false, false, true, true] [true, true, true, true, true, true, true, false, false] (fun i => if i = 6 then 0 else 1) (fun _ => undef) (by kernel_rfl) (by kernel_rfl) (by kernel_rfl) ?_
            simp only [Sf.tl]
            refine Sf.lx_one rfl rfl (fun K hK => Sf.dft_quiet rfl ?_)
            go_big_quiet_op
            refine hK _ ?_
            clear hK K
            refine Sf.lx_one rfl rfl (fun K hK => Sf.dft_quiet rfl ?_)
            go_big_quiet_op
            refine hK _ ?_
            clear hK K
            refine Sf.lx_one rfl rfl (fun K hK => Sf.dft_quiet rfl ?_)
            go_big_quiet_op
            refine hK _ ?_
            clear hK K
            refine Sf.lx_one rfl rfl (fun K hK => Sf.dft_quiet rfl ?_)
            go_big_quiet_op
            refine hK _ ?_
            clear hK K
            refine Sf.lx_one rfl rfl (fun K hK => Sf.dft_quiet rfl ?_)
            go_big_quiet_op
            refine hK _ ?_
            clear hK K
            refine Sf.lx_one rfl rfl (fun K hK => Sf.dft_quiet rfl ?_)
            go_big_quiet_op
            refine hK _ ?_
            clear hK K
            refine Sf.lx_fl rfl rfl (fun K hK => Sf.sft_ar (k := .f32) rfl rfl rfl rfl (hc0.out) (HIS.out) (fun r46 hr46 => hK _ ?_))
            clear hK K
            simp only [Act.put, List.setIfInBounds_toArray, List.set_cons_zero, List.set_cons_succ]
            refine Sf.lx_over ?_
            refine Sf.lx_over ?_
            refine Sf.lx_nil ?_
            rintro _ ⟨nq, rfl⟩
            go_wp2_with fail
            go_roundw
            case rel => exact ⟨k + 1, cur.set k r46, by omega, by go_num, by rw [← fl_set]; exact HP.out _ r46, HS.out r46 (by rw [HFk.out]; exact hr46), HR.out _ r46, (below_drawn HB.out _).setCell hlo _, HK.out _ _⟩
            case measure => simp [intOf]; omega
          · obtain rfl : k = high.length := by omega
            have HO := Lib.hid (show IsL cur (scL .mul s high) by rw [← HN.out]; exact hi)
            have HU := Lib.hid ho
            have HV := Lib.hid hr
            have HB := Lib.hid hb
            clear hi ho hr hb HI HN HF hkc
            generalize cur = cG at *
            have CE := Lib.hid hbE
            have CO := Lib.hid hbO
            clear hbE hbO
            have K0w := (HB.out.cell (p := ⟨w.heap.size, 0, none⟩) hg).trans K0.out
            go_wp2_with (go_at_call 123; refine (bwd_any _ _ _ _).mono ?_; rintro e w7 ⟨rfl, rfl⟩)
            obtain ⟨w7, hw7⟩ : ∃ w7, w7 = (wr.alloc (Obj.cells #[.slice (some ⟨bw, ofw, none⟩) ws.length cw] 22)) := ⟨_, rfl⟩
            rw [← hw7]
            have hb7 : Below wr.heap.size wr w7 := by rw [hw7]; exact (Below.refl _ _).alloc (Nat.le_refl _) _
            have hs7 : wr.heap.size < w7.heap.size := by rw [hw7]; simp
            have CB : w7.cell? ⟨wr.heap.size, 0, none⟩ = some (.slice (some ⟨bw, ofw, none⟩) ws.length cw) := by rw [hw7]; exact (cell_of_row _ _ _ _ _ _ (heap_alloc_new wr _)).trans rfl
            obtain ⟨_, hvr, _, _⟩ := HV.out.cells' (by omega)
            obtain ⟨_, hur, _, _⟩ := HU.out.cells' (by omega)
            have hgE : w3.heap.size < wr.heap.size := lt_of_cell CE.out
            have hgO : w3.heap.size + 1 < wr.heap.size := lt_of_cell CO.out
            have CE7 := (hb7.cell (p := ⟨w3.heap.size, 0, none⟩) hgE).trans CE.out
            have CO7 := (hb7.cell (p := ⟨w3.heap.size + 1, 0, none⟩) hgO).trans CO.out
            have HV7 := HV.out.below hb7
            have HU7 := HU.out.below hb7
            have HB7 := HB.out.trans (hb7.mono HB.out.size)
            have hws0 : 0 < ws.length := by omega
            have HWC := Lib.hid (show ∀ j, j < ws.length → w7.cell? ⟨bw, ofw + j, none⟩ = some (.float .f32 (ws.getD j 0)) from fun j hj => (HB7.cell (p := ⟨bw, ofw + j, none⟩) hbw).trans ((HW.out j hj).trans (by simp [List.getD, hj])))
            have HEB := Lib.hid (ne_blk (o := ov) (n := low.length) (c := cv) (show bv ≠ wr.heap.size by omega))
            have HUB := Lib.hid (ne_blk (o := ou) (n := high.length) (c := cu) (show bu ≠ wr.heap.size by omega))
            have HGE := Lib.hid hgE
            have HGO := Lib.hid hgO
            have HS7 := Lib.hid hs7
            have HLE := Lib.hid (show (scL .quo s low).length = low.length from scL_len _ _ _)
            have HLO := Lib.hid (show (scL .mul s high).length = high.length from scL_len _ _ _)
            have HDP := Lib.hid (show dpL ws s low high = mrg (dgP ws (scL .quo s low, scL .mul s high) (upB hws0 ws.length)).1 (dgP ws (scL .quo s low, scL .mul s high) (upB hws0 ws.length)).2 by rw [dgP_upB]; unfold dpL; rw [dp_more h1])
            generalize scL .quo s low = tE at *
            generalize scL .mul s high = tO at *
            generalize hq9 : wr.heap.size = gB at *
            clear hq9 hw7 hb7 CE CO HV HU HB hgE hgO hvr hur K0w
            refine rf_own (n := 6) (by omega) (gf := 145) (lb := #[.pointer (some ⟨gB, 0, none⟩)]) rfl (enters_of Try.func145 (by kernel_rfl) rfl) (bwd_stops 5 (by omega) gB w1.heap.size bw ofw cw ws hws0 (by omega) hbw w7 hs7 HB7.size CB HWC.out) kpw_t (kpw_b HB7.size hs7) (Below.refl _ _) (fun _ => rfl) (DiR w1 w7 ws tE tO (.slice (some ⟨bv, ov, none⟩) low.length cv) (.slice (some ⟨bu, ou, none⟩) high.length cu) w3.heap.size (w3.heap.size + 1)) (diR_own HB7.size) ⟨cF, cG, HV7, HE.out, HU7, HO.out, CE7, CO7, HB7, Nat.le_refl _⟩ ?_
            apply Exists.intro
            refine ⟨?assign, ?body, ?done⟩
            case assign =>
              intro l x W K hK
              gi_wp2
              exact hK
            case body =>
              rintro l pre ⟨k, hk⟩ W ⟨cE, cO, ho, hE, hp, hO, hbe, hbo, hb, hsz⟩ _
              have hlE : cE.length = low.length := by rw [hE.1, (dgP_len ws _ pre).1, HLE.out]
              have hlO : cO.length = high.length := by rw [hO.1, (dgP_len ws _ pre).2, HLO.out]
              have hwf : finB .f32 (ws.getD k 0) = true := finD hfw k
              have hwl : ws.getD k 0 < 2 ^ 32 := by rw [List.getD_eq_getElem?_getD, List.getElem?_eq_getElem hk]; exact hwx _ (List.getElem_mem hk)
              have hwi : Is .f32 (ngF (ws.getD k 0)) (ngF (ws.getD k 0)) := is_fin (ng_fin hwl hwf) (ng_lt hwl)
              have HB := Lib.hid hb
              have HSZ7 := Lib.hid hsz
              have hbW : Below W.heap.size W (W.drew.alloc (Obj.cells #[.float .f32 (ngF (ws.getD k 0))] 23)) := (below_drawn (Below.refl _ _) 1).alloc (Nat.le_refl _) _
              have hb9 : gB < W.heap.size := Nat.lt_of_lt_of_le HS7.out hsz
              have hgE9 := Nat.lt_trans HGE.out hb9
              have hgO9 := Nat.lt_trans HGO.out hb9
              have C9E := Lib.hid ((hbW.cell (p := ⟨w3.heap.size, 0, none⟩) hgE9).trans hbe)
              have C9O := Lib.hid ((hbW.cell (p := ⟨w3.heap.size + 1, 0, none⟩) hgO9).trans hbo)
              have C9B := Lib.hid (hbW.cell (p := ⟨gB, 0, none⟩) hb9)
              have HKA := Lib.hid ((KeepsOthers.drew W).trans (KeepsOthers.alloc W.drew (Obj.cells #[.float .f32 (ngF (ws.getD k 0))] 23)))
              have HBA := Lib.hid (hbW.mono HB.out.size)
              by_cases he : k % 2 = 0
              · have HC := Lib.hid (stkO_run k (ngF (ws.getD k 0)) (.slice (some ⟨bv, ov, none⟩) low.length cv) (.slice (some ⟨bu, ou, none⟩) high.length cu) cE _ cO _ W.drew w1.heap.size he hb.size hwi (hp.drewN 1) (ho.drewN 1) HAP.out hE hO (by omega) (by omega))
                have HT := Lib.hid (stepE_any k (ngF (ws.getD k 0)) W.drew he)
                have HEV := Lib.hid (dgP_even ws (tE, tO) pre ⟨k, hk⟩ he)
                have HE2 := Lib.hid hE
                have HO2 := Lib.hid hO
                clear ho hp hE hO he hb hwi hbW
                dsimp only [encB] at *
                unfold ngF at HT HC HEV C9E C9O C9B HKA HBA
                generalize ws.getD k 0 = wt at *
                have hng : Op.unary .neg (.float .f32 wt) = pure (.float .f32 (Op.negFloat .f32 wt)) := rfl
                gi_wp2_with fail
                refine wpIn_held (S := fun w9 => w9.cell? ⟨w3.heap.size, 0, none⟩ = some (.slice (some ⟨bv, ov, none⟩) low.length cv) ∧ w9.cell? ⟨w3.heap.size + 1, 0, none⟩ = some (.slice (some ⟨bu, ou, none⟩) high.length cu)) (by kernel_rfl) (by intro o ho c; simp only [List.mem_toArray, List.mem_cons, List.not_mem_nil, or_false] at ho; rcases ho with rfl | rfl | rfl | rfl | rfl | rfl | rfl <;> (intro h; cases h)) (by rintro ⟨a9, w9, h9⟩; exact h9) ⟨hbe, hbo⟩ (fun hHeld => ?_)
                refine wpAnyH_take (i := 0) (v := ?v0) rfl (by kernel_rfl) (by kernel_rfl) (by kernel_rfl) (fun _ _ _ h => h) (Or.inl ⟨by rfl, ?y0⟩) (by assumption) ?r0
                case y0 => (intro w hSw; (try dsimp only at hSw); go_simp; try (with_reducible rfl))
                try simp only [Act.put, List.setIfInBounds_toArray, List.set_cons_zero, List.set_cons_succ]
                refine wpAnyH_take (i := 1) (v := ?v1) rfl (by kernel_rfl) (by kernel_rfl) (by kernel_rfl) (fun _ _ _ h => h) (Or.inl ⟨by rfl, ?y1⟩) (by assumption) ?r1
                case y1 => (intro w hSw; (try dsimp only at hSw); go_simp; try (with_reducible rfl))
                try simp only [Act.put, List.setIfInBounds_toArray, List.set_cons_zero, List.set_cons_succ]
                refine wpAnyH_take (i := 2) (v := ?v2) rfl (by kernel_rfl) (by kernel_rfl) (by kernel_rfl) (fun _ _ _ h => h) (Or.inl ⟨by rfl, ?y2⟩) (by assumption) ?r2
                case y2 => (intro w hSw; (try dsimp only at hSw); go_simp; try (with_reducible rfl))
                try simp only [Act.put, List.setIfInBounds_toArray, List.set_cons_zero, List.set_cons_succ]
                refine wpAnyH_take (i := 4) (v := ?v3) rfl (by kernel_rfl) (by kernel_rfl) (by kernel_rfl) (fun _ _ _ h => h) (Or.inl ⟨by rfl, ?y3⟩) (by assumption) ?r3
                case y3 => (intro w hSw; (try dsimp only at hSw); go_simp; try (with_reducible rfl))
                try simp only [Act.put, List.setIfInBounds_toArray, List.set_cons_zero, List.set_cons_succ]
                refine wpAnyH_take (i := 5) (v := ?v4) rfl (by kernel_rfl) (by kernel_rfl) (by kernel_rfl) (fun _ _ _ h => h) (Or.inl ⟨by rfl, ?y4⟩) (by assumption) ?r4
                case y4 => (intro w hSw; (try dsimp only at hSw); go_simp; try (with_reducible rfl))
                try simp only [Act.put, List.setIfInBounds_toArray, List.set_cons_zero, List.set_cons_succ]
                refine wpAnyH_ready (rs := [3]) (by kernel_rfl) (by simp) ?_
                refine AllReadyH.cons rfl (fun K hK => ?_) AllReadyH.nil
                go_simp
                go_at_call 121
                refine HT.out.mono ?_
                rintro e w2 ⟨rfl, rfl⟩
                refine hK.out _ _ ⟨C9E.out, C9O.out⟩ (fun hHeld2 => ?_)
                clear hK K hHeld
                try simp only [Act.put, List.setIfInBounds_toArray, List.set_cons_zero, List.set_cons_succ]
                refine wpAnyH_ready (rs := [6]) (by kernel_rfl) (by simp) ?_
                refine AllReadyH.cons rfl (fun K hK => ?_) AllReadyH.nil
                go_simp
                go_at_call 141
                refine HC.out.mono ?_
                rintro e w3 ⟨rfl, cur, q1, q2, q3, q4, q5, q6⟩
                refine hK.out _ _ ⟨(q6 _ HUE.out).trans C9E.out, (q6 _ HUO.out).trans C9O.out⟩ (fun _ => ?_)
                clear hK K hHeld2
                refine wpAnyH_done (by kernel_rfl) ?_ _
                exact ⟨(HKA.out.trans q5).from _, ⟨HBA.out.trans q4, (q6 gB HUB.out).trans C9B.out⟩, cE, cur, q3, by rw [HEV.out]; exact HE2.out, q1, by rw [HEV.out]; exact q2, (q6 _ HUE.out).trans C9E.out, (q6 _ HUO.out).trans C9O.out, HB.out.trans (HBA.out.trans q4), Nat.le_trans HSZ7.out (HKA.out.trans q5).size⟩
              · have he1 : k % 2 = 1 := by omega
                have HC := Lib.hid (stkE_run k (ngF (ws.getD k 0)) (.slice (some ⟨bv, ov, none⟩) low.length cv) (.slice (some ⟨bu, ou, none⟩) high.length cu) cE _ cO _ W.drew w1.heap.size he1 hb.size hwi (ho.drewN 1) (hp.drewN 1) HAP.out.symm hO hE (by omega) (by omega) (by omega))
                have HT := Lib.hid (stepO_any k (ngF (ws.getD k 0)) W.drew he1)
                have HEV := Lib.hid (dgP_odd ws (tE, tO) pre ⟨k, hk⟩ he1)
                have HE2 := Lib.hid hE
                have HO2 := Lib.hid hO
                clear ho hp hE hO he hb hwi hbW he1
                dsimp only [encB] at *
                unfold ngF at HT HC HEV C9E C9O C9B HKA HBA
                generalize ws.getD k 0 = wt at *
                have hng : Op.unary .neg (.float .f32 wt) = pure (.float .f32 (Op.negFloat .f32 wt)) := rfl
                gi_wp2_with fail
                refine wpIn_held (S := fun w9 => w9.cell? ⟨w3.heap.size, 0, none⟩ = some (.slice (some ⟨bv, ov, none⟩) low.length cv) ∧ w9.cell? ⟨w3.heap.size + 1, 0, none⟩ = some (.slice (some ⟨bu, ou, none⟩) high.length cu)) (by kernel_rfl) (by intro o ho c; simp only [List.mem_toArray, List.mem_cons, List.not_mem_nil, or_false] at ho; rcases ho with rfl | rfl | rfl | rfl | rfl | rfl | rfl <;> (intro h; cases h)) (by rintro ⟨a9, w9, h9⟩; exact h9) ⟨hbe, hbo⟩ (fun hHeld => ?_)
                refine wpAnyH_take (i := 0) (v := ?v10) rfl (by kernel_rfl) (by kernel_rfl) (by kernel_rfl) (fun _ _ _ h => h) (Or.inl ⟨by rfl, ?y10⟩) (by assumption) ?r10
                case y10 => (intro w hSw; (try dsimp only at hSw); go_simp; try (with_reducible rfl))
                try simp only [Act.put, List.setIfInBounds_toArray, List.set_cons_zero, List.set_cons_succ]
                refine wpAnyH_take (i := 1) (v := ?v11) rfl (by kernel_rfl) (by kernel_rfl) (by kernel_rfl) (fun _ _ _ h => h) (Or.inl ⟨by rfl, ?y11⟩) (by assumption) ?r11
                case y11 => (intro w hSw; (try dsimp only at hSw); go_simp; try (with_reducible rfl))
                try simp only [Act.put, List.setIfInBounds_toArray, List.set_cons_zero, List.set_cons_succ]
                refine wpAnyH_take (i := 2) (v := ?v12) rfl (by kernel_rfl) (by kernel_rfl) (by kernel_rfl) (fun _ _ _ h => h) (Or.inl ⟨by rfl, ?y12⟩) (by assumption) ?r12
                case y12 => (intro w hSw; (try dsimp only at hSw); go_simp; try (with_reducible rfl))
                try simp only [Act.put, List.setIfInBounds_toArray, List.set_cons_zero, List.set_cons_succ]
                refine wpAnyH_take (i := 4) (v := ?v13) rfl (by kernel_rfl) (by kernel_rfl) (by kernel_rfl) (fun _ _ _ h => h) (Or.inl ⟨by rfl, ?y13⟩) (by assumption) ?r13
                case y13 => (intro w hSw; (try dsimp only at hSw); go_simp; try (with_reducible rfl))
                try simp only [Act.put, List.setIfInBounds_toArray, List.set_cons_zero, List.set_cons_succ]
                refine wpAnyH_take (i := 5) (v := ?v14) rfl (by kernel_rfl) (by kernel_rfl) (by kernel_rfl) (fun _ _ _ h => h) (Or.inl ⟨by rfl, ?y14⟩) (by assumption) ?r14
                case y14 => (intro w hSw; (try dsimp only at hSw); go_simp; try (with_reducible rfl))
                try simp only [Act.put, List.setIfInBounds_toArray, List.set_cons_zero, List.set_cons_succ]
                refine wpAnyH_ready (rs := [3]) (by kernel_rfl) (by simp) ?_
                refine AllReadyH.cons rfl (fun K hK => ?_) AllReadyH.nil
                go_simp
                go_at_call 121
                refine HT.out.mono ?_
                rintro e w2 ⟨rfl, rfl⟩
                refine hK.out _ _ ⟨C9E.out, C9O.out⟩ (fun hHeld2 => ?_)
                clear hK K hHeld
                try simp only [Act.put, List.setIfInBounds_toArray, List.set_cons_zero, List.set_cons_succ]
                refine wpAnyH_ready (rs := [6]) (by kernel_rfl) (by simp) ?_
                refine AllReadyH.cons rfl (fun K hK => ?_) AllReadyH.nil
                go_simp
                go_at_call 143
                refine HC.out.mono ?_
                rintro e w3 ⟨rfl, cur, q1, q2, q3, q4, q5, q6⟩
                refine hK.out _ _ ⟨(q6 _ HVE.out).trans C9E.out, (q6 _ HVO.out).trans C9O.out⟩ (fun _ => ?_)
                clear hK K hHeld2
                refine wpAnyH_done (by kernel_rfl) ?_ _
                exact ⟨(HKA.out.trans q5).from _, ⟨HBA.out.trans q4, (q6 gB HEB.out).trans C9B.out⟩, cur, cO, q1, by rw [HEV.out]; exact q2, q3, by rw [HEV.out]; exact HO2.out, (q6 _ HVE.out).trans C9E.out, (q6 _ HVO.out).trans C9O.out, HB.out.trans (HBA.out.trans q4), Nat.le_trans HSZ7.out (HKA.out.trans q5).size⟩
            case done =>
              rintro D ys W hD rfl ⟨cE, cO, ho, hE, hp, hO, hbe, hbo, hb, hsz⟩ hK
              have hlE : cE.length = low.length := by rw [hE.1, (dgP_len ws _ _).1, HLE.out]
              have hlO : cO.length = high.length := by rw [hO.1, (dgP_len ws _ _).2, HLO.out]
              have HJ := Lib.hid (joF_any (.slice (some ⟨bv, ov, none⟩) low.length cv) (.slice (some ⟨bu, ou, none⟩) high.length cu) cE cO W ho.rd hp.rd (by omega) (by omega) (by omega) (by omega))
              have HK := Lib.hid hK
              have HIL := Lib.hid (show IsL (mrg cE cO) (dpL ws s low high) by rw [HDP.out]; exact mrg_isL hE hO)
              have HBD := Lib.hid hb
              clear ho hE hp hO hb hK
              go_wp2_with (go_at_call 124; refine HJ.out.mono ?_; rintro e w9 ⟨v9, rfl, O9, B9⟩)
              have hK' : w9.heap[D]? = some (.deferred (some [])) := (B9.block D (Array.getElem?_eq_some_iff.1 HK.out).1).trans HK.out
              refine ⟨by simp, .inl ⟨_, _, rfl, run_takeDeferred hK', ?_⟩⟩
              exact ⟨v9, by simp [results, Try.results68, go_sem], v9, _, rfl, (own_kept O9 (grownBy_putObj' w9 D _) (fun r e => by cases e; exact ⟨_, hK', rfl⟩)).less (Nat.le_trans (Nat.le_of_lt hg) HBD.out.size), HIL.out, (HB01.out.trans ((HBD.out.mono (Nat.le_of_lt hg)).trans (B9.mono (Nat.le_trans (Nat.le_of_lt hg) HBD.out.size)))).trans (belowK_b (w := w7) (Nat.le_trans (Nat.le_of_lt hg) HB7.size) w9 D _ _ hD hK' rfl rfl)⟩
  · obtain rfl : high = [] := List.eq_nil_of_length_eq_zero (by omega)
    simp only [List.length_nil] at hlh
    have HLL := Lib.hid (show IsL low (dpL ws s low []) by unfold dpL; rw [dp_none, mrg_one low (by omega)]; exact isL_self hfl hlx)
    clear h1
    go_enter Try.func68, Try.ntmps68
    go_wp2_with (first | (go_at_call 82; (with_reducible refine (cloneS vh [] w2 (HRH.out.step HB2.out) (by simp)).mono ?_); rintro e w3 ⟨Au, cu, rfl, O3, B3⟩; have HO3 := Lib.hid O3; have HB3 := Lib.hid B3; clear O3 B3) | (go_at_call 82; rw [← HW1.out]; (with_reducible refine (cloneB vl low w1 HRL.out (by omega) hl1).mono ?_); rintro e w2 ⟨bv, ov, cv, rfl, O2, g2, s2, B2⟩; have HO2 := Lib.hid O2; have HG2 := Lib.hid g2; have HS2 := Lib.hid s2; have HB2 := Lib.hid B2; clear O2 B2 g2 s2))
    exact bodyPost_ret (v := (.slice (some ⟨bv, ov, none⟩) low.length cv)) (by simp [results, Try.results68, go_sem]) rfl ⟨(.slice (some ⟨bv, ov, none⟩) low.length cv), low, rfl, ((((HO2.out.below HB3.out).less (Nat.le_of_lt hg)).below (Below.refl _ _)).below ((Below.refl _ _).alloc (Nat.le_refl _) _)).below ((Below.refl _ _).alloc (Nat.le_refl _) _), HLL.out, ((HB01.out.trans ((HB2.out.trans (HB3.out.mono HB2.out.size)).mono (Nat.le_of_lt hg))).alloc (by have := HB2.out.size; have := HB3.out.size; omega) _).alloc (by have := HB2.out.size; have := HB3.out.size; simp; omega) _⟩
end Go.Proofs.Ytfbdmhkmkmbipaa
