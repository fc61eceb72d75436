/-
  Contract: evens and odds are dropped by a scheme, by the model.
-/
import Derived.Test.YtfbdmhkmkmbipaaLoh
import Derived.Test.YtfbdmhkmkmbipaaLon
import Derived.Test.YtfbdmhkmkmbipaaFit
namespace Go.Proofs.Ytfbdmhkmkmbipaa
open Go.RowKit Fl
set_option linter.unusedVariables false
set_option maxRecDepth 100000
set_option linter.unusedSimpArgs false
open Sf (vsB vsI_any vsP_any RetBB)
theorem own_slice {w : World} {lo : Nat} {v : Value} {xs : List Nat} (h : Own w lo v (fl xs)) (hp : 1 ≤ xs.length) : ∃ b off c, v = .slice (some ⟨b, off, none⟩) xs.length c ∧ lo ≤ b ∧ b < w.heap.size := by
  obtain ⟨A, c, hv, _, _, h3⟩ := id h
  rw [fl_len] at hv h3
  subst hv
  obtain ⟨b, off, rfl, h4, h5, _⟩ := h3 (by omega)
  exact ⟨b, off, c, rfl, h4, h5⟩
theorem src_cells {w : World} {b off : Nat} {xs : List Value} (hb : b < w.heap.size) (hc : ∀ (i : Nat) (x : Value), xs[i]? = some x → w.cell? ⟨b, off + i, none⟩ = some x) (W : World) (hB : Below w.heap.size w W) : ∀ j u, xs[j]? = some u → (W.alloc (Obj.cells #[] 23)).cell? ((⟨b, off, none⟩ : Addr).add j) = some u := by
  intro j u hu
  rw [Go.WideShapes.add_plain]
  exact ((hB.alloc hB.size _).cell (p := ⟨b, off + j, none⟩) hb).trans (hc j u hu)
theorem app_made {W W' : World} {lo : Nat} {v : Value} {xs : List Nat} (h0 : (W.alloc (Obj.cells #[] 23)).ownsRow W.heap.size 23 1 (.slice (some ⟨W.heap.size, 0, none⟩) 0 0) 0 (fl [])) (hown : W'.ownsRow W.heap.size 23 1 v (0 + xs.length) (fl [] ++ fl xs)) (hgrow : (W.alloc (Obj.cells #[] 23)).grownBy W' (some W.heap.size)) (hp : 1 ≤ xs.length) :
    ∃ b off c, v = .slice (some ⟨b, off, none⟩) xs.length c ∧ W.heap.size ≤ b ∧ b < W'.heap.size ∧ Own W' W.heap.size (.slice (some ⟨b, off, none⟩) xs.length c) (fl xs) ∧ Below W.heap.size W W' := by
  have ho : Own W' W.heap.size v (fl xs) := by have := Own.row hown; simpa [fl] using this
  have hb : Below W.heap.size W W' := ((Below.refl _ _).alloc (Nat.le_refl _) _).grown hgrow (by simp) (fun j hj => (h0.lt j hj).1)
  obtain ⟨b, off, c, rfl, h4, h5⟩ := own_slice ho hp
  exact ⟨b, off, c, rfl, h4, h5, ho, hb⟩
theorem app_nil {W W' : World} {v : Value} (h0 : (W.alloc (Obj.cells #[] 23)).ownsRow W.heap.size 23 1 (.slice (some ⟨W.heap.size, 0, none⟩) 0 0) 0 (fl [])) (hown : W'.ownsRow W.heap.size 23 1 v (0 + 0) (fl [] ++ [])) (hgrow : (W.alloc (Obj.cells #[] 23)).grownBy W' (some W.heap.size)) :
    ∃ A c, v = .slice A 0 c ∧ Own W' W.heap.size (.slice A 0 c) (fl []) ∧ Below W.heap.size W W' := by
  have ho : Own W' W.heap.size v (fl []) := by have := Own.row hown; simpa [fl] using this
  have hb : Below W.heap.size W W' := ((Below.refl _ _).alloc (Nat.le_refl _) _).grown hgrow (by simp) (fun j hj => (h0.lt j hj).1)
  obtain ⟨A, c, hv, _, _, h3⟩ := id ho
  rw [fl_len] at hv
  subst hv
  exact ⟨A, c, rfl, ho, hb⟩
theorem fl_two (L : List Nat) (x y : Nat) : fl (L ++ [x] ++ [y]) = fl L ++ [.float .f32 x] ++ [.float .f32 y] := by unfold fl; rw [List.map_append, List.map_append]; rfl
theorem fl_one1 (L : List Nat) (x : Nat) : fl (L ++ [x]) = fl L ++ [.float .f32 x] := by unfold fl; rw [List.map_append]; rfl
def WdR (w : World) (ws tE tO : List Nat) (v u i : Value) (wr : World) : Prop :=
  ∃ (j : Nat) (cE cO : List Nat), j ≤ ws.length ∧ i = .int .i64 ((ws.length : Int) - 1 - j) ∧ Own wr w.heap.size v (fl cE) ∧ IsL cE (dgK ws (tE, tO) j).1 ∧ Own wr w.heap.size u (fl cO) ∧ IsL cO (dgK ws (tE, tO) j).2 ∧ Below w.heap.size w wr
def RetDq (L : List Nat) (w : World) (e : Ending) (w' : World) : Prop :=
  ∃ v cL, e = .returned (.tuple #[v, .bool (finA L)]) ∧ Own w' w.heap.size v (fl cL) ∧ IsL cL (if finA L then L else []) ∧ Below w.heap.size w w'
def otM (a b k : Nat) : Nat := min (2 * k) (a + b)
def OtR (wq : World) (cE cO : List Nat) (v i : Value) (wr : World) : Prop :=
  ∃ k : Nat, k ≤ cE.length ∧ i = .int .i64 k ∧ wr.ownsRow wq.heap.size 23 1 v (otM cE.length cO.length k) (fl (mgR cE cO (otM cE.length cO.length k))) ∧ Below wq.heap.size wq wr
theorem apart_dif {b o n c b' o' n' c' : Nat} (h : b ≠ b') : Apart (.slice (some ⟨b, o, none⟩) n c) (.slice (some ⟨b', o', none⟩) n' c') := by
  intro a m d a' m' d' e1 e2
  injection e1 with e1
  injection e2 with e2
  injection e1 with e1
  injection e2 with e2
  subst e1 e2
  exact .inr (.inr (.inl h))
set_option maxHeartbeats 8000000 in
theorem dssS_any (g s : Nat) (ws low high : List Nat) (vw vl vh : Value) (w : World) (hg : g < w.heap.size) (k0 : w.cell? ⟨g, 0, none⟩ = some vw) (k1 : w.cell? ⟨g, 1, none⟩ = some (.float .f32 s)) (hrw : Rd w w.heap.size vw (fl ws)) (hrl : Rd w w.heap.size vl (fl low)) (hrh : Rd w w.heap.size vh (fl high)) (hw8 : 1 ≤ ws.length ∧ ws.length ≤ 8) (hl1 : 1 ≤ low.length) (hl64 : low.length ≤ 64) (hlh : high.length = low.length ∨ high.length + 1 = low.length)
    (hfw : finA ws = true) (hwx : ∀ x ∈ ws, x < 2 ^ 32) (hfl : finA low = true) (hlx : ∀ x ∈ low, x < 2 ^ 32) (hfh : finA high = true) (hhx : ∀ x ∈ high, x < 2 ^ 32) (hfs : finB .f32 s = true) (hs : s < 2 ^ 32) :
    Calls Try.prog 66 #[.pointer (some ⟨g, 0, none⟩), vl, vh] w (RetDq (dpL ws s low high) w) := by
  obtain ⟨i0, hi, hz0, hz1, hz2⟩ := info_parts infoF
  have hsf : ∀ (a : Addr) (x : Nat) (w : World), (store a (.float .f32 x)).run Try.prog w = stored Try.prog w a (.float .f32 x) .plain := fun a x w => run_store _ w a _ _ rfl
  have HMK := Lib.hid (show ∀ (W : World), (W.alloc (Obj.cells #[] 23)).ownsRow W.heap.size 23 1 (.slice (some ⟨W.heap.size, 0, none⟩) 0 0) 0 (fl []) from fun W => World.ownsRow_made W #[] 0 (Nat.le_refl _) (Nat.zero_le _) rfl)
  obtain ⟨Aw, cw, hvw, e1, e2, hcw⟩ := id hrw
  clear e1 e2
  rw [fl_len] at hvw hcw
  subst hvw
  obtain ⟨bw, ofw, rfl, hbw, hcw2⟩ := hcw (by omega)
  have HW := Lib.hid (fun (i : Nat) (h : i < ws.length) => hcw2 i _ (fl_get ws i h))
  clear hcw hcw2 hrw
  obtain ⟨Al, cl, hvl, e1, e2, hcl⟩ := id hrl
  clear e1 e2
  rw [fl_len] at hvl hcl
  subst hvl
  obtain ⟨bl, ofl, rfl, hbl, hcl2⟩ := hcl (by omega)
  have HCL := Lib.hid (src_cells hbl hcl2)
  clear hcl hcl2 hrl
  obtain ⟨Ah, ch, hvh, e1, e2, hch⟩ := id hrh
  clear e1 e2
  rw [fl_len] at hvh hch
  subst hvh
  have K0 := Lib.hid k0
  have K1 := Lib.hid k1
  clear k0 k1 hrh
  by_cases h1 : 1 ≤ high.length
  · obtain ⟨bh, ofh, rfl, hbh, hch2⟩ := hch (by omega)
    have HCH := Lib.hid (src_cells hbh hch2)
    clear hch hch2
    go_enter Try.func66, Try.ntmps66
    go_wp2_with (first | (at_builtin; refine wpList_append_own _ rfl _ _ 22 rfl w2.heap.size 23 i0 (.float .f32 0) 1 4 Try.underlying22 hi hz0 hz1 hz2 rfl (by decide) _ _ _ rfl (HMK.out w2) ⟨bh, ofh, none⟩ high.length ch (fl high) rfl (by rw [fl_len]; omega) (HCH.out w2 HB2.out) (cellsD high) (by unfold maxLen; omega) (by omega) (by simp) ?_; intro v3 w3 hown3 hgrow3 _; obtain ⟨bu, ou, cu, rfl, g3, s3, O3, B3⟩ := app_made (lo := w2.heap.size) (HMK.out w2) hown3 hgrow3 h1; have HO3 := Lib.hid O3; have HG3 := Lib.hid g3; have HS3 := Lib.hid s3; have HB3 := Lib.hid B3; clear O3 B3 g3 s3 hown3 hgrow3) | (at_builtin; refine wpList_append_own _ rfl _ _ 22 rfl w.heap.size 23 i0 (.float .f32 0) 1 4 Try.underlying22 hi hz0 hz1 hz2 rfl (by decide) _ _ _ rfl (HMK.out w) ⟨bl, ofl, none⟩ low.length cl (fl low) rfl (by rw [fl_len]; omega) (HCL.out w (Below.refl _ _)) (cellsD low) (by unfold maxLen; omega) (by omega) (by simp) ?_; intro v2 w2 hown2 hgrow2 _; obtain ⟨bv, ov, cv, rfl, g2, s2, O2, B2⟩ := app_made (lo := w.heap.size) (HMK.out w) hown2 hgrow2 hl1; have HO2 := Lib.hid O2; have HG2 := Lib.hid g2; have HS2 := Lib.hid s2; have HB2 := Lib.hid B2; clear O2 B2 g2 s2 hown2 hgrow2))
    have HB := Lib.hid (show Below w.heap.size w w3 from (HB2.out.trans (HB3.out.mono HB2.out.size)))
    have HV := Lib.hid (show Own w3 w.heap.size (.slice (some ⟨bv, ov, none⟩) low.length cv) (fl low) from (HO2.out.below HB3.out))
    have HU := Lib.hid (show Own w3 w.heap.size (.slice (some ⟨bu, ou, none⟩) high.length cu) (fl high) from (HO3.out.less HB2.out.size))
    have HAP := Lib.hid (show Apart (.slice (some ⟨bu, ou, none⟩) high.length cu) (.slice (some ⟨bv, ov, none⟩) low.length cv) from apart_dif (by have h1 := HS2.out; have h2 := HG3.out; omega))
    have HIS := Lib.hid (show Is .f32 s s from is_fin hfs hs)
    clear HO2 HO3
    have HI := Lib.hid (show IsL low (prN low (scF .quo s low) 0) by rw [prN_zero]; exact isL_self hfl hlx)
    have HN := Lib.hid (show prN low (scF .quo s low) low.length = scL .quo s low from prN_all _ _)
    have HF := Lib.hid (show ∀ k : Nat, scF .quo s low k = ar .quo .f32 (low.getD k 0) s from fun k => rfl)
    generalize scF .quo s low = fg at *
    go_wp2_with fail
    rw [show decide (0 < high.length) = true from decide_eq_true h1]
    go_loopw [10] (WgR w w.heap.size (.slice (some ⟨bv, ov, none⟩) low.length cv) (.slice (some ⟨bu, ou, none⟩) high.length cu) high low fg) (fun i _ => low.length - (intOf i).toNat)
    case atStart => exact ⟨0, low, Nat.zero_le _, rfl, HV.out, HI.out, HU.out, HB.out⟩
    case round =>
      clear HV HU HB
      obtain ⟨k, cur, hk, rfl, ho, hi2, hr, hb⟩ := hrel
      have hcl : cur.length = low.length := by rw [hi2.1, prN_len]
      by_cases hlt : k < low.length
      · obtain ⟨hlo, hbw1, hcc, hff⟩ := ho.cells' (by omega)
        have hdst := (hcc k _ (fl_get cur k (by omega))).trans (show _ = some (Value.float .f32 (cur.getD k 0)) by simp [List.getD, show k < cur.length by omega])
        have hfz := hff k hlt
        have hs1 := (hb.cell (p := ⟨g, 1, none⟩) hg).trans K1.out
        have hc0 := Lib.hid (show Is .f32 (cur.getD k 0) (low.getD k 0) by have := hi2.2 k; rw [prN_at] at this; exact this)
        have HFk := Lib.hid (HF.out k)
        have HS := Lib.hid (fun r (hr : Is .f32 r (fg k)) => hi2.set (by omega) hr)
        have HP := Lib.hid (fun N r => (ho.drewN N).put k hlt (.float .f32 r))
        have HR := Lib.hid (fun N r => own_put (hr.drewN N) HAP.out.symm hlt (.float .f32 r))
        have HB := Lib.hid hb
        generalize cur.getD k 0 = x0 at *
        generalize low.getD k 0 = cx0 at *
        have hki : (k : Int) < (low.length : Int) := by omega
        clear hcc hff hr hb ho hi2
        go_wp2_with fail
        refine Sf.wp_soft [false, false, false, false, false, false, false, false, false, false, false, true, true] [true, true, true, true, true, true, true, true, true, true, true, false, false] (fun i => if i = 10 then 0 else 1) (fun _ => undef) (by kernel_rfl) (by kernel_rfl) (by kernel_rfl) ?_
        simp only [Sf.tl]
        refine Sf.lx_one rfl rfl (fun K hK => Sf.dft_quiet rfl ?_)
        go_big_quiet_op
        refine hK _ ?_
        clear hK K
        refine Sf.lx_one rfl rfl (fun K hK => Sf.dft_quiet rfl ?_)
        go_big_quiet_op
        refine hK _ ?_
        clear hK K
        refine Sf.lx_one rfl rfl (fun K hK => Sf.dft_quiet rfl ?_)
        go_big_quiet_op
        refine hK _ ?_
        clear hK K
        refine Sf.lx_one rfl rfl (fun K hK => Sf.dft_quiet rfl ?_)
        go_big_quiet_op
        refine hK _ ?_
        clear hK K
        refine Sf.lx_one rfl rfl (fun K hK => Sf.dft_quiet rfl ?_)
        go_big_quiet_op
        refine hK _ ?_
        clear hK K
        refine Sf.lx_one rfl rfl (fun K hK => Sf.dft_quiet rfl ?_)
        go_big_quiet_op
        refine hK _ ?_
        clear hK K
        refine Sf.lx_one rfl rfl (fun K hK => Sf.dft_quiet rfl ?_)
        go_big_quiet_op
        refine hK _ ?_
        clear hK K
        refine Sf.lx_one rfl rfl (fun K hK => Sf.dft_nil rfl rfl (hK _ ?_))
        clear hK K
        simp only [Act.put, List.setIfInBounds_toArray, List.set_cons_zero, List.set_cons_succ]
        refine Sf.lx_one rfl rfl (fun K hK => Sf.dft_quiet rfl ?_)
        go_big_quiet_op
        refine hK _ ?_
        clear hK K
        refine Sf.lx_one rfl rfl (fun K hK => Sf.dft_quiet rfl ?_)
        go_big_quiet_op
        refine hK _ ?_
        clear hK K
        refine Sf.lx_fl rfl rfl (fun K hK => Sf.sft_ar (k := .f32) rfl rfl rfl rfl (hc0.out) (HIS.out) (fun r40 hr40 => hK _ ?_))
        clear hK K
        simp only [Act.put, List.setIfInBounds_toArray, List.set_cons_zero, List.set_cons_succ]
        refine Sf.lx_over ?_
        refine Sf.lx_over ?_
        refine Sf.lx_nil ?_
        rintro _ ⟨nq, rfl⟩
        go_wp2_with fail
        go_roundw
        case rel => exact ⟨k + 1, cur.set k r40, by omega, by go_num, by rw [← fl_set]; exact HP.out _ r40, HS.out r40 (by rw [HFk.out]; exact hr40), HR.out _ r40, (below_drawn HB.out _).setCell hlo _⟩
        case measure => simp [intOf]; omega
      · obtain rfl : k = low.length := by omega
        have HE := Lib.hid (show IsL cur (scL .quo s low) by rw [← HN.out]; exact hi2)
        have HV := Lib.hid ho
        have HU := Lib.hid hr
        have HB := Lib.hid hb
        clear hi2 ho hr hb HI HN HF
        generalize cur = cF at *
        have HI := Lib.hid (show IsL high (prN high (scF .mul s high) 0) by rw [prN_zero]; exact isL_self hfh hhx)
        have HN := Lib.hid (show prN high (scF .mul s high) high.length = scL .mul s high from prN_all _ _)
        have HF := Lib.hid (show ∀ k : Nat, scF .mul s high k = ar .mul .f32 (high.getD k 0) s from fun k => rfl)
        generalize scF .mul s high = fg at *
        go_wp2_with fail
        go_loopw [11] (WgR w w.heap.size (.slice (some ⟨bu, ou, none⟩) high.length cu) (.slice (some ⟨bv, ov, none⟩) low.length cv) cF high fg) (fun i _ => high.length - (intOf i).toNat)
        case atStart => exact ⟨0, high, Nat.zero_le _, rfl, HU.out, HI.out, HV.out, HB.out⟩
        case round =>
          clear HV HU HB
          obtain ⟨k, cur, hk, rfl, ho, hi2, hr, hb⟩ := hrel
          have hcl : cur.length = high.length := by rw [hi2.1, prN_len]
          by_cases hlt : k < high.length
          · obtain ⟨hlo, hbw1, hcc, hff⟩ := ho.cells' (by omega)
            have hdst := (hcc k _ (fl_get cur k (by omega))).trans (show _ = some (Value.float .f32 (cur.getD k 0)) by simp [List.getD, show k < cur.length by omega])
            have hfz := hff k hlt
            have hs1 := (hb.cell (p := ⟨g, 1, none⟩) hg).trans K1.out
            have hc0 := Lib.hid (show Is .f32 (cur.getD k 0) (high.getD k 0) by have := hi2.2 k; rw [prN_at] at this; exact this)
            have HFk := Lib.hid (HF.out k)
            have HS := Lib.hid (fun r (hr : Is .f32 r (fg k)) => hi2.set (by omega) hr)
            have HP := Lib.hid (fun N r => (ho.drewN N).put k hlt (.float .f32 r))
            have HR := Lib.hid (fun N r => own_put (hr.drewN N) HAP.out hlt (.float .f32 r))
            have HB := Lib.hid hb
            generalize cur.getD k 0 = x0 at *
            generalize high.getD k 0 = cx0 at *
            have hki : (k : Int) < (high.length : Int) := by omega
            clear hcc hff hr hb ho hi2
            go_wp2_with fail
            refine Sf.wp_soft [false, false, false, false, false, false, false, false, false, false, false, true, true] [true, true, true, true, true, true, true, true, true, true, true, false, false] (fun i => if i = 10 then 0 else 1) (fun _ => undef) (by kernel_rfl) (by kernel_rfl) (by kernel_rfl) ?_
            simp only [Sf.tl]
            refine Sf.lx_one rfl rfl (fun K hK => Sf.dft_quiet rfl ?_)
            go_big_quiet_op
            refine hK _ ?_
            clear hK K
            refine Sf.lx_one rfl rfl (fun K hK => Sf.dft_quiet rfl ?_)
            go_big_quiet_op
            refine hK _ ?_
            clear hK K
            refine Sf.lx_one rfl rfl (fun K hK => Sf.dft_quiet rfl ?_)
            go_big_quiet_op
            refine hK _ ?_
            clear hK K
            refine Sf.lx_one rfl rfl (fun K hK => Sf.dft_quiet rfl ?_)
            go_big_quiet_op
            refine hK _ ?_
            clear hK K
            refine Sf.lx_one rfl rfl (fun K hK => Sf.dft_quiet rfl ?_)
            go_big_quiet_op
            refine hK _ ?_
            clear hK K
            refine Sf.lx_one rfl rfl (fun K hK => Sf.dft_quiet rfl ?_)
            go_big_quiet_op
            refine hK _ ?_
            clear hK K
            refine Sf.lx_one rfl rfl (fun K hK => Sf.dft_quiet rfl ?_)
            go_big_quiet_op
            refine hK _ ?_
            clear hK K
            refine Sf.lx_one rfl rfl (fun K hK => Sf.dft_nil rfl rfl (hK _ ?_))
            clear hK K
            simp only [Act.put, List.setIfInBounds_toArray, List.set_cons_zero, List.set_cons_succ]
            refine Sf.lx_one rfl rfl (fun K hK => Sf.dft_quiet rfl ?_)
            go_big_quiet_op
            refine hK _ ?_
            clear hK K
            refine Sf.lx_one rfl rfl (fun K hK => Sf.dft_quiet rfl ?_)
            go_big_quiet_op
            refine hK _ ?_
            clear hK K
            refine Sf.lx_fl rfl rfl (fun K hK => Sf.sft_ar (k := .f32) rfl rfl rfl rfl (hc0.out) (HIS.out) (fun r58 hr58 => hK _ ?_))
            clear hK K
            simp only [Act.put, List.setIfInBounds_toArray, List.set_cons_zero, List.set_cons_succ]
            refine Sf.lx_over ?_
            refine Sf.lx_over ?_
            refine Sf.lx_nil ?_
            rintro _ ⟨nq, rfl⟩
            go_wp2_with fail
            go_roundw
            case rel => exact ⟨k + 1, cur.set k r58, by omega, by go_num, by rw [← fl_set]; exact HP.out _ r58, HS.out r58 (by rw [HFk.out]; exact hr58), HR.out _ r58, (below_drawn HB.out _).setCell hlo _⟩
            case measure => simp [intOf]; omega
          · obtain rfl : k = high.length := by omega
            have HO := Lib.hid (show IsL cur (scL .mul s high) by rw [← HN.out]; exact hi2)
            have HU := Lib.hid ho
            have HV := Lib.hid hr
            have HB := Lib.hid hb
            clear hi2 ho hr hb HI HN HF
            generalize cur = cG at *
            have HLE := Lib.hid (show (scL .quo s low).length = low.length from scL_len _ _ _)
            have HLO := Lib.hid (show (scL .mul s high).length = high.length from scL_len _ _ _)
            have HDP := Lib.hid (show dpL ws s low high = mrg (dgK ws (scL .quo s low, scL .mul s high) ws.length).1 (dgK ws (scL .quo s low, scL .mul s high) ws.length).2 by unfold dpL; rw [dp_more h1])
            generalize scL .quo s low = tE at *
            generalize scL .mul s high = tO at *
            have hsv := (HB.out.cell (p := ⟨g, 0, none⟩) hg).trans K0.out
            go_wp2_with fail
            clear hsv
            go_loopw [12] (WdR w ws tE tO (.slice (some ⟨bv, ov, none⟩) low.length cv) (.slice (some ⟨bu, ou, none⟩) high.length cu)) (fun i _ => (intOf i + 1).toNat)
            case atStart => exact ⟨0, cF, cG, Nat.zero_le _, by simp, HV.out, HE.out, HU.out, HO.out, HB.out⟩
            case round =>
              clear HV HU HB
              obtain ⟨j, cE, cO, hj, rfl, ho, hE, hp, hO, hb⟩ := hrel
              have hlE : cE.length = low.length := by rw [hE.1, (dgK_len ws (tE, tO) j).1, HLE.out]
              have hlO : cO.length = high.length := by rw [hO.1, (dgK_len ws (tE, tO) j).2, HLO.out]
              by_cases hlt : j < ws.length
              · obtain ⟨q, hq⟩ : ∃ q, q = ws.length - 1 - j := ⟨_, rfl⟩
                have hqn : q < ws.length := by omega
                have hwk := (hb.cell (p := ⟨bw, ofw + q, none⟩) hbw).trans (HW.out q hqn)
                have hsv := (hb.cell (p := ⟨g, 0, none⟩) hg).trans K0.out
                have hwf : finB .f32 (ws.getD q 0) = true := finD hfw q
                have hwe : ws.getD q 0 = ws[q] := by simp [List.getD, hqn]
                have hwl : ws.getD q 0 < 2 ^ 32 := by rw [hwe]; exact hwx _ (List.getElem_mem hqn)
                have hwi : Is .f32 (ngF (ws.getD q 0)) (ngF (ws.getD q 0)) := is_fin (ng_fin hwl hwf) (ng_lt hwl)
                have hi3 : (ws.length : Int) - 1 - (j : Int) = (q : Int) := by omega
                have HDN := Lib.hid (show ((q : Int) - 1) = (ws.length : Int) - 1 - ((j + 1 : Nat) : Int) by omega)
                rw [hi3]
                have hge : (0 : Int) ≤ (q : Int) := by omega
                have hls : (q : Int) < (ws.length : Int) := by omega
                have HB := Lib.hid hb
                have hev : q % 2 = 0 → dgK ws (tE, tO) (j + 1) = ((dgK ws (tE, tO) j).1, upO (ngF (ws.getD q 0)) (dgK ws (tE, tO) j).1 (dgK ws (tE, tO) j).2) := fun h => by rw [hq] at h ⊢; exact dgS_even _ _ _ h
                have hod : q % 2 = 1 → dgK ws (tE, tO) (j + 1) = (upE (ngF (ws.getD q 0)) (dgK ws (tE, tO) j).2 (dgK ws (tE, tO) j).1, (dgK ws (tE, tO) j).2) := fun h => by rw [hq] at h ⊢; exact dgS_odd _ _ _ h
                clear hi3 hq
                by_cases he : q % 2 = 0
                · have HC := Lib.hid (wghO_any (ngF (ws.getD q 0)) (ngF (ws.getD q 0)) q (.slice (some ⟨bv, ov, none⟩) low.length cv) (.slice (some ⟨bu, ou, none⟩) high.length cu) cE _ cO _ _ w.heap.size he (by omega) hwi hp ho HAP.out hE hO (by omega) (by omega))
                  have HEV := Lib.hid (hev he)
                  have HE2 := Lib.hid hE
                  have HO2 := Lib.hid hO
                  rw [hwe] at HC HEV
                  clear ho hp hE hO he hb hwi hev hod hwe hwf hwl
                  unfold ngF at HC HEV
                  generalize ws[q] = wt at *
                  have hng : Op.unary .neg (.float .f32 wt) = pure (.float .f32 (Op.negFloat .f32 wt)) := rfl
                  go_wp2_with (go_at_call 117; refine HC.out.mono ?_; rintro e w5 ⟨rfl, cur, q1, q2, q3, q4⟩)
                  go_wp2_with fail
                  go_roundw
                  case rel => exact ⟨j + 1, cE, cur, by omega, by first | rw [HDN.out] | (rw [← HDN.out]; go_num), q3, by rw [HEV.out]; exact HE2.out, q1, by rw [HEV.out]; exact q2, HB.out.trans q4⟩
                  case measure => simp [intOf] <;> omega
                · have he1 : q % 2 = 1 := by omega
                  have HC := Lib.hid (wghE_any (ngF (ws.getD q 0)) (ngF (ws.getD q 0)) q (.slice (some ⟨bv, ov, none⟩) low.length cv) (.slice (some ⟨bu, ou, none⟩) high.length cu) cO _ cE _ _ w.heap.size he1 (by omega) hwi ho hp HAP.out.symm hO hE (by omega) (by omega) (by omega))
                  have HEV := Lib.hid (hod he1)
                  have HE2 := Lib.hid hE
                  have HO2 := Lib.hid hO
                  rw [hwe] at HC HEV
                  clear ho hp hE hO he hb hwi hev hod hwe hwf hwl he1
                  unfold ngF at HC HEV
                  generalize ws[q] = wt at *
                  have hng : Op.unary .neg (.float .f32 wt) = pure (.float .f32 (Op.negFloat .f32 wt)) := rfl
                  go_wp2_with (go_at_call 117; refine HC.out.mono ?_; rintro e w5 ⟨rfl, cur, q1, q2, q3, q4⟩)
                  go_wp2_with fail
                  go_roundw
                  case rel => exact ⟨j + 1, cur, cO, by omega, by first | rw [HDN.out] | (rw [← HDN.out]; go_num), q1, by rw [HEV.out]; exact q2, q3, by rw [HEV.out]; exact HO2.out, HB.out.trans q4⟩
                  case measure => simp [intOf] <;> omega
              · obtain rfl : j = ws.length := by omega
                have hi3 : (ws.length : Int) - 1 - (ws.length : Int) = -1 := by omega
                rw [hi3]
                clear hi3
                have HIL := Lib.hid (show IsL (mrg cE cO) (dpL ws s low high) by rw [HDP.out]; exact mrg_isL hE hO)
                have HV := Lib.hid ho
                have HU := Lib.hid hp
                have HB := Lib.hid hb
                have HLE2 := Lib.hid hlE
                have HLO2 := Lib.hid hlO
                clear ho hp hE hO hb HDP
                obtain ⟨wq, hwq⟩ : ∃ q, q = wr := ⟨_, rfl⟩
                subst hwq
                have HVC := Lib.hid (show ∀ (k : Nat), k < low.length → ∀ W : World, Below wq.heap.size wq W → W.cell? ⟨bv, ov + k, none⟩ = some (.float .f32 (cE.getD k 0)) from fun k hk W hB => by obtain ⟨_, h1, h2, _⟩ := HV.out.cells' (by omega); have h3 : k < cE.length := (by have := HLE2.out; omega); exact (hB.cell (p := ⟨bv, ov + k, none⟩) h1).trans ((h2 k _ (fl_get cE k h3)).trans (by simp [List.getD, h3])))
                have HUC := Lib.hid (show ∀ (k : Nat), k < high.length → ∀ W : World, Below wq.heap.size wq W → W.cell? ⟨bu, ou + k, none⟩ = some (.float .f32 (cO.getD k 0)) from fun k hk W hB => by obtain ⟨_, h1, h2, _⟩ := HU.out.cells' (by omega); have h3 : k < cO.length := (by have := HLO2.out; omega); exact (hB.cell (p := ⟨bu, ou + k, none⟩) h1).trans ((h2 k _ (fl_get cO k h3)).trans (by simp [List.getD, h3])))
                have HNX := Lib.hid (mgR_next cE cO)
                have HEV := Lib.hid (mgAt_even cE cO)
                have HOD := Lib.hid (mgAt_odd cE cO)
                have HSQ := Lib.hid (Nat.le_refl wq.heap.size)
                go_wp2_with fail
                go_loopw [13, 14] (OtR wq cE cO) (fun _ i _ => cE.length - (intOf i).toNat)
                case atStart => exact ⟨0, Nat.zero_le _, rfl, by simpa [otM, mgR] using HMK.out wq, (Below.refl _ _).alloc (Nat.le_refl _) _⟩
                case round =>
                  obtain ⟨k, hk, rfl, hov, hb⟩ := hrel
                  skip
                  have hle := HLE2.out
                  have hlo := HLO2.out
                  by_cases hlt : k < low.length
                  · have hv1 := HVC.out k hlt _ hb
                    have E0 : otM cE.length cO.length k = 2 * k := by unfold otM; omega
                    rw [E0] at hov
                    have hki : (k : Int) < (low.length : Int) := by omega
                    by_cases hlt2 : k < high.length
                    · have hv2 := HUC.out k hlt2
                      have HM := Lib.hid (show mgR cE cO (2 * k + 1 + 1) = mgR cE cO (2 * k) ++ [cE.getD k 0] ++ [cO.getD k 0] by rw [HNX.out, HNX.out, HEV.out, HOD.out])
                      have E1 := Lib.hid (show otM cE.length cO.length (k + 1) = 2 * k + 1 + 1 by unfold otM; omega)
                      have hki2 : (k : Int) < (high.length : Int) := by omega
                      have HV2 := Lib.hid hv2
                      clear hv2
                      generalize cE.getD k 0 = x at *
                      generalize cO.getD k 0 = y at *
                      go_wp2_with (first | (at_builtin; refine wpList_append_own _ rfl _ _ 22 rfl wq.heap.size 23 i0 (.float .f32 0) 1 4 Try.underlying22 hi hz0 hz1 hz2 rfl (by decide) _ _ _ rfl (hown8.alloc _) ⟨w8.heap.size, 0, none⟩ 1 1 [.float .f32 y] rfl rfl (one_newL _ _ _) (cellsL _) (by unfold maxLen; omega) (by omega) (by simp; have := B8.size; omega) ?_; intro v9 w9 hown9 hgrow9 _) | (at_builtin; refine wpList_append_own _ rfl _ _ 22 rfl wq.heap.size 23 i0 (.float .f32 0) 1 4 Try.underlying22 hi hz0 hz1 hz2 rfl (by decide) _ _ _ rfl (hov.alloc _) ⟨wr.heap.size, 0, none⟩ 1 1 [.float .f32 x] rfl rfl (one_newL _ _ _) (cellsL _) (by unfold maxLen; omega) (by omega) (by simp; have := hb.size; omega) ?_; intro v8 w8 hown8 hgrow8 _; have B8 := (hb.alloc hb.size _).grown hgrow8 (by simp; have := hb.size; omega) (fun j hj => (hov.lt j hj).1); have hv2 := HV2.out _ B8))
                      have B9 := (B8.alloc B8.size _).grown hgrow9 (by simp; have := B8.size; omega) (fun j hj => (hown8.lt j hj).1)
                      have q1 : w9.ownsRow wq.heap.size 23 1 v9 (otM cE.length cO.length (k + 1)) (fl (mgR cE cO (otM cE.length cO.length (k + 1)))) := by rw [E1.out, HM.out, fl_two]; exact hown9
                      clear hown9 hgrow9 hown8 hgrow8 hov hb B8 hv1
                      go_wp2_with fail
                      go_roundw
                      case rel => exact ⟨k + 1, by omega, by go_num, q1, B9⟩
                      case measure => simp [intOf]; omega
                    · have HM := Lib.hid (show mgR cE cO (2 * k + 1) = mgR cE cO (2 * k) ++ [cE.getD k 0] by rw [HNX.out, HEV.out])
                      have E1 := Lib.hid (show otM cE.length cO.length (k + 1) = 2 * k + 1 by unfold otM; omega)
                      have hki2 : ¬ (k : Int) < (high.length : Int) := by omega
                      generalize cE.getD k 0 = x at *
                      go_wp2_with (at_builtin; refine wpList_append_own _ rfl _ _ 22 rfl wq.heap.size 23 i0 (.float .f32 0) 1 4 Try.underlying22 hi hz0 hz1 hz2 rfl (by decide) _ _ _ rfl (hov.alloc _) ⟨wr.heap.size, 0, none⟩ 1 1 [.float .f32 x] rfl rfl (one_newL _ _ _) (cellsL _) (by unfold maxLen; omega) (by omega) (by simp; have := hb.size; omega) ?_; intro v8 w8 hown8 hgrow8 _; have B8 := (hb.alloc hb.size _).grown hgrow8 (by simp; have := hb.size; omega) (fun j hj => (hov.lt j hj).1))
                      have q1 : w8.ownsRow wq.heap.size 23 1 v8 (otM cE.length cO.length (k + 1)) (fl (mgR cE cO (otM cE.length cO.length (k + 1)))) := by rw [E1.out, HM.out, fl_one1]; exact hown8
                      clear hown8 hgrow8 hov hb hv1
                      go_wp2_with fail
                      go_roundw
                      case rel => exact ⟨k + 1, by omega, by go_num, q1, B8⟩
                      case measure => simp [intOf]; omega
                  · obtain rfl : k = low.length := by omega
                    have hmm : otM cE.length cO.length low.length = cE.length + cO.length := by unfold otM; omega
                    rw [hmm] at hov
                    have HO := Lib.hid (show Own _ _ _ (fl (mrg cE cO)) from Own.row hov)
                    have HML := Lib.hid (show (mrg cE cO).length ≤ 1048576 by rw [mrg_len]; omega)
                    have HFE := Lib.hid (isLs_fin (isL_isLs HIL.out))
                    have HBB := Lib.hid (HB.out.trans (hb.mono HB.out.size))
                    have HMX := Lib.hid (isL_lt HIL.out)
                    clear hov hmm hb
                    obtain hf | hf : finA (dpL ws s low high) = false ∨ finA (dpL ws s low high) = true := by cases finA (dpL ws s low high) <;> simp
                    · have HF := Lib.hid hf
                      clear hf
                      generalize mrg cE cO = L at *
                      go_wp2_with (go_at_call 101; refine (lsD_any _ L _ _ HO.out.rd HML.out HMX.out).mono ?_; rintro e w9 ⟨rfl, n9, rfl⟩; rw [HFE.out, HF.out])
                      exact bodyPost_ret (v := .tuple #[.slice none 0 0, .bool false]) (by simp [results, Try.results66, go_sem]) rfl ⟨.slice none 0 0, [], by rw [HF.out], own_nilL _ _, by rw [HF.out]; exact isL_nil, below_drawn HBB.out _⟩
                    · have HF := Lib.hid hf
                      clear hf
                      generalize mrg cE cO = L at *
                      go_wp2_with (go_at_call 101; refine (lsD_any _ L _ _ HO.out.rd HML.out HMX.out).mono ?_; rintro e w9 ⟨rfl, n9, rfl⟩; rw [HFE.out, HF.out])
                      have HVV := Lib.hid HO.out
                      exact bodyPost_ret (v := .tuple #[_, .bool true]) (by simp [results, Try.results66, go_sem]; rfl) rfl ⟨_, L, by rw [HF.out], ((HO.out).less HB.out.size).drewN _, by rw [HF.out]; exact HIL.out, below_drawn HBB.out _⟩
  · obtain rfl : high = [] := List.eq_nil_of_length_eq_zero (by omega)
    simp only [List.length_nil] at hlh
    clear h1 hch
    have HIL := Lib.hid (show IsL (mrg low []) (dpL ws s low []) by unfold dpL; rw [dp_none]; exact mrg_isL (isL_self hfl hlx) isL_nil)
    cases Ah with
    | some ah =>
      go_enter Try.func66, Try.ntmps66
      go_wp2_with (first | (at_builtin; refine wpList_append_own _ rfl _ _ 22 rfl w2.heap.size 23 i0 (.float .f32 0) 1 4 Try.underlying22 hi hz0 hz1 hz2 rfl (by decide) _ _ _ rfl (HMK.out w2) ah 0 ch [] rfl rfl (fun j u h => by simp at h) (fun u h => by simp at h) (by unfold maxLen; omega) (by omega) (by simp) ?_; intro v3 w3 hown3 hgrow3 _; obtain ⟨Au, cu, rfl, O3, B3⟩ := app_nil (HMK.out w2) hown3 hgrow3; have HO3 := Lib.hid O3; have HB3 := Lib.hid B3; clear O3 B3 hown3 hgrow3) | (at_builtin; refine wpList_append_own _ rfl _ _ 22 rfl w.heap.size 23 i0 (.float .f32 0) 1 4 Try.underlying22 hi hz0 hz1 hz2 rfl (by decide) _ _ _ rfl (HMK.out w) ⟨bl, ofl, none⟩ low.length cl (fl low) rfl (by rw [fl_len]; omega) (HCL.out w (Below.refl _ _)) (cellsD low) (by unfold maxLen; omega) (by omega) (by simp) ?_; intro v2 w2 hown2 hgrow2 _; obtain ⟨bv, ov, cv, rfl, g2, s2, O2, B2⟩ := app_made (lo := w.heap.size) (HMK.out w) hown2 hgrow2 hl1; have HO2 := Lib.hid O2; have HG2 := Lib.hid g2; have HS2 := Lib.hid s2; have HB2 := Lib.hid B2; clear O2 B2 g2 s2 hown2 hgrow2))
      obtain ⟨cE, hcE⟩ : ∃ cE, cE = low := ⟨_, rfl⟩
      obtain ⟨cO, hcO⟩ : ∃ cO : List Nat, cO = [] := ⟨_, rfl⟩
      have HB := Lib.hid (show Below w.heap.size w w3 from HB2.out.trans (HB3.out.mono HB2.out.size))
      have HV := Lib.hid (show Own w3 w.heap.size (.slice (some ⟨bv, ov, none⟩) low.length cv) (fl cE) by rw [hcE]; exact HO2.out.below HB3.out)
      have HLE2 := Lib.hid (show cE.length = low.length by rw [hcE])
      have HLO2 := Lib.hid (show cO.length = 0 by rw [hcO]; rfl)
      have HIL := Lib.hid (show IsL (mrg cE cO) (dpL ws s low []) by rw [hcE, hcO]; exact HIL.out)
      clear hcE hcO
      obtain ⟨wq, hwq⟩ : ∃ q, q = w3 := ⟨_, rfl⟩
      subst hwq
      have HVC := Lib.hid (show ∀ (k : Nat), k < low.length → ∀ W : World, Below wq.heap.size wq W → W.cell? ⟨bv, ov + k, none⟩ = some (.float .f32 (cE.getD k 0)) from fun k hk W hB => by obtain ⟨_, h1, h2, _⟩ := HV.out.cells' (by omega); have h3 : k < cE.length := (by have := HLE2.out; omega); exact (hB.cell (p := ⟨bv, ov + k, none⟩) h1).trans ((h2 k _ (fl_get cE k h3)).trans (by simp [List.getD, h3])))
      have HNX := Lib.hid (mgR_next cE cO)
      have HEV := Lib.hid (mgAt_even cE cO)
      have HOD := Lib.hid (mgAt_odd cE cO)
      have HSQ := Lib.hid (Nat.le_refl wq.heap.size)
      go_loopw [13, 14] (OtR wq cE cO) (fun _ i _ => cE.length - (intOf i).toNat)
      case atStart => exact ⟨0, Nat.zero_le _, rfl, by simpa [otM, mgR] using HMK.out wq, (Below.refl _ _).alloc (Nat.le_refl _) _⟩
      case round =>
        obtain ⟨k, hk, rfl, hov, hb⟩ := hrel
        skip
        have hle := HLE2.out
        have hlo := HLO2.out
        by_cases hlt : k < low.length
        · have hv1 := HVC.out k hlt _ hb
          have E0 : otM cE.length cO.length k = 2 * k := by unfold otM; omega
          rw [E0] at hov
          have hki : (k : Int) < (low.length : Int) := by omega
          have HM := Lib.hid (show mgR cE cO (2 * k + 1) = mgR cE cO (2 * k) ++ [cE.getD k 0] by rw [HNX.out, HEV.out])
          have E1 := Lib.hid (show otM cE.length cO.length (k + 1) = 2 * k + 1 by unfold otM; omega)
          have hki2 : ¬ (k : Int) < (0 : Int) := by omega
          generalize cE.getD k 0 = x at *
          go_wp2_with (at_builtin; refine wpList_append_own _ rfl _ _ 22 rfl wq.heap.size 23 i0 (.float .f32 0) 1 4 Try.underlying22 hi hz0 hz1 hz2 rfl (by decide) _ _ _ rfl (hov.alloc _) ⟨wr.heap.size, 0, none⟩ 1 1 [.float .f32 x] rfl rfl (one_newL _ _ _) (cellsL _) (by unfold maxLen; omega) (by omega) (by simp; have := hb.size; omega) ?_; intro v8 w8 hown8 hgrow8 _; have B8 := (hb.alloc hb.size _).grown hgrow8 (by simp; have := hb.size; omega) (fun j hj => (hov.lt j hj).1))
          have q1 : w8.ownsRow wq.heap.size 23 1 v8 (otM cE.length cO.length (k + 1)) (fl (mgR cE cO (otM cE.length cO.length (k + 1)))) := by rw [E1.out, HM.out, fl_one1]; exact hown8
          clear hown8 hgrow8 hov hb hv1
          go_wp2_with fail
          go_roundw
          case rel => exact ⟨k + 1, by omega, by go_num, q1, B8⟩
          case measure => simp [intOf]; omega
        · obtain rfl : k = low.length := by omega
          have hmm : otM cE.length cO.length low.length = cE.length + cO.length := by unfold otM; omega
          rw [hmm] at hov
          have HO := Lib.hid (show Own _ _ _ (fl (mrg cE cO)) from Own.row hov)
          have HML := Lib.hid (show (mrg cE cO).length ≤ 1048576 by rw [mrg_len]; omega)
          have HFE := Lib.hid (isLs_fin (isL_isLs HIL.out))
          have HBB := Lib.hid (HB.out.trans (hb.mono HB.out.size))
          have HMX := Lib.hid (isL_lt HIL.out)
          clear hov hmm hb
          obtain hf | hf : finA (dpL ws s low []) = false ∨ finA (dpL ws s low []) = true := by cases finA (dpL ws s low []) <;> simp
          · have HF := Lib.hid hf
            clear hf
            generalize mrg cE cO = L at *
            go_wp2_with (go_at_call 101; refine (lsD_any _ L _ _ HO.out.rd HML.out HMX.out).mono ?_; rintro e w9 ⟨rfl, n9, rfl⟩; rw [HFE.out, HF.out])
            exact bodyPost_ret (v := .tuple #[.slice none 0 0, .bool false]) (by simp [results, Try.results66, go_sem]) rfl ⟨.slice none 0 0, [], by rw [HF.out], own_nilL _ _, by rw [HF.out]; exact isL_nil, below_drawn HBB.out _⟩
          · have HF := Lib.hid hf
            clear hf
            generalize mrg cE cO = L at *
            go_wp2_with (go_at_call 101; refine (lsD_any _ L _ _ HO.out.rd HML.out HMX.out).mono ?_; rintro e w9 ⟨rfl, n9, rfl⟩; rw [HFE.out, HF.out])
            have HVV := Lib.hid HO.out
            exact bodyPost_ret (v := .tuple #[_, .bool true]) (by simp [results, Try.results66, go_sem]; rfl) rfl ⟨_, L, by rw [HF.out], ((HO.out).less HB.out.size).drewN _, by rw [HF.out]; exact HIL.out, below_drawn HBB.out _⟩
    | none =>
      go_enter Try.func66, Try.ntmps66
      go_wp2_with (at_builtin; refine wpList_append_own _ rfl _ _ 22 rfl w.heap.size 23 i0 (.float .f32 0) 1 4 Try.underlying22 hi hz0 hz1 hz2 rfl (by decide) _ _ _ rfl (HMK.out w) ⟨bl, ofl, none⟩ low.length cl (fl low) rfl (by rw [fl_len]; omega) (HCL.out w (Below.refl _ _)) (cellsD low) (by unfold maxLen; omega) (by omega) (by simp) ?_; intro v2 w2 hown2 hgrow2 _; obtain ⟨bv, ov, cv, rfl, g2, s2, O2, B2⟩ := app_made (lo := w.heap.size) (HMK.out w) hown2 hgrow2 hl1; have HO2 := Lib.hid O2; have HG2 := Lib.hid g2; have HS2 := Lib.hid s2; have HB2 := Lib.hid B2; clear O2 B2 g2 s2 hown2 hgrow2)
      obtain ⟨w3, hw3⟩ : ∃ q, q = w2.alloc (Obj.cells #[] 23) := ⟨_, rfl⟩
      have hs3 : w2.heap.size + 1 = w3.heap.size := by rw [hw3]; simp
      rw [← hw3, hs3]
      have HB3 := Lib.hid (show Below w2.heap.size w2 w3 by rw [hw3]; exact (Below.refl _ _).alloc (Nat.le_refl _) _)
      clear hs3 hw3
      obtain ⟨cE, hcE⟩ : ∃ cE, cE = low := ⟨_, rfl⟩
      obtain ⟨cO, hcO⟩ : ∃ cO : List Nat, cO = [] := ⟨_, rfl⟩
      have HB := Lib.hid (show Below w.heap.size w w3 from HB2.out.trans (HB3.out.mono HB2.out.size))
      have HV := Lib.hid (show Own w3 w.heap.size (.slice (some ⟨bv, ov, none⟩) low.length cv) (fl cE) by rw [hcE]; exact HO2.out.below HB3.out)
      have HLE2 := Lib.hid (show cE.length = low.length by rw [hcE])
      have HLO2 := Lib.hid (show cO.length = 0 by rw [hcO]; rfl)
      have HIL := Lib.hid (show IsL (mrg cE cO) (dpL ws s low []) by rw [hcE, hcO]; exact HIL.out)
      clear hcE hcO
      obtain ⟨wq, hwq⟩ : ∃ q, q = w3 := ⟨_, rfl⟩
      subst hwq
      have HVC := Lib.hid (show ∀ (k : Nat), k < low.length → ∀ W : World, Below wq.heap.size wq W → W.cell? ⟨bv, ov + k, none⟩ = some (.float .f32 (cE.getD k 0)) from fun k hk W hB => by obtain ⟨_, h1, h2, _⟩ := HV.out.cells' (by omega); have h3 : k < cE.length := (by have := HLE2.out; omega); exact (hB.cell (p := ⟨bv, ov + k, none⟩) h1).trans ((h2 k _ (fl_get cE k h3)).trans (by simp [List.getD, h3])))
      have HNX := Lib.hid (mgR_next cE cO)
      have HEV := Lib.hid (mgAt_even cE cO)
      have HOD := Lib.hid (mgAt_odd cE cO)
      have HSQ := Lib.hid (Nat.le_refl wq.heap.size)
      go_loopw [13, 14] (OtR wq cE cO) (fun _ i _ => cE.length - (intOf i).toNat)
      case atStart => exact ⟨0, Nat.zero_le _, rfl, by simpa [otM, mgR] using HMK.out wq, (Below.refl _ _).alloc (Nat.le_refl _) _⟩
      case round =>
        obtain ⟨k, hk, rfl, hov, hb⟩ := hrel
        skip
        have hle := HLE2.out
        have hlo := HLO2.out
        by_cases hlt : k < low.length
        · have hv1 := HVC.out k hlt _ hb
          have E0 : otM cE.length cO.length k = 2 * k := by unfold otM; omega
          rw [E0] at hov
          have hki : (k : Int) < (low.length : Int) := by omega
          have HM := Lib.hid (show mgR cE cO (2 * k + 1) = mgR cE cO (2 * k) ++ [cE.getD k 0] by rw [HNX.out, HEV.out])
          have E1 := Lib.hid (show otM cE.length cO.length (k + 1) = 2 * k + 1 by unfold otM; omega)
          have hki2 : ¬ (k : Int) < (0 : Int) := by omega
          generalize cE.getD k 0 = x at *
          go_wp2_with (at_builtin; refine wpList_append_own _ rfl _ _ 22 rfl wq.heap.size 23 i0 (.float .f32 0) 1 4 Try.underlying22 hi hz0 hz1 hz2 rfl (by decide) _ _ _ rfl (hov.alloc _) ⟨wr.heap.size, 0, none⟩ 1 1 [.float .f32 x] rfl rfl (one_newL _ _ _) (cellsL _) (by unfold maxLen; omega) (by omega) (by simp; have := hb.size; omega) ?_; intro v8 w8 hown8 hgrow8 _; have B8 := (hb.alloc hb.size _).grown hgrow8 (by simp; have := hb.size; omega) (fun j hj => (hov.lt j hj).1))
          have q1 : w8.ownsRow wq.heap.size 23 1 v8 (otM cE.length cO.length (k + 1)) (fl (mgR cE cO (otM cE.length cO.length (k + 1)))) := by rw [E1.out, HM.out, fl_one1]; exact hown8
          clear hown8 hgrow8 hov hb hv1
          go_wp2_with fail
          go_roundw
          case rel => exact ⟨k + 1, by omega, by go_num, q1, B8⟩
          case measure => simp [intOf]; omega
        · obtain rfl : k = low.length := by omega
          have hmm : otM cE.length cO.length low.length = cE.length + cO.length := by unfold otM; omega
          rw [hmm] at hov
          have HO := Lib.hid (show Own _ _ _ (fl (mrg cE cO)) from Own.row hov)
          have HML := Lib.hid (show (mrg cE cO).length ≤ 1048576 by rw [mrg_len]; omega)
          have HFE := Lib.hid (isLs_fin (isL_isLs HIL.out))
          have HBB := Lib.hid (HB.out.trans (hb.mono HB.out.size))
          have HMX := Lib.hid (isL_lt HIL.out)
          clear hov hmm hb
          obtain hf | hf : finA (dpL ws s low []) = false ∨ finA (dpL ws s low []) = true := by cases finA (dpL ws s low []) <;> simp
          · have HF := Lib.hid hf
            clear hf
            generalize mrg cE cO = L at *
            go_wp2_with (go_at_call 101; refine (lsD_any _ L _ _ HO.out.rd HML.out HMX.out).mono ?_; rintro e w9 ⟨rfl, n9, rfl⟩; rw [HFE.out, HF.out])
            exact bodyPost_ret (v := .tuple #[.slice none 0 0, .bool false]) (by simp [results, Try.results66, go_sem]) rfl ⟨.slice none 0 0, [], by rw [HF.out], own_nilL _ _, by rw [HF.out]; exact isL_nil, below_drawn HBB.out _⟩
          · have HF := Lib.hid hf
            clear hf
            generalize mrg cE cO = L at *
            go_wp2_with (go_at_call 101; refine (lsD_any _ L _ _ HO.out.rd HML.out HMX.out).mono ?_; rintro e w9 ⟨rfl, n9, rfl⟩; rw [HFE.out, HF.out])
            have HVV := Lib.hid HO.out
            exact bodyPost_ret (v := .tuple #[_, .bool true]) (by simp [results, Try.results66, go_sem]; rfl) rfl ⟨_, L, by rw [HF.out], ((HO.out).less HB.out.size).drewN _, by rw [HF.out]; exact HIL.out, below_drawn HBB.out _⟩
end Go.Proofs.Ytfbdmhkmkmbipaa
