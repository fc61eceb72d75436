/-
  Contract: a list is lifted once, by the model.
-/
import Derived.Test.YtfbdmhkmkmbipaaLoK
import Derived.Test.YtfbdmhkmkmbipaaWgh
import Derived.Test.YtfbdmhkmkmbipaaHalf
namespace Go.Proofs.Ytfbdmhkmkmbipaa
open Go.RowKit Fl
set_option linter.unusedVariables false
set_option maxRecDepth 100000

def LoR (w : World) (xs : List Nat) (v u i : Value) (wr : World) : Prop :=
  ∃ k : Nat, k ≤ xs.length ∧ i = .int .i64 k ∧ wr.ownsRow w.heap.size 23 1 v ((k + 1) / 2) (fl (evP xs k)) ∧ wr.ownsRow w.heap.size 23 1 u (k / 2) (fl (odP xs k)) ∧ DJ v u ∧ Below w.heap.size w wr
def WtR (w : World) (ws xs : List Nat) (v u i : Value) (wr : World) : Prop :=
  ∃ (k : Nat) (cE cO : List Nat), k ≤ ws.length ∧ i = .int .i64 k ∧ Own wr w.heap.size v (fl cE) ∧ IsL cE (wgK ws (evN xs) (odN xs) k).1 ∧ Own wr w.heap.size u (fl cO) ∧ IsL cO (wgK ws (evN xs) (odN xs) k).2 ∧ Below w.heap.size w wr
theorem one_newL (w : World) (x : Value) (E : TypeId) : ∀ j u, [x][j]? = some u → (w.alloc (.cells #[x] E)).cell? ((⟨w.heap.size, 0, none⟩ : Addr).add j) = some u := by
  intro j u hu
  cases j with
  | zero =>
    simp at hu; subst hu
    rw [Go.WideShapes.add_plain]
    exact (cell_of_row _ _ _ _ _ _ (heap_alloc_new w _)).trans rfl
  | succ j => simp at hu
theorem cellsL (x : Nat) : ∀ u ∈ [Value.float .f32 x], u.oneCell' = true := by
  intro u hu; simp at hu; subst hu; rfl
set_option maxHeartbeats 8000000 in
theorem lonS_any (g s : Nat) (ws xs : List Nat) (vw vx : Value) (w : World) (hg : g < w.heap.size) (k0 : w.cell? ⟨g, 0, none⟩ = some vw) (k1 : w.cell? ⟨g, 1, none⟩ = some (.float .f32 s)) (hrw : Rd w w.heap.size vw (fl ws)) (hrx : Rd w w.heap.size vx (fl xs)) (hw8 : 1 ≤ ws.length ∧ ws.length ≤ 8) (hx1 : 1 ≤ xs.length) (hx128 : xs.length ≤ 128)
    (hfw : finA ws = true) (hwx : ∀ x ∈ ws, x < 2 ^ 32) (hfx : finA xs = true) (hx : ∀ x ∈ xs, x < 2 ^ 32) (hfs : finB .f32 s = true) (hs : s < 2 ^ 32) :
    Calls Try.prog 59 #[.pointer (some ⟨g, 0, none⟩), vx] w (RetLo (loE ws s xs) (loO ws s xs) w) := by
  obtain ⟨i0, hi, hz0, hz1, hz2⟩ := info_parts infoF
  obtain ⟨A, c, hv, hc1, hc2, hcell⟩ := id hrx
  rw [fl_len] at hv hc1 hcell
  subst hv
  obtain ⟨b, off, rfl, hbl, hcc⟩ := hcell (by omega)
  have HC := Lib.hid (show ∀ (i : Nat) (h : i < xs.length), w.cell? ⟨b, off + i, none⟩ = some (.float .f32 (xs.getD i 0)) from fun i hi => by have := hcc i _ (fl_get xs i hi); simpa [List.getD, hi] using this)
  clear hcell hcc
  obtain ⟨hE0, hO0⟩ : evP xs 0 = [] ∧ odP xs 0 = [] := ⟨rfl, rfl⟩
  have HRW := Lib.hid hrw
  have K0 := Lib.hid k0
  have K1 := Lib.hid k1
  clear hrw k0 k1 hrx
  have hsf : ∀ (a : Addr) (x : Nat) (w : World), (store a (.float .f32 x)).run Try.prog w = stored Try.prog w a (.float .f32 x) .plain := fun a x w => run_store _ w a _ _ rfl
  go_enter Try.func59, Try.ntmps59
  go_wp2_with fail
  have ho1 : ((w.alloc (Obj.cells #[] 23)).alloc (Obj.cells #[] 23)).ownsRow w.heap.size 23 1 (.slice (some ⟨w.heap.size, 0, none⟩) 0 0) 0 (fl []) := (World.ownsRow_made w #[] 0 (Nat.le_refl _) (Nat.zero_le _) rfl).alloc _
  have ho2 : ((w.alloc (Obj.cells #[] 23)).alloc (Obj.cells #[] 23)).ownsRow w.heap.size 23 1 (.slice (some ⟨w.heap.size + 1, 0, none⟩) 0 0) 0 (fl []) := by
    have := World.ownsRow_made (base := w.heap.size) (e := 23) (size := 1) (w.alloc (Obj.cells #[] 23)) #[] 0 (by simp) (Nat.zero_le _) rfl
    simpa [fl] using this
  have hb0 : Below w.heap.size w ((w.alloc (Obj.cells #[] 23)).alloc (Obj.cells #[] 23)) := ((Below.refl _ _).alloc (Nat.le_refl _) _).alloc (by simp) _
  have hd0 : DJ (.slice (some ⟨w.heap.size, 0, none⟩) 0 0) (.slice (some ⟨w.heap.size + 1, 0, none⟩) 0 0) := by
    intro k h1 h2
    simp only [Value.ownBlock, Option.some.injEq] at h1 h2
    omega
  go_loopw [7, 8, 9] (LoR w xs) (fun _ _ i _ => xs.length - (intOf i).toNat)
  case atStart => exact ⟨0, Nat.zero_le _, rfl, ho1, ho2, hd0, hb0⟩
  case round =>
    obtain ⟨k, hk, rfl, hov, hou, hdj, hb⟩ := hrel
    clear ho1 ho2 hb0 hd0 hE0 hO0
    by_cases hlt : k < xs.length
    · have hsrc : wr.cell? ⟨b, off + k, none⟩ = some (.float .f32 (xs.getD k 0)) := (hb.cell (p := ⟨b, off + k, none⟩) hbl).trans (HC.out k hlt)
      have hrm : (k : Int).tmod 2 = ((k % 2 : Nat) : Int) := by rw [Int.tmod_eq_emod_of_nonneg (by omega)]; simp
      have hrm2 : (k : Int) % 2 = ((k % 2 : Nat) : Int) := by simp
      have hki : (k : Int) < (xs.length : Int) := by omega
      by_cases he : k % 2 = 0
      · have HGD : xs.getD k 0 = xs[k] := by simp [List.getD, hlt]
        have HE := Lib.hid (evP_even xs k he)
        have HO := Lib.hid (odP_even xs k he)
        rw [HGD] at HE
        clear HGD
        have E1 := Lib.hid (show (k + 1 + 1) / 2 = (k + 1) / 2 + 1 by omega)
        have E2 := Lib.hid (show (k + 1) / 2 = k / 2 by omega)
        rw [he] at hrm hrm2
        clear he
        go_wp2_with (at_builtin; go_loud (refine wpList_append_own_at _ rfl _ _ 22 rfl w.heap.size 23 i0 (.float .f32 0) 1 4 Try.underlying22 hi hz0 hz1 hz2 rfl (by decide) _ _ _ rfl (hov.alloc _) ⟨wr.heap.size, 0, none⟩ 1 1 [.float .f32 xs[k]] rfl rfl (one_newL _ _ _) (cellsL _) (by unfold maxLen; omega) (by omega) (by simp; have := hb.size; omega) ?_; intro v' w1 hown' hgrow _ hat))
        have q1 : w1.ownsRow w.heap.size 23 1 v' ((k + 1 + 1) / 2) (fl (evP xs (k + 1))) := by rw [E1.out, HE.out, show fl (evP xs k ++ [xs[k]]) = fl (evP xs k) ++ [.float .f32 xs[k]] by simp [fl]]; exact hown'
        have q2 := (hou.alloc (Obj.cells #[.float .f32 xs[k]] 23)).kept hgrow (dj_kept hdj)
        rw [← E2.out, ← HO.out] at q2
        have q3 := hdj.grow hou (s := (wr.alloc (Obj.cells #[.float .f32 xs[k]] 23)).heap.size) (by simp) hat
        have q4 : Below w.heap.size w w1 := (hb.alloc hb.size _).grown hgrow (by simp; have := hb.size; omega) (fun j hj => (hov.lt j hj).1)
        clear hown' hgrow hat hov hou hdj hb
        go_wp2_with fail
        go_roundw
        case rel => exact ⟨k + 1, by omega, by go_num, q1, q2, q3, q4⟩
        case measure => simp [intOf]; omega
      · have he1 : k % 2 = 1 := by omega
        have HGD : xs.getD k 0 = xs[k] := by simp [List.getD, hlt]
        have HE := Lib.hid (evP_odd xs k he1)
        have HO := Lib.hid (odP_odd xs k he1)
        rw [HGD] at HO
        clear HGD
        have E1 := Lib.hid (show (k + 1 + 1) / 2 = (k + 1) / 2 by omega)
        have E2 := Lib.hid (show (k + 1) / 2 = k / 2 + 1 by omega)
        rw [he1] at hrm hrm2
        clear he he1
        go_wp2_with (at_builtin; go_loud (refine wpList_append_own_at _ rfl _ _ 22 rfl w.heap.size 23 i0 (.float .f32 0) 1 4 Try.underlying22 hi hz0 hz1 hz2 rfl (by decide) _ _ _ rfl (hou.alloc _) ⟨wr.heap.size, 0, none⟩ 1 1 [.float .f32 xs[k]] rfl rfl (one_newL _ _ _) (cellsL _) (by unfold maxLen; omega) (by omega) (by simp; have := hb.size; omega) ?_; intro v' w1 hown' hgrow _ hat))
        have q1 := (hov.alloc (Obj.cells #[.float .f32 xs[k]] 23)).kept hgrow (dj_kept hdj.symm)
        rw [← E1.out, ← HE.out] at q1
        have q2 : w1.ownsRow w.heap.size 23 1 v' ((k + 1) / 2) (fl (odP xs (k + 1))) := by rw [HO.out, E2.out, show fl (odP xs k ++ [xs[k]]) = fl (odP xs k) ++ [.float .f32 xs[k]] by simp [fl]]; exact hown'
        have q3 := (hdj.symm.grow hov (s := (wr.alloc (Obj.cells #[.float .f32 xs[k]] 23)).heap.size) (by simp) hat).symm
        have q4 : Below w.heap.size w w1 := (hb.alloc hb.size _).grown hgrow (by simp; have := hb.size; omega) (fun j hj => (hou.lt j hj).1)
        clear hown' hgrow hat hov hou hdj hb
        go_wp2_with fail
        go_roundw
        case rel => exact ⟨k + 1, by omega, by go_num, q1, q2, q3, q4⟩
        case measure => simp [intOf]; omega
    · obtain rfl : k = xs.length := by omega
      have HV := Own.row hov
      change Own wr w.heap.size _ (fl (evN xs)) at HV
      have HV := Lib.hid HV
      have HU := Own.row hou
      change Own wr w.heap.size _ (fl (odN xs)) at HU
      have HU := Lib.hid HU
      have HAP := Lib.hid hdj.apart
      have HB := Lib.hid hb
      clear hov hou hdj hb
      obtain ⟨Av, cv, hvv, _, _, hcv⟩ := id HV.out
      obtain ⟨Au, cu, huu, _, _, hcu⟩ := id HU.out
      rw [fl_len, evN_len] at hvv
      rw [fl_len, odN_len] at huu
      subst hvv huu
      by_cases h2 : 2 ≤ xs.length
      · obtain ⟨l1, l2⟩ := lo_more (ws := ws) (s := s) (xs := xs) h2
        have HL1 := Lib.hid l1
        have HL2 := Lib.hid l2
        clear l1 l2
        have hz : 0 < xs.length / 2 := by omega
        obtain ⟨bv, ov, rfl, _⟩ := hcv (by rw [fl_len, evN_len]; omega)
        obtain ⟨bu, ou, rfl, _⟩ := hcu (by rw [fl_len, odN_len]; omega)
        obtain ⟨Aw, cw, hvw, _, _, hcw⟩ := id HRW.out
        rw [fl_len] at hvw hcw
        subst hvw
        obtain ⟨bw, ofw, rfl, hbw, hcw⟩ := hcw (by omega)
        have HW := Lib.hid (fun (i : Nat) (h : i < ws.length) => hcw i _ (fl_get ws i h))
        clear hcw
        have hzb : (((xs.length : Int) / 2) == 0) = false := by rw [beq_eq_false_iff_ne]; omega
        go_wp2_with fail
        try rw [hzb]
        go_loopw [10] (WtR w ws xs (.slice (some ⟨bv, ov, none⟩) ((xs.length + 1) / 2) cv) (.slice (some ⟨bu, ou, none⟩) (xs.length / 2) cu)) (fun i _ => ws.length - (intOf i).toNat)
        case atStart => exact ⟨0, evN xs, odN xs, Nat.zero_le _, rfl, HV.out, isL_self (evN_fin hfx) (evN_mem hx), HU.out, isL_self (odN_fin hfx) (odN_mem hx), HB.out⟩
        case round =>
          clear HV HU HB
          obtain ⟨k, cE, cO, hk, rfl, ho, hE, hp, hO, hb⟩ := hrel
          have hlE : cE.length = (xs.length + 1) / 2 := by rw [hE.1, (wgK_len ws (evN xs) (odN xs) k).1, evN_len]
          have hlO : cO.length = xs.length / 2 := by rw [hO.1, (wgK_len ws (evN xs) (odN xs) k).2, odN_len]
          have hsv : _root_.Go.World.cell? _ ⟨g, 0, none⟩ = some (.slice (some ⟨bw, ofw, none⟩) ws.length cw) := (hb.cell (p := ⟨g, 0, none⟩) hg).trans K0.out
          by_cases hlt : k < ws.length
          · have hwk := (hb.cell (p := ⟨bw, ofw + k, none⟩) hbw).trans (HW.out k hlt)
            have hwi : Is .f32 ws[k] (ws.getD k 0) := by have := (isL_self hfw hwx).2 k; simpa [List.getD, hlt] using this
            generalize ws[k] = wt at *
            have HB := Lib.hid hb
            have hki : (k : Int) < (ws.length : Int) := by omega
            by_cases he : k % 2 = 0
            · have HC := Lib.hid (wghO_any wt (ws.getD k 0) k (.slice (some ⟨bv, ov, none⟩) ((xs.length + 1) / 2) cv) (.slice (some ⟨bu, ou, none⟩) (xs.length / 2) cu) cE _ cO _ _ w.heap.size he (by omega) hwi hp ho HAP.out  hE hO  (by omega) (by omega))
              have HE := Lib.hid hE
              have HO := Lib.hid hO
              have HEV := Lib.hid (wgK_even ws (evN xs) (odN xs) k he)
              clear ho hp hE hO he hwi hb
              go_wp2_with (go_at_call 117; refine HC.out.mono ?_; rintro e w1 ⟨rfl, cur, q1, q2, q3, q4⟩)
              go_wp2_with fail
              go_roundw
              case rel => exact ⟨k + 1, cE, cur, by omega, by go_num, q3, by rw [HEV.out]; exact HE.out, q1, by rw [HEV.out]; exact q2, HB.out.trans q4⟩
              case measure => simp [intOf]; omega
            · have he1 : k % 2 = 1 := by omega
              have HC := Lib.hid (wghE_any wt (ws.getD k 0) k (.slice (some ⟨bv, ov, none⟩) ((xs.length + 1) / 2) cv) (.slice (some ⟨bu, ou, none⟩) (xs.length / 2) cu) cO _ cE _ _ w.heap.size he1 (by omega) hwi ho hp HAP.out.symm  hO hE  (by omega) (by omega) (by omega))
              have HE := Lib.hid hE
              have HO := Lib.hid hO
              have HEV := Lib.hid (wgK_odd ws (evN xs) (odN xs) k he1)
              clear ho hp hE hO he hwi hb he1
              go_wp2_with (go_at_call 117; refine HC.out.mono ?_; rintro e w1 ⟨rfl, cur, q1, q2, q3, q4⟩)
              go_wp2_with fail
              go_roundw
              case rel => exact ⟨k + 1, cur, cO, by omega, by go_num, q1, by rw [HEV.out]; exact q2, q3, by rw [HEV.out]; exact HO.out, HB.out.trans q4⟩
              case measure => simp [intOf]; omega
          · obtain rfl : k = ws.length := by omega
            have HV := Lib.hid ho
            have HE := Lib.hid hE
            have HU := Lib.hid hp
            have HO := Lib.hid hO
            have HB := Lib.hid hb
            clear ho hE hp hO hb
            have HIS := Lib.hid (show Is .f32 s s from is_fin hfs hs)
            generalize (wgK ws (evN xs) (odN xs) ws.length).1 = tE at *
            generalize (wgK ws (evN xs) (odN xs) ws.length).2 = tO at *
            have httE : tE.length = (xs.length + 1) / 2 := by rw [← HE.out.1, hlE]
            have HI := Lib.hid (show IsL cE (prN tE (scF .mul s tE) 0) by rw [prN_zero]; exact HE.out)
            have HN := Lib.hid (show prN tE (scF .mul s tE) tE.length = loE ws s xs by rw [HL1.out]; exact prN_all _ _)
            have HF := Lib.hid (show ∀ k : Nat, scF .mul s tE k = ar .mul .f32 (tE.getD k 0) s from fun k => rfl)
            generalize scF .mul s tE = fg at *
            go_wp2_with fail
            go_loopw [11] (WgR w w.heap.size (.slice (some ⟨bv, ov, none⟩) ((xs.length + 1) / 2) cv) (.slice (some ⟨bu, ou, none⟩) (xs.length / 2) cu) cO tE fg) (fun i _ => tE.length - (intOf i).toNat)
            case atStart => exact ⟨0, cE, Nat.zero_le _, rfl, HV.out, HI.out, HU.out, HB.out⟩
            case round =>
              clear HV HU HB
              obtain ⟨k, cur, hk, rfl, ho, hi, hr, hb⟩ := hrel
              have hcl : cur.length = (xs.length + 1) / 2 := by rw [hi.1, prN_len, httE]
              by_cases hlt : k < (xs.length + 1) / 2
              · obtain ⟨hlo, hbw1, hcc, hff⟩ := ho.cells' (by omega)
                have hdst := (hcc k _ (fl_get cur k (by omega))).trans (show _ = some (Value.float .f32 (cur.getD k 0)) by simp [List.getD, show k < cur.length by omega])
                have hfz := hff k hlt
                have hs1 := (hb.cell (p := ⟨g, 1, none⟩) hg).trans K1.out
                have hc0 := Lib.hid (show Is .f32 (cur.getD k 0) (tE.getD k 0) by have := hi.2 k; rw [prN_at] at this; exact this)
                have HFk := Lib.hid (HF.out k)
                have HS := Lib.hid (fun r (hr : Is .f32 r (fg k)) => hi.set (by omega) hr)
                have HP := Lib.hid (fun N r => (ho.drewN N).put k hlt (.float .f32 r))
                have HR := Lib.hid (fun N r => own_put (hr.drewN N) HAP.out.symm hlt (.float .f32 r))
                have HB := Lib.hid hb
                generalize cur.getD k 0 = x0 at *
                generalize tE.getD k 0 = cx0 at *
                have hki : (k : Int) < ((xs.length : Int) + 1) / 2 := by omega
                clear hcc hff hr hb ho hi
                go_wp2_with fail
                refine Sf.wp_soft [false, false, false, false, false, false, false, false, false, false, false, true, true] [true, true, true, true, true, true, true, true, true, true, true, false, false] (fun i => if i = 10 then 0 else 1) (fun _ => undef) (by kernel_rfl) (by kernel_rfl) (by kernel_rfl) ?_
                simp only [Sf.tl]
                refine Sf.lx_one rfl rfl (fun K hK => Sf.dft_quiet rfl ?_)
                go_big_quiet_op
                refine hK _ ?_
                clear hK K
                refine Sf.lx_one rfl rfl (fun K hK => Sf.dft_quiet rfl ?_)
                go_big_quiet_op
                refine hK _ ?_
                clear hK K
                refine Sf.lx_one rfl rfl (fun K hK => Sf.dft_quiet rfl ?_)
                go_big_quiet_op
                refine hK _ ?_
                clear hK K
                refine Sf.lx_one rfl rfl (fun K hK => Sf.dft_quiet rfl ?_)
                go_big_quiet_op
                refine hK _ ?_
                clear hK K
                refine Sf.lx_one rfl rfl (fun K hK => Sf.dft_quiet rfl ?_)
                go_big_quiet_op
                refine hK _ ?_
                clear hK K
                refine Sf.lx_one rfl rfl (fun K hK => Sf.dft_quiet rfl ?_)
                go_big_quiet_op
                refine hK _ ?_
                clear hK K
                refine Sf.lx_one rfl rfl (fun K hK => Sf.dft_quiet rfl ?_)
                go_big_quiet_op
                refine hK _ ?_
                clear hK K
                refine Sf.lx_one rfl rfl (fun K hK => Sf.dft_nil rfl rfl (hK _ ?_))
                clear hK K
                simp only [Act.put, List.setIfInBounds_toArray, List.set_cons_zero, List.set_cons_succ]
                refine Sf.lx_one rfl rfl (fun K hK => Sf.dft_quiet rfl ?_)
                go_big_quiet_op
                refine hK _ ?_
                clear hK K
                refine Sf.lx_one rfl rfl (fun K hK => Sf.dft_quiet rfl ?_)
                go_big_quiet_op
                refine hK _ ?_
                clear hK K
                refine Sf.lx_fl rfl rfl (fun K hK => Sf.sft_ar (k := .f32) rfl rfl rfl rfl (hc0.out) (HIS.out) (fun r79 hr79 => hK _ ?_))
                clear hK K
                simp only [Act.put, List.setIfInBounds_toArray, List.set_cons_zero, List.set_cons_succ]
                refine Sf.lx_over ?_
                refine Sf.lx_over ?_
                refine Sf.lx_nil ?_
                rintro _ ⟨nq, rfl⟩
                go_wp2_with fail
                go_roundw
                case rel => exact ⟨k + 1, cur.set k r79, by omega, by go_num, by rw [← fl_set]; exact HP.out _ r79, HS.out r79 (by rw [HFk.out]; exact hr79), HR.out _ r79, (below_drawn HB.out _).setCell hlo _⟩
                case measure => simp [intOf]; omega
              · obtain rfl : k = (xs.length + 1) / 2 := by omega
                have HE := Lib.hid (show IsL cur (loE ws s xs) by rw [← HN.out, httE]; exact hi)
                have HV := Lib.hid ho
                have HU := Lib.hid hr
                have HB := Lib.hid hb
                clear hi ho hr hb HI HN HF
                generalize cur = cF at *
                have httO : tO.length = xs.length / 2 := by rw [← HO.out.1, hlO]
                have HI := Lib.hid (show IsL cO (prN tO (scF .quo s tO) 0) by rw [prN_zero]; exact HO.out)
                have HN := Lib.hid (show prN tO (scF .quo s tO) tO.length = loO ws s xs by rw [HL2.out]; exact prN_all _ _)
                have HF := Lib.hid (show ∀ k : Nat, scF .quo s tO k = ar .quo .f32 (tO.getD k 0) s from fun k => rfl)
                generalize scF .quo s tO = fg at *
                go_wp2_with fail
                go_loopw [12] (WgR w w.heap.size (.slice (some ⟨bu, ou, none⟩) (xs.length / 2) cu) (.slice (some ⟨bv, ov, none⟩) ((xs.length + 1) / 2) cv) cF tO fg) (fun i _ => tO.length - (intOf i).toNat)
                case atStart => exact ⟨0, cO, Nat.zero_le _, rfl, HU.out, HI.out, HV.out, HB.out⟩
                case round =>
                  clear HV HU HB
                  obtain ⟨k, cur, hk, rfl, ho, hi, hr, hb⟩ := hrel
                  have hcl : cur.length = xs.length / 2 := by rw [hi.1, prN_len, httO]
                  by_cases hlt : k < xs.length / 2
                  · obtain ⟨hlo, hbw1, hcc, hff⟩ := ho.cells' (by omega)
                    have hdst := (hcc k _ (fl_get cur k (by omega))).trans (show _ = some (Value.float .f32 (cur.getD k 0)) by simp [List.getD, show k < cur.length by omega])
                    have hfz := hff k hlt
                    have hs1 := (hb.cell (p := ⟨g, 1, none⟩) hg).trans K1.out
                    have hc0 := Lib.hid (show Is .f32 (cur.getD k 0) (tO.getD k 0) by have := hi.2 k; rw [prN_at] at this; exact this)
                    have HFk := Lib.hid (HF.out k)
                    have HS := Lib.hid (fun r (hr : Is .f32 r (fg k)) => hi.set (by omega) hr)
                    have HP := Lib.hid (fun N r => (ho.drewN N).put k hlt (.float .f32 r))
                    have HR := Lib.hid (fun N r => own_put (hr.drewN N) HAP.out hlt (.float .f32 r))
                    have HB := Lib.hid hb
                    generalize cur.getD k 0 = x0 at *
                    generalize tO.getD k 0 = cx0 at *
                    have hki : (k : Int) < (xs.length : Int) / 2 := by omega
                    clear hcc hff hr hb ho hi
                    go_wp2_with fail
                    refine Sf.wp_soft [false, false, false, false, false, false, false, false, false, false, false, true, true] [true, true, true, true, true, true, true, true, true, true, true, false, false] (fun i => if i = 10 then 0 else 1) (fun _ => undef) (by kernel_rfl) (by kernel_rfl) (by kernel_rfl) ?_
                    simp only [Sf.tl]
                    refine Sf.lx_one rfl rfl (fun K hK => Sf.dft_quiet rfl ?_)
                    go_big_quiet_op
                    refine hK _ ?_
                    clear hK K
                    refine Sf.lx_one rfl rfl (fun K hK => Sf.dft_quiet rfl ?_)
                    go_big_quiet_op
                    refine hK _ ?_
                    clear hK K
                    refine Sf.lx_one rfl rfl (fun K hK => Sf.dft_quiet rfl ?_)
                    go_big_quiet_op
                    refine hK _ ?_
                    clear hK K
                    refine Sf.lx_one rfl rfl (fun K hK => Sf.dft_quiet rfl ?_)
                    go_big_quiet_op
                    refine hK _ ?_
                    clear hK K
                    refine Sf.lx_one rfl rfl (fun K hK => Sf.dft_quiet rfl ?_)
                    go_big_quiet_op
                    refine hK _ ?_
                    clear hK K
                    refine Sf.lx_one rfl rfl (fun K hK => Sf.dft_quiet rfl ?_)
                    go_big_quiet_op
                    refine hK _ ?_
                    clear hK K
                    refine Sf.lx_one rfl rfl (fun K hK => Sf.dft_quiet rfl ?_)
                    go_big_quiet_op
                    refine hK _ ?_
                    clear hK K
                    refine Sf.lx_one rfl rfl (fun K hK => Sf.dft_nil rfl rfl (hK _ ?_))
                    clear hK K
                    simp only [Act.put, List.setIfInBounds_toArray, List.set_cons_zero, List.set_cons_succ]
                    refine Sf.lx_one rfl rfl (fun K hK => Sf.dft_quiet rfl ?_)
                    go_big_quiet_op
                    refine hK _ ?_
                    clear hK K
                    refine Sf.lx_one rfl rfl (fun K hK => Sf.dft_quiet rfl ?_)
                    go_big_quiet_op
                    refine hK _ ?_
                    clear hK K
                    refine Sf.lx_fl rfl rfl (fun K hK => Sf.sft_ar (k := .f32) rfl rfl rfl rfl (hc0.out) (HIS.out) (fun r97 hr97 => hK _ ?_))
                    clear hK K
                    simp only [Act.put, List.setIfInBounds_toArray, List.set_cons_zero, List.set_cons_succ]
                    refine Sf.lx_over ?_
                    refine Sf.lx_over ?_
                    refine Sf.lx_nil ?_
                    rintro _ ⟨nq, rfl⟩
                    go_wp2_with fail
                    go_roundw
                    case rel => exact ⟨k + 1, cur.set k r97, by omega, by go_num, by rw [← fl_set]; exact HP.out _ r97, HS.out r97 (by rw [HFk.out]; exact hr97), HR.out _ r97, (below_drawn HB.out _).setCell hlo _⟩
                    case measure => simp [intOf]; omega
                  · obtain rfl : k = xs.length / 2 := by omega
                    have HO := Lib.hid (show IsL cur (loO ws s xs) by rw [← HN.out, httO]; exact hi)
                    have HU := Lib.hid ho
                    have HV := Lib.hid hr
                    have HB := Lib.hid hb
                    clear hi ho hr hb HI HN HF
                    generalize cur = cG at *
                    have HT1 := Lib.hid (show ∀ (w' : World), Own w' w.heap.size (.slice (some ⟨bv, ov, none⟩) ((xs.length + 1) / 2) cv) (fl cF) → Calls Try.prog 65 #[(.slice (some ⟨bv, ov, none⟩) ((xs.length + 1) / 2) cv)] w' (RetBo (finA cF) w') from fun w' h => finS_any _ cF w' _ h.rd (by omega) (isL_lt HE.out))
                    have HT2 := Lib.hid (show ∀ (w' : World), Own w' w.heap.size (.slice (some ⟨bu, ou, none⟩) (xs.length / 2) cu) (fl cG) → Calls Try.prog 65 #[(.slice (some ⟨bu, ou, none⟩) (xs.length / 2) cu)] w' (RetBo (finA cG) w') from fun w' h => finS_any _ cG w' _ h.rd (by omega) (isL_lt HO.out))
                    obtain q1 | q1 : finA (loE ws s xs) = false ∨ finA (loE ws s xs) = true := by cases finA (loE ws s xs) <;> simp
                    · have HF1 : finA cF = false := (isLs_fin (isL_isLs HE.out)).trans q1
                      go_wp2_with (go_at_call 65; (with_reducible refine (HT1.out _ HV.out).mono ?_); rintro e w1 ⟨rfl, n1, rfl⟩; rw [HF1])
                      exact bodyPost_ret (v := .tuple #[(.slice (some ⟨bv, ov, none⟩) ((xs.length + 1) / 2) cv), (.slice (some ⟨bu, ou, none⟩) (xs.length / 2) cu), .bool false]) (by simp [results, Try.results59, go_sem]) rfl ⟨(.slice (some ⟨bv, ov, none⟩) ((xs.length + 1) / 2) cv), (.slice (some ⟨bu, ou, none⟩) (xs.length / 2) cu), cF, cG, by rw [q1]; rfl, HV.out.drewN _, HE.out, HU.out.drewN _, HO.out, HAP.out, by first | exact below_drawn HB.out _ | exact below_drawn (below_drawn HB.out _) _⟩
                    · have HF1 : finA cF = true := (isLs_fin (isL_isLs HE.out)).trans q1
                      obtain q2 | q2 : finA (loO ws s xs) = false ∨ finA (loO ws s xs) = true := by cases finA (loO ws s xs) <;> simp
                      · have HF2 : finA cG = false := (isLs_fin (isL_isLs HO.out)).trans q2
                        go_wp2_with (first | (go_at_call 65; (with_reducible refine (HT1.out _ HV.out).mono ?_); rintro e w1 ⟨rfl, n1, rfl⟩; rw [HF1]) | (go_at_call 65; (with_reducible refine (HT2.out _ (HU.out.drewN _)).mono ?_); rintro e w1 ⟨rfl, n2, rfl⟩; rw [HF2]))
                        exact bodyPost_ret (v := .tuple #[(.slice (some ⟨bv, ov, none⟩) ((xs.length + 1) / 2) cv), (.slice (some ⟨bu, ou, none⟩) (xs.length / 2) cu), .bool false]) (by simp [results, Try.results59, go_sem]) rfl ⟨(.slice (some ⟨bv, ov, none⟩) ((xs.length + 1) / 2) cv), (.slice (some ⟨bu, ou, none⟩) (xs.length / 2) cu), cF, cG, by rw [q1, q2]; rfl, HV.out.drewN _, HE.out, HU.out.drewN _, HO.out, HAP.out, by first | exact below_drawn HB.out _ | exact below_drawn (below_drawn HB.out _) _⟩
                      · have HF2 : finA cG = true := (isLs_fin (isL_isLs HO.out)).trans q2
                        go_wp2_with (first | (go_at_call 65; (with_reducible refine (HT1.out _ HV.out).mono ?_); rintro e w1 ⟨rfl, n1, rfl⟩; rw [HF1]) | (go_at_call 65; (with_reducible refine (HT2.out _ (HU.out.drewN _)).mono ?_); rintro e w1 ⟨rfl, n2, rfl⟩; rw [HF2]))
                        exact bodyPost_ret (v := .tuple #[(.slice (some ⟨bv, ov, none⟩) ((xs.length + 1) / 2) cv), (.slice (some ⟨bu, ou, none⟩) (xs.length / 2) cu), .bool true]) (by simp [results, Try.results59, go_sem]) rfl ⟨(.slice (some ⟨bv, ov, none⟩) ((xs.length + 1) / 2) cv), (.slice (some ⟨bu, ou, none⟩) (xs.length / 2) cu), cF, cG, by rw [q1, q2]; rfl, HV.out.drewN _, HE.out, HU.out.drewN _, HO.out, HAP.out, by first | exact below_drawn HB.out _ | exact below_drawn (below_drawn HB.out _) _⟩
      · obtain ⟨l1, l2⟩ := lo_one (ws := ws) (s := s) (xs := xs) (by omega)
        have hz : xs.length / 2 = 0 := by omega
        have HSE := Lib.hid (show IsL (evN xs) (loE ws s xs) by rw [l1]; exact isL_self (evN_fin hfx) (evN_mem hx))
        have HSO := Lib.hid (show IsL (odN xs) (loO ws s xs) by rw [l2]; exact isL_self (odN_fin hfx) (odN_mem hx))
        have HFF := Lib.hid (show (finA (loE ws s xs) && finA (loO ws s xs)) = true by rw [l1, l2, evN_fin hfx, odN_fin hfx]; rfl)
        clear l1 l2 h2
        go_wp2_with fail
        exact bodyPost_ret (v := .tuple #[.slice Av ((xs.length + 1) / 2) cv, .slice Au (xs.length / 2) cu, .bool true]) (by simp [results, Try.results59, go_sem]) rfl ⟨.slice Av ((xs.length + 1) / 2) cv, .slice Au (xs.length / 2) cu, evN xs, odN xs, by rw [HFF.out], HV.out, HSE.out, HU.out, HSO.out, HAP.out, HB.out⟩
end Go.Proofs.Ytfbdmhkmkmbipaa
