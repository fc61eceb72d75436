/-
  Contracts: one weight of a scheme changes odds or evens, by the model.
-/
import Derived.Test.YtfbdmhkmkmbipaaStp
import Derived.Test.YtfbdmhkmkmbipaaSft
import Derived.BigQuiet
namespace Go.Proofs.Ytfbdmhkmkmbipaa
open Go.RowKit Fl
set_option linter.unusedVariables false
set_option maxRecDepth 100000

def WgR (w : World) (lo : Nat) (v u : Value) (xs t : List Nat) (f : Nat → Nat) (i : Value) (wr : World) : Prop :=
  ∃ (k : Nat) (cur : List Nat), k ≤ t.length ∧ i = .int .i64 k ∧ Own wr lo v (fl cur) ∧ IsL cur (prN t f k) ∧ Own wr lo u (fl xs) ∧ Below lo w wr
set_option maxHeartbeats 8000000 in
theorem wghO_any (wt cw kk : Nat) (vl vh : Value) (xs cxs t ct : List Nat) (w : World) (lo : Nat) (hpar : kk % 2 = 0) (hkk : kk ≤ 8) (hw : Is .f32 wt cw) (ho : Own w lo vh (fl t)) (hr : Own w lo vl (fl xs)) (hap : Apart vh vl)
    (hx : IsL xs cxs) (ht : IsL t ct) (hl : t.length ≤ xs.length) (hm : xs.length ≤ 128) :
    Calls Try.prog 117 #[vl, vh, .int .i64 (kk : Int), .float .f32 wt] w (RetStp lo vh vl xs (upO cw cxs ct) w) := by
  obtain ⟨A, c, hv, hc1, hc2, hcell⟩ := id ho
  obtain ⟨A', c', hv', hc1', hc2', hcell'⟩ := id hr
  rw [fl_len] at hv hcell hv' hcell'
  subst hv hv'
  clear hc1 hc2 hc1' hc2'
  have HX := Lib.hid hx
  have hlt' : ct.length = t.length := ht.1.symm
  have hlx : cxs.length = xs.length := hx.1.symm
  have HI := Lib.hid (show IsL t (prN ct (stpF cw ct (fun i => cxs.getD i 0) (fun i => cxs.getD (nrI cxs.length ((i : Int) + 1)) 0)) 0) by rw [prN_zero]; exact ht)
  have HU := Lib.hid (show prN ct (stpF cw ct (fun i => cxs.getD i 0) (fun i => cxs.getD (nrI cxs.length ((i : Int) + 1)) 0)) ct.length = upO cw cxs ct from prN_all _ _)
  have HF := Lib.hid (show ∀ k : Nat, stpF cw ct (fun i => cxs.getD i 0) (fun i => cxs.getD (nrI cxs.length ((i : Int) + 1)) 0) k = ar .add .f32 (ct.getD k 0) (ar .mul .f32 cw (ar .add .f32 (cxs.getD k 0) (cxs.getD (nrI xs.length ((k : Int) + 1)) 0))) from fun k => by rw [← hlx]; rfl)
  generalize stpF cw ct (fun i => cxs.getD i 0) (fun i => cxs.getD (nrI cxs.length ((i : Int) + 1)) 0) = fg at *
  have HA := Lib.hid hap
  clear hx ht hap
  have hrm : (kk : Int).tmod 2 = ((kk % 2 : Nat) : Int) := by rw [Int.tmod_eq_emod_of_nonneg (by omega)]; simp
  have hrm2 : (kk : Int) % 2 = ((kk % 2 : Nat) : Int) := by simp
  rw [hpar] at hrm hrm2
  have hsf : ∀ (a : Addr) (x : Nat) (w : World), (store a (.float .f32 x)).run Try.prog w = stored Try.prog w a (.float .f32 x) .plain := fun a x w => run_store _ w a _ _ rfl
  go_enter Try.func117, Try.ntmps117
  go_wp2_with fail
  go_loopw [8] (WgR w lo (.slice A t.length c) (.slice A' xs.length c') xs ct fg) (fun i _ => t.length - (intOf i).toNat)
  case atStart => exact ⟨0, t, Nat.zero_le _, rfl, ho, HI.out, hr, Below.refl _ _⟩
  case round =>
    clear ho hr
    obtain ⟨k, cur, hk, rfl, ho, hi, hr, hb⟩ := hrel
    have hcl : cur.length = t.length := by rw [hi.1, prN_len, hlt']
    by_cases hlt : k < t.length
    · obtain ⟨b, off, rfl, _⟩ := hcell (by omega)
      obtain ⟨hlo, hbw, hcc, hff⟩ := ho.cells' (by omega)
      have hdst : wr.cell? ⟨b, off + k, none⟩ = some (.float .f32 (cur.getD k 0)) := by rw [hcc k _ (fl_get cur k (by omega))]; simp [List.getD, show k < cur.length by omega]
      have hfz := hff k hlt
      have hc0 := Lib.hid (show Is .f32 (cur.getD k 0) (ct.getD k 0) by have := hi.2 k; rw [prN_at] at this; exact this)
      have ha0 := Lib.hid (HX.out.2 k)
      have hb0 := Lib.hid (HX.out.2 (nrI xs.length ((k : Int) + 1)))
      obtain ⟨b1, off1, rfl, hbw1, hcc1⟩ := hcell' (by omega)
      obtain ⟨_, _, hcx, _⟩ := hr.cells' (by omega)
      have hsx : wr.cell? ⟨b1, off1 + k, none⟩ = some (.float .f32 (xs.getD k 0)) := by rw [hcx k _ (fl_get xs k (by omega))]; simp [List.getD, show k < xs.length by omega]
      have HNB := Lib.hid (fun n => nearF (.slice (some ⟨b1, off1, none⟩) xs.length c') xs ((k : Int) + 1) (wr.drewN n) _ hr.rd (by omega) (by omega))
      have HFk := Lib.hid (HF.out k)
      have HS := Lib.hid (fun r (hr : Is .f32 r (fg k)) => hi.set (by omega) hr)
      have HP := Lib.hid (fun N r => (ho.drewN N).put k hlt (.float .f32 r))
      have HR := Lib.hid (fun N r => own_put (hr.drewN N) HA.out hlt (.float .f32 r))
      have HB := Lib.hid hb
      generalize cur.getD k 0 = x0 at *
      generalize xs.getD k 0 = x at *
      generalize xs.getD (nrI xs.length ((k : Int) + 1)) 0 = y at *
      generalize ct.getD k 0 = cx0 at *
      generalize cxs.getD k 0 = cx at *
      generalize cxs.getD (nrI xs.length ((k : Int) + 1)) 0 = cy at *
      have hki : (k : Int) < (t.length : Int) := by omega
      have hk0 : (0 : Int) ≤ (k : Int) := by omega
      have hkx : (k : Int) < (xs.length : Int) := by omega
      have hw1 : IntKind.i64.wrap ((k : Int) + 1) = (k : Int) + 1 := by rw [IntKind.wrap_i64]; omega
      have hw2 : IntKind.i64.wrap ((k : Int) - 1) = (k : Int) - 1 := by rw [IntKind.wrap_i64]; omega
      clear hcell hcell' hcc hff hr hb ho hi
      go_wp2_with fail
      refine Sf.wp_soft [false, false, false, false, false, false, false, false, false, false, false, false, false, false, false, false, false, false, true, true] [true, true, true, true, true, true, true, true, true, true, true, true, true, true, true, true, true, true, false, false] (fun i => if i = 15 then 0 else if i = 16 then 0 else if i = 17 then 0 else 1) (fun i => if i = 14 then (.float .f32 y) else undef) (by kernel_rfl) (by kernel_rfl) (by kernel_rfl) ?_
      simp only [Sf.tl]
      refine Sf.lx_one rfl rfl (fun K hK => Sf.dft_quiet rfl ?_)
      go_big_quiet_op
      refine hK _ ?_
      clear hK K
      refine Sf.lx_one rfl rfl (fun K hK => Sf.dft_quiet rfl ?_)
      go_big_quiet_op
      refine hK _ ?_
      clear hK K
      refine Sf.lx_one rfl rfl (fun K hK => Sf.dft_quiet rfl ?_)
      go_big_quiet_op
      refine hK _ ?_
      clear hK K
      refine Sf.lx_one rfl rfl (fun K hK => Sf.dft_quiet rfl ?_)
      go_big_quiet_op
      refine hK _ ?_
      clear hK K
      refine Sf.lx_one rfl rfl (fun K hK => Sf.dft_quiet rfl ?_)
      go_big_quiet_op
      refine hK _ ?_
      clear hK K
      refine Sf.lx_one rfl rfl (fun K hK => Sf.dft_quiet rfl ?_)
      go_big_quiet_op
      refine hK _ ?_
      clear hK K
      refine Sf.lx_one rfl rfl (fun K hK => Sf.dft_quiet rfl ?_)
      go_big_quiet_op
      refine hK _ ?_
      clear hK K
      refine Sf.lx_one rfl rfl (fun K hK => Sf.dft_quiet rfl ?_)
      go_big_quiet_op
      refine hK _ ?_
      clear hK K
      refine Sf.lx_one rfl rfl (fun K hK => Sf.dft_quiet rfl ?_)
      go_big_quiet_op
      refine hK _ ?_
      clear hK K
      refine Sf.lx_one rfl rfl (fun K hK => Sf.dft_quiet rfl ?_)
      go_big_quiet_op
      refine hK _ ?_
      clear hK K
      refine Sf.lx_one rfl rfl (fun K hK => Sf.dft_quiet rfl ?_)
      go_big_quiet_op
      refine hK _ ?_
      clear hK K
      refine Sf.lx_one rfl rfl (fun K hK => Sf.dft_quiet rfl ?_)
      go_big_quiet_op
      refine hK _ ?_
      clear hK K
      refine Sf.lx_one rfl rfl (fun K hK => Sf.dft_quiet rfl ?_)
      go_big_quiet_op
      refine hK _ ?_
      clear hK K
      refine Sf.lx_one rfl rfl (fun K hK => Sf.dft_quiet rfl ?_)
      go_big_quiet_op
      refine hK _ ?_
      clear hK K
      refine Sf.lx_one rfl rfl (fun K hK => Sf.dft_call ?_ (hK _ ?_))
      · clear hK K; rintro _ ⟨nc, rfl⟩; go_simp; exact (HNB.out nc (by omega) (by omega)).mono fun e w1 ⟨he, hw⟩ => ⟨he, nc, hw.symm⟩
      clear hK K
      simp only [Act.put, List.setIfInBounds_toArray, List.set_cons_zero, List.set_cons_succ, if_true, if_false, reduceIte, Nat.reduceEqDiff]
      refine Sf.lx_fl rfl rfl (fun K hK => Sf.sft_ar (k := .f32) rfl rfl rfl rfl (ha0.out) (hb0.out) (fun r34 hr34 => hK _ ?_))
      clear hK K
      simp only [Act.put, List.setIfInBounds_toArray, List.set_cons_zero, List.set_cons_succ]
      refine Sf.lx_fl rfl rfl (fun K hK => Sf.sft_ar (k := .f32) rfl rfl rfl rfl (hw) (hr34) (fun r35 hr35 => hK _ ?_))
      clear hK K
      simp only [Act.put, List.setIfInBounds_toArray, List.set_cons_zero, List.set_cons_succ]
      refine Sf.lx_fl rfl rfl (fun K hK => Sf.sft_ar (k := .f32) rfl rfl rfl rfl (hc0.out) (hr35) (fun r36 hr36 => hK _ ?_))
      clear hK K
      simp only [Act.put, List.setIfInBounds_toArray, List.set_cons_zero, List.set_cons_succ]
      refine Sf.lx_over ?_
      refine Sf.lx_over ?_
      refine Sf.lx_nil ?_
      rintro _ ⟨nq, rfl⟩
      go_wp2_with fail
      go_roundw
      case rel => exact ⟨k + 1, cur.set k r36, by omega, by go_num, by rw [← fl_set]; exact HP.out _ r36, HS.out r36 (by rw [HFk.out]; exact hr36), HR.out _ r36, (below_drawn HB.out _).setCell hlo _⟩
      case measure => simp [intOf]; omega
    · obtain rfl : k = t.length := by omega
      have hi' : IsL cur (upO cw cxs ct) := by rw [← HU.out, hlt']; exact hi
      clear hi
      go_wp2
      go_end0
      exact ⟨rfl, cur, ho, hi', hr, hb⟩
set_option maxHeartbeats 8000000 in
theorem wghE_any (wt cw kk : Nat) (vl vh : Value) (xs cxs t ct : List Nat) (w : World) (lo : Nat) (hpar : kk % 2 = 1) (hkk : kk ≤ 8) (hw : Is .f32 wt cw) (ho : Own w lo vl (fl t)) (hr : Own w lo vh (fl xs)) (hap : Apart vl vh)
    (hx : IsL xs cxs) (ht : IsL t ct) (hl : t.length ≤ xs.length + 1) (hp0 : 0 < xs.length) (hm : xs.length ≤ 128) :
    Calls Try.prog 117 #[vl, vh, .int .i64 (kk : Int), .float .f32 wt] w (RetStp lo vl vh xs (upE cw cxs ct) w) := by
  obtain ⟨A, c, hv, hc1, hc2, hcell⟩ := id ho
  obtain ⟨A', c', hv', hc1', hc2', hcell'⟩ := id hr
  rw [fl_len] at hv hcell hv' hcell'
  subst hv hv'
  clear hc1 hc2 hc1' hc2'
  have HX := Lib.hid hx
  have hlt' : ct.length = t.length := ht.1.symm
  have hlx : cxs.length = xs.length := hx.1.symm
  have HI := Lib.hid (show IsL t (prN ct (stpF cw ct (fun i => cxs.getD (nrI cxs.length ((i : Int) - 1)) 0) (fun i => cxs.getD (nrI cxs.length (i : Int)) 0)) 0) by rw [prN_zero]; exact ht)
  have HU := Lib.hid (show prN ct (stpF cw ct (fun i => cxs.getD (nrI cxs.length ((i : Int) - 1)) 0) (fun i => cxs.getD (nrI cxs.length (i : Int)) 0)) ct.length = upE cw cxs ct from prN_all _ _)
  have HF := Lib.hid (show ∀ k : Nat, stpF cw ct (fun i => cxs.getD (nrI cxs.length ((i : Int) - 1)) 0) (fun i => cxs.getD (nrI cxs.length (i : Int)) 0) k = ar .add .f32 (ct.getD k 0) (ar .mul .f32 cw (ar .add .f32 (cxs.getD (nrI xs.length ((k : Int) - 1)) 0) (cxs.getD (nrI xs.length (k : Int)) 0))) from fun k => by rw [← hlx]; rfl)
  generalize stpF cw ct (fun i => cxs.getD (nrI cxs.length ((i : Int) - 1)) 0) (fun i => cxs.getD (nrI cxs.length (i : Int)) 0) = fg at *
  have HA := Lib.hid hap
  clear hx ht hap
  have hrm : (kk : Int).tmod 2 = ((kk % 2 : Nat) : Int) := by rw [Int.tmod_eq_emod_of_nonneg (by omega)]; simp
  have hrm2 : (kk : Int) % 2 = ((kk % 2 : Nat) : Int) := by simp
  rw [hpar] at hrm hrm2
  have hsf : ∀ (a : Addr) (x : Nat) (w : World), (store a (.float .f32 x)).run Try.prog w = stored Try.prog w a (.float .f32 x) .plain := fun a x w => run_store _ w a _ _ rfl
  go_enter Try.func117, Try.ntmps117
  go_wp2_with fail
  go_loopw [9] (WgR w lo (.slice A t.length c) (.slice A' xs.length c') xs ct fg) (fun i _ => t.length - (intOf i).toNat)
  case atStart => exact ⟨0, t, Nat.zero_le _, rfl, ho, HI.out, hr, Below.refl _ _⟩
  case round =>
    clear ho hr
    obtain ⟨k, cur, hk, rfl, ho, hi, hr, hb⟩ := hrel
    have hcl : cur.length = t.length := by rw [hi.1, prN_len, hlt']
    by_cases hlt : k < t.length
    · obtain ⟨b, off, rfl, _⟩ := hcell (by omega)
      obtain ⟨hlo, hbw, hcc, hff⟩ := ho.cells' (by omega)
      have hdst : wr.cell? ⟨b, off + k, none⟩ = some (.float .f32 (cur.getD k 0)) := by rw [hcc k _ (fl_get cur k (by omega))]; simp [List.getD, show k < cur.length by omega]
      have hfz := hff k hlt
      have hc0 := Lib.hid (show Is .f32 (cur.getD k 0) (ct.getD k 0) by have := hi.2 k; rw [prN_at] at this; exact this)
      have ha0 := Lib.hid (HX.out.2 (nrI xs.length ((k : Int) - 1)))
      have hb0 := Lib.hid (HX.out.2 (nrI xs.length (k : Int)))
      have HN1 := Lib.hid (fun n => nearF (.slice A' xs.length c') xs ((k : Int) - 1) (wr.drewN n) _ hr.rd (by omega) (by omega))
      have HN2 := Lib.hid (fun n => nearF (.slice A' xs.length c') xs (k : Int) (wr.drewN n) _ hr.rd (by omega) (by omega))
      have HFk := Lib.hid (HF.out k)
      have HS := Lib.hid (fun r (hr : Is .f32 r (fg k)) => hi.set (by omega) hr)
      have HP := Lib.hid (fun N r => (ho.drewN N).put k hlt (.float .f32 r))
      have HR := Lib.hid (fun N r => own_put (hr.drewN N) HA.out hlt (.float .f32 r))
      have HB := Lib.hid hb
      generalize cur.getD k 0 = x0 at *
      generalize xs.getD (nrI xs.length ((k : Int) - 1)) 0 = x at *
      generalize xs.getD (nrI xs.length (k : Int)) 0 = y at *
      generalize ct.getD k 0 = cx0 at *
      generalize cxs.getD (nrI xs.length ((k : Int) - 1)) 0 = cx at *
      generalize cxs.getD (nrI xs.length (k : Int)) 0 = cy at *
      have hki : (k : Int) < (t.length : Int) := by omega
      have hk0 : (0 : Int) ≤ (k : Int) := by omega
      skip
      have hw1 : IntKind.i64.wrap ((k : Int) + 1) = (k : Int) + 1 := by rw [IntKind.wrap_i64]; omega
      have hw2 : IntKind.i64.wrap ((k : Int) - 1) = (k : Int) - 1 := by rw [IntKind.wrap_i64]; omega
      clear hcell hcell' hcc hff hr hb ho hi
      go_wp2_with fail
      refine Sf.wp_soft [false, false, false, false, false, false, false, false, false, false, false, false, false, false, false, false, false, true, true] [true, true, true, true, true, true, true, true, true, true, true, true, true, true, true, true, true, false, false] (fun i => if i = 14 then 0 else if i = 15 then 0 else if i = 16 then 0 else 1) (fun i => if i = 10 then (.float .f32 x) else if i = 13 then (.float .f32 y) else undef) (by kernel_rfl) (by kernel_rfl) (by kernel_rfl) ?_
      simp only [Sf.tl]
      refine Sf.lx_one rfl rfl (fun K hK => Sf.dft_quiet rfl ?_)
      go_big_quiet_op
      refine hK _ ?_
      clear hK K
      refine Sf.lx_one rfl rfl (fun K hK => Sf.dft_quiet rfl ?_)
      go_big_quiet_op
      refine hK _ ?_
      clear hK K
      refine Sf.lx_one rfl rfl (fun K hK => Sf.dft_quiet rfl ?_)
      go_big_quiet_op
      refine hK _ ?_
      clear hK K
      refine Sf.lx_one rfl rfl (fun K hK => Sf.dft_quiet rfl ?_)
      go_big_quiet_op
      refine hK _ ?_
      clear hK K
      refine Sf.lx_one rfl rfl (fun K hK => Sf.dft_quiet rfl ?_)
      go_big_quiet_op
      refine hK _ ?_
      clear hK K
      refine Sf.lx_one rfl rfl (fun K hK => Sf.dft_quiet rfl ?_)
      go_big_quiet_op
      refine hK _ ?_
      clear hK K
      refine Sf.lx_one rfl rfl (fun K hK => Sf.dft_quiet rfl ?_)
      go_big_quiet_op
      refine hK _ ?_
      clear hK K
      refine Sf.lx_one rfl rfl (fun K hK => Sf.dft_quiet rfl ?_)
      go_big_quiet_op
      refine hK _ ?_
      clear hK K
      refine Sf.lx_one rfl rfl (fun K hK => Sf.dft_quiet rfl ?_)
      go_big_quiet_op
      refine hK _ ?_
      clear hK K
      refine Sf.lx_one rfl rfl (fun K hK => Sf.dft_quiet rfl ?_)
      go_big_quiet_op
      refine hK _ ?_
      clear hK K
      refine Sf.lx_one rfl rfl (fun K hK => Sf.dft_call ?_ (hK _ ?_))
      · clear hK K; rintro _ ⟨nc, rfl⟩; go_simp; exact (HN1.out nc (by omega) (by omega)).mono fun e w1 ⟨he, hw⟩ => ⟨he, nc, hw.symm⟩
      clear hK K
      simp only [Act.put, List.setIfInBounds_toArray, List.set_cons_zero, List.set_cons_succ, if_true, if_false, reduceIte, Nat.reduceEqDiff]
      refine Sf.lx_one rfl rfl (fun K hK => Sf.dft_quiet rfl ?_)
      go_big_quiet_op
      refine hK _ ?_
      clear hK K
      refine Sf.lx_one rfl rfl (fun K hK => Sf.dft_quiet rfl ?_)
      go_big_quiet_op
      refine hK _ ?_
      clear hK K
      refine Sf.lx_one rfl rfl (fun K hK => Sf.dft_call ?_ (hK _ ?_))
      · clear hK K; rintro _ ⟨nc, rfl⟩; go_simp; exact (HN2.out nc (by omega) (by omega)).mono fun e w1 ⟨he, hw⟩ => ⟨he, nc, hw.symm⟩
      clear hK K
      simp only [Act.put, List.setIfInBounds_toArray, List.set_cons_zero, List.set_cons_succ, if_true, if_false, reduceIte, Nat.reduceEqDiff]
      refine Sf.lx_fl rfl rfl (fun K hK => Sf.sft_ar (k := .f32) rfl rfl rfl rfl (ha0.out) (hb0.out) (fun r58 hr58 => hK _ ?_))
      clear hK K
      simp only [Act.put, List.setIfInBounds_toArray, List.set_cons_zero, List.set_cons_succ]
      refine Sf.lx_fl rfl rfl (fun K hK => Sf.sft_ar (k := .f32) rfl rfl rfl rfl (hw) (hr58) (fun r59 hr59 => hK _ ?_))
      clear hK K
      simp only [Act.put, List.setIfInBounds_toArray, List.set_cons_zero, List.set_cons_succ]
      refine Sf.lx_fl rfl rfl (fun K hK => Sf.sft_ar (k := .f32) rfl rfl rfl rfl (hc0.out) (hr59) (fun r60 hr60 => hK _ ?_))
      clear hK K
      simp only [Act.put, List.setIfInBounds_toArray, List.set_cons_zero, List.set_cons_succ]
      refine Sf.lx_over ?_
      refine Sf.lx_over ?_
      refine Sf.lx_nil ?_
      rintro _ ⟨nq, rfl⟩
      go_wp2_with fail
      go_roundw
      case rel => exact ⟨k + 1, cur.set k r60, by omega, by go_num, by rw [← fl_set]; exact HP.out _ r60, HS.out r60 (by rw [HFk.out]; exact hr60), HR.out _ r60, (below_drawn HB.out _).setCell hlo _⟩
      case measure => simp [intOf]; omega
    · obtain rfl : k = t.length := by omega
      have hi' : IsL cur (upE cw cxs ct) := by rw [← HU.out, hlt']; exact hi
      clear hi
      go_wp2
      go_end0
      exact ⟨rfl, cur, ho, hi', hr, hb⟩
end Go.Proofs.Ytfbdmhkmkmbipaa
