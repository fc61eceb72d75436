/-
  Contracts: one weight of a scheme changes odds, by the program; what is no cells lies as it lay.
-/
import Derived.Test.YtfbdmhkmkmbipaaStp
import Derived.RangeFuncCalls
namespace Go.Proofs.Ytfbdmhkmkmbipaa
open Go.RowKit Fl
set_option linter.unusedVariables false

theorem keeps_drewN (w : World) : ∀ n, KeepsOthers w (w.drewN n)
  | 0 => KeepsOthers.refl _
  | n + 1 => (keeps_drewN w n).trans (KeepsOthers.drew _)
/-- Boxes beside the list v lie as they lay. -/
def KpC (v : Value) (w wr : World) : Prop := ∀ q : Nat, (∀ a n c, v = .slice (some a) n c → 0 < n → a.block ≠ q) → wr.cell? ⟨q, 0, none⟩ = w.cell? ⟨q, 0, none⟩
def StkRel (w : World) (lo g wt : Nat) (v u : Value) (xs t : List Nat) (f : Nat → Nat) (i : Value) (wr : World) : Prop :=
  ∃ (k : Nat) (cur : List Nat), k ≤ t.length ∧ i = .int .i64 k ∧ Own wr lo v (fl cur) ∧ IsL cur (prN t f k) ∧ Own wr lo u (fl xs) ∧ wr.cell? ⟨g, 0, none⟩ = some (.float .f32 wt) ∧ Below lo w wr ∧ KeepsOthers w wr ∧ KpC v w wr
def RetStk (lo : Nat) (v u : Value) (xs ct : List Nat) (w : World) (e : Ending) (w' : World) : Prop :=
  e = .returned (.tuple #[]) ∧ ∃ cur, Own w' lo v (fl cur) ∧ IsL cur ct ∧ Own w' lo u (fl xs) ∧ Below lo w w' ∧ KeepsOthers w w' ∧ KpC v w w'
set_option maxRecDepth 100000 in
set_option maxHeartbeats 2000000 in
theorem stk1_any (g wt cw : Nat) (vl vh : Value) (xs cxs t ct : List Nat) (w : World) (lo : Nat) (hg : w.cell? ⟨g, 0, none⟩ = some (.float .f32 wt)) (hw : Is .f32 wt cw) (hgb : ∀ a n c, vh = .slice (some a) n c → 0 < n → a.block ≠ g) (ho : Own w lo vh (fl t)) (hr : Own w lo vl (fl xs)) (hap : Apart vh vl)
    (hx : IsL xs cxs) (ht : IsL t ct) (hl : t.length ≤ xs.length) (hm : xs.length ≤ 128) :
    Calls Try.prog 141 #[vl, vh, .pointer (some ⟨g, 0, none⟩)] w (RetStk lo vh vl xs (upO cw cxs ct) w) := by
  obtain ⟨A, c, hv, hc1, hc2, hcell⟩ := id ho
  obtain ⟨A', c', hv', hc1', hc2', hcell'⟩ := id hr
  rw [fl_len] at hv hcell hv' hcell'
  subst hv hv'
  clear hc1 hc2 hc1' hc2'
  have HX := Lib.hid hx
  have hlt' : ct.length = t.length := ht.1.symm
  have hlx : cxs.length = xs.length := hx.1.symm
  have HI := Lib.hid (show IsL t (prN ct (stpF cw ct (fun i => cxs.getD i 0) (fun i => cxs.getD (nrI cxs.length ((i : Int) + 1)) 0)) 0) by rw [prN_zero]; exact ht)
  have HU := Lib.hid (show prN ct (stpF cw ct (fun i => cxs.getD i 0) (fun i => cxs.getD (nrI cxs.length ((i : Int) + 1)) 0)) ct.length = upO cw cxs ct from prN_all _ _)
  have HF := Lib.hid (show ∀ k : Nat, stpF cw ct (fun i => cxs.getD i 0) (fun i => cxs.getD (nrI cxs.length ((i : Int) + 1)) 0) k = ar .add .f32 (ct.getD k 0) (ar .mul .f32 cw (ar .add .f32 (cxs.getD k 0) (cxs.getD (nrI xs.length ((k : Int) + 1)) 0))) from fun k => by rw [← hlx]; rfl)
  generalize stpF cw ct (fun i => cxs.getD i 0) (fun i => cxs.getD (nrI cxs.length ((i : Int) + 1)) 0) = f at *
  have HA := Lib.hid hap
  clear hx ht hap
  go_enter Try.func141, Try.ntmps141
  have hsf : ∀ (a : Addr) (x : Nat) (w : World), (store a (.float .f32 x)).run Try.prog w = stored Try.prog w a (.float .f32 x) .plain := fun a x w => run_store _ w a _ _ rfl
  go_wp2_with fail
  go_loopw [10] (StkRel w lo g wt (.slice A t.length c) (.slice A' xs.length c') xs ct f) (fun i _ => t.length - (intOf i).toNat)
  case atStart => exact ⟨0, t, Nat.zero_le _, rfl, ho, HI.out, hr, hg, Below.refl _ _, KeepsOthers.refl _, fun _ _ => rfl⟩
  case round =>
    clear ho hr hg
    obtain ⟨k, cur, hk, rfl, ho, hi, hr, hg, hb, hko, hkc⟩ := hrel
    have HKO := Lib.hid hko
    have HKC := Lib.hid hkc
    clear hko hkc
    have hcl : cur.length = t.length := by rw [hi.1, prN_len, hlt']
    by_cases hlt : k < t.length
    · obtain ⟨b, off, rfl, _⟩ := hcell (by omega)
      have hng := hgb _ _ _ rfl (by omega)
      obtain ⟨hlo, hbw, hcc, hff⟩ := ho.cells' (by omega)
      have hdst : wr.cell? ⟨b, off + k, none⟩ = some (.float .f32 (cur.getD k 0)) := by
        rw [hcc k _ (fl_get cur k (by omega))]; simp [List.getD, show k < cur.length by omega]
      have hfz := hff k hlt
      have hc0 := Lib.hid (show Is .f32 (cur.getD k 0) (ct.getD k 0) by have := hi.2 k; rw [prN_at] at this; exact this)
      have ha0 := Lib.hid (HX.out.2 k)
      have hb0 := Lib.hid (HX.out.2 (nrI xs.length ((k : Int) + 1)))
      have HC := Lib.hid (evbF_any (.slice A' xs.length c') xs k wr _ hr.rd (by omega) (by omega))
      have HFk := Lib.hid (HF.out k)
      have HS := Lib.hid (fun r (hr : Is .f32 r (f k)) => hi.set (by omega) hr)
      have HP := Lib.hid (fun N r => (ho.drewN N).put k hlt (.float .f32 r))
      have HR := Lib.hid (fun N r => own_put (hr.drewN N) HA.out hlt (.float .f32 r))
      have HB := Lib.hid hb
      have HO := Lib.hid ho
      have HG := Lib.hid hg
      generalize cur.getD k 0 = x0 at *
      generalize xs.getD k 0 = x at *
      generalize xs.getD (nrI xs.length ((k : Int) + 1)) 0 = y at *
      generalize ct.getD k 0 = cx0 at *
      generalize cxs.getD k 0 = cx at *
      generalize cxs.getD (nrI xs.length ((k : Int) + 1)) 0 = cy at *
      clear hcell hcell' hcc hff hr hb ho hi
      go_wp2_with fail
      refine HC.out.mono ?_
      rintro e w1 ⟨rfl, m1, rfl⟩
      go_wp2_with fail
      go_region_with (first | (refine up_ar2 (op := .add) rfl ha0.out hb0.out ?_; intro rs ns hs) | (refine up_ar2 (op := .mul) rfl hw hs ?_; intro rp np hp) | (refine up_ar2 (op := .add) rfl hc0.out hp ?_; intro rt nt ht))
      all_goals
        have n1 := HP.out (m1 + 1 + ns + np + nt) rt
        rw [fl_set] at n1
        have n2 := HS.out rt (by rw [HFk.out]; exact ht)
        have n3 := HR.out (m1 + 1 + ns + np + nt) rt
        have n4 : ((wr.drewN (m1 + 1 + ns + np + nt)).setCell ⟨b, off + k, none⟩ (.float .f32 rt)).cell? ⟨g, 0, none⟩ = some (.float .f32 wt) := by
          rw [World.cell?_setCell_other _ _ _ _ (fun e => hng (by simp only [Addr.mk.injEq] at e; exact e.1))]; exact HG.out
        have n5 : Below lo w ((wr.drewN (m1 + 1 + ns + np + nt)).setCell ⟨b, off + k, none⟩ (.float .f32 rt)) := (below_drawn HB.out _).setCell hlo _
        have n6 : KpC (.slice (some ⟨b, off, none⟩) t.length c) w ((wr.drewN (m1 + 1 + ns + np + nt)).setCell ⟨b, off + k, none⟩ (.float .f32 rt)) := fun q hq => by rw [World.cell?_setCell_other _ _ _ _ (fun e => hq _ _ _ rfl (by omega) (by simp only [Addr.mk.injEq] at e; exact e.1))]; exact HKC.out q hq
        clear hdst hfz hg
        go_wp2
        go_roundw
        case rel => exact ⟨k + 1, cur.set k rt, by omega, by go_num, n1, n2, n3, n4, n5, (HKO.out.trans (keeps_drewN _ _)).trans (KeepsOthers.setCell _ _ _), n6⟩
        case measure => simp [intOf]; omega
    · obtain rfl : k = t.length := by omega
      have hi' : IsL cur (upO cw cxs ct) := by rw [← HU.out, hlt']; exact hi
      clear hi hg
      go_wp2
      go_end0
      exact ⟨rfl, cur, ho, hi', hr, hb, HKO.out, HKC.out⟩
end Go.Proofs.Ytfbdmhkmkmbipaa
