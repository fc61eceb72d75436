/-
  Contracts: one weight of a scheme changes odds or evens, by the program.
-/
import Derived.Test.YtfbdmhkmkmbipaaBesF
import Derived.Test.YtfbdmhkmkmbipaaEn
import Derived.Test.YtfbdmhkmkmbipaaLift
import Derived.Deep.RegionWith
namespace Go.Proofs.Ytfbdmhkmkmbipaa
open Go.RowKit Fl
set_option linter.unusedVariables false

/-- The numbers ys are worth cs. -/
def IsL (ys cs : List Nat) : Prop := ys.length = cs.length ∧ ∀ i, Is .f32 (ys.getD i 0) (cs.getD i 0)
def prN (t : List Nat) (f : Nat → Nat) (k : Nat) : List Nat := (List.range t.length).map fun i => if i < k then f i else t.getD i 0
theorem prN_len (t : List Nat) (f : Nat → Nat) (k : Nat) : (prN t f k).length = t.length := by simp [prN]
theorem prN_zero (t : List Nat) (f : Nat → Nat) : prN t f 0 = t := by
  apply List.ext_getElem?
  intro i
  by_cases hi : i < t.length
  · simp [prN, hi, List.getD]
  · simp [prN, hi]
theorem prN_at (t : List Nat) (f : Nat → Nat) (k : Nat) : (prN t f k).getD k 0 = t.getD k 0 := by
  by_cases hi : k < t.length
  · simp [prN, hi, List.getD]
  · simp [prN, hi, List.getD]
theorem prN_next (t : List Nat) (f : Nat → Nat) (k i : Nat) (hk : k < t.length) : (prN t f (k + 1)).getD i 0 = if i = k then f k else (prN t f k).getD i 0 := by
  by_cases hi : i < t.length
  · by_cases he : i = k
    · subst he; simp [prN, hi, List.getD]
    · rw [if_neg he]
      have : (i < k + 1) = (i < k) := by apply propext; omega
      simp [prN, hi, List.getD, this]
  · have he : i ≠ k := by omega
    rw [if_neg he]
    simp [prN, hi, List.getD]
theorem IsL.set {cur t : List Nat} {f : Nat → Nat} {k r : Nat} (h : IsL cur (prN t f k)) (hk : k < t.length) (hr : Is .f32 r (f k)) : IsL (cur.set k r) (prN t f (k + 1)) := by
  have hl : cur.length = t.length := by rw [h.1, prN_len]
  refine ⟨by simp [prN_len, hl], fun i => ?_⟩
  rw [prN_next t f k i hk]
  by_cases he : i = k
  · subst he
    rw [if_pos rfl, show (cur.set i r).getD i 0 = r by simp [List.getD, hl, hk]]
    exact hr
  · rw [if_neg he, show (cur.set k r).getD i 0 = cur.getD i 0 by simp only [List.getD]; rw [List.getElem?_set_ne (fun e => he e.symm)]]
    exact h.2 i
/-- What the weight makes of the number i of t, with the numbers a and b beside it. -/
def stpF (w : Nat) (t : List Nat) (a b : Nat → Nat) (i : Nat) : Nat := ar .add .f32 (t.getD i 0) (ar .mul .f32 w (ar .add .f32 (a i) (b i)))
def upO (w : Nat) (ev od : List Nat) : List Nat := (List.range od.length).map (stpF w od (fun i => ev.getD i 0) (fun i => ev.getD (nrI ev.length ((i : Int) + 1)) 0))
def upE (w : Nat) (od ev : List Nat) : List Nat := (List.range ev.length).map (stpF w ev (fun i => od.getD (nrI od.length ((i : Int) - 1)) 0) (fun i => od.getD (nrI od.length (i : Int)) 0))
theorem prN_all (t : List Nat) (f : Nat → Nat) : prN t f t.length = (List.range t.length).map f := by
  unfold prN
  apply List.map_congr_left
  intro i hi
  rw [if_pos (List.mem_range.1 hi)]
/-- A number of a list that lies apart is written. -/
theorem own_put {w : World} {lo b off n c k : Nat} {u : Value} {ys : List Value} (hu : Own w lo u ys) (ha : Apart (.slice (some ⟨b, off, none⟩) n c) u) (hk : k < n) (x : Value) : Own (w.setCell ⟨b, off + k, none⟩ x) lo u ys := by
  obtain ⟨A', c', rfl, h1, h2, h3⟩ := hu
  refine ⟨A', c', rfl, h1, h2, fun hp => ?_⟩
  obtain ⟨b', off', rfl, hlo, hb', hc', hf'⟩ := h3 hp
  refine ⟨b', off', rfl, hlo, by simpa [World.setCell] using hb', fun i x hx => ?_, fun i hi => by rw [World.frozen?_setCell]; exact hf' i hi⟩
  have hi := (List.getElem?_eq_some_iff.1 hx).1
  have ha' : n = 0 ∨ ys.length = 0 ∨ b ≠ b' ∨ off + n ≤ off' ∨ off' + ys.length ≤ off := ha _ _ _ _ _ _ rfl rfl
  rw [World.cell?_setCell_other _ _ _ _ (fun e => by simp only [Addr.mk.injEq] at e; omega)]
  exact hc' i x hx
def StpRel (w : World) (lo g wt : Nat) (v u : Value) (xs t : List Nat) (f : Nat → Nat) (i : Value) (wr : World) : Prop :=
  ∃ (k : Nat) (cur : List Nat), k ≤ t.length ∧ i = .int .i64 k ∧ Own wr lo v (fl cur) ∧ IsL cur (prN t f k) ∧ Own wr lo u (fl xs) ∧ wr.cell? ⟨g, 0, none⟩ = some (.float .f32 wt) ∧ Below lo w wr
def RetStp (lo : Nat) (v u : Value) (xs ct : List Nat) (w : World) (e : Ending) (w' : World) : Prop :=
  e = .returned (.tuple #[]) ∧ ∃ cur, Own w' lo v (fl cur) ∧ IsL cur ct ∧ Own w' lo u (fl xs) ∧ Below lo w w'
set_option maxRecDepth 100000 in
set_option maxHeartbeats 2000000 in
theorem stp1_any (g wt cw : Nat) (vl vh : Value) (xs cxs t ct : List Nat) (w : World) (lo : Nat) (hg : w.cell? ⟨g, 0, none⟩ = some (.float .f32 wt)) (hw : Is .f32 wt cw) (hgb : ∀ a n c, vh = .slice (some a) n c → 0 < n → a.block ≠ g) (ho : Own w lo vh (fl t)) (hr : Own w lo vl (fl xs)) (hap : Apart vh vl)
    (hx : IsL xs cxs) (ht : IsL t ct) (hl : t.length ≤ xs.length) (hm : xs.length ≤ 128) :
    Calls Try.prog 141 #[vl, vh, .pointer (some ⟨g, 0, none⟩)] w (RetStp lo vh vl xs (upO cw cxs ct) w) := by
  obtain ⟨A, c, hv, hc1, hc2, hcell⟩ := id ho
  obtain ⟨A', c', hv', hc1', hc2', hcell'⟩ := id hr
  rw [fl_len] at hv hcell hv' hcell'
  subst hv hv'
  clear hc1 hc2 hc1' hc2'
  have HX := Lib.hid hx
  have hlt' : ct.length = t.length := ht.1.symm
  have hlx : cxs.length = xs.length := hx.1.symm
  have HI := Lib.hid (show IsL t (prN ct (stpF cw ct (fun i => cxs.getD i 0) (fun i => cxs.getD (nrI cxs.length ((i : Int) + 1)) 0)) 0) by rw [prN_zero]; exact ht)
  have HU := Lib.hid (show prN ct (stpF cw ct (fun i => cxs.getD i 0) (fun i => cxs.getD (nrI cxs.length ((i : Int) + 1)) 0)) ct.length = upO cw cxs ct from prN_all _ _)
  have HF := Lib.hid (show ∀ k : Nat, stpF cw ct (fun i => cxs.getD i 0) (fun i => cxs.getD (nrI cxs.length ((i : Int) + 1)) 0) k = ar .add .f32 (ct.getD k 0) (ar .mul .f32 cw (ar .add .f32 (cxs.getD k 0) (cxs.getD (nrI xs.length ((k : Int) + 1)) 0))) from fun k => by rw [← hlx]; rfl)
  generalize stpF cw ct (fun i => cxs.getD i 0) (fun i => cxs.getD (nrI cxs.length ((i : Int) + 1)) 0) = f at *
  have HA := Lib.hid hap
  clear hx ht hap
  go_enter Try.func141, Try.ntmps141
  have hsf : ∀ (a : Addr) (x : Nat) (w : World), (store a (.float .f32 x)).run Try.prog w = stored Try.prog w a (.float .f32 x) .plain := fun a x w => run_store _ w a _ _ rfl
  go_wp2_with fail
  go_loopw [10] (StpRel w lo g wt (.slice A t.length c) (.slice A' xs.length c') xs ct f) (fun i _ => t.length - (intOf i).toNat)
  case atStart => exact ⟨0, t, Nat.zero_le _, rfl, ho, HI.out, hr, hg, Below.refl _ _⟩
  case round =>
    clear ho hr hg
    obtain ⟨k, cur, hk, rfl, ho, hi, hr, hg, hb⟩ := hrel
    have hcl : cur.length = t.length := by rw [hi.1, prN_len, hlt']
    by_cases hlt : k < t.length
    · obtain ⟨b, off, rfl, _⟩ := hcell (by omega)
      have hng := hgb _ _ _ rfl (by omega)
      obtain ⟨hlo, hbw, hcc, hff⟩ := ho.cells' (by omega)
      have hdst : wr.cell? ⟨b, off + k, none⟩ = some (.float .f32 (cur.getD k 0)) := by
        rw [hcc k _ (fl_get cur k (by omega))]; simp [List.getD, show k < cur.length by omega]
      have hfz := hff k hlt
      have hc0 := Lib.hid (show Is .f32 (cur.getD k 0) (ct.getD k 0) by have := hi.2 k; rw [prN_at] at this; exact this)
      have ha0 := Lib.hid (HX.out.2 k)
      have hb0 := Lib.hid (HX.out.2 (nrI xs.length ((k : Int) + 1)))
      have HC := Lib.hid (evbF_any (.slice A' xs.length c') xs k wr _ hr.rd (by omega) (by omega))
      have HFk := Lib.hid (HF.out k)
      have HS := Lib.hid (fun r (hr : Is .f32 r (f k)) => hi.set (by omega) hr)
      have HP := Lib.hid (fun N r => (ho.drewN N).put k hlt (.float .f32 r))
      have HR := Lib.hid (fun N r => own_put (hr.drewN N) HA.out hlt (.float .f32 r))
      have HB := Lib.hid hb
      have HO := Lib.hid ho
      have HG := Lib.hid hg
      generalize cur.getD k 0 = x0 at *
      generalize xs.getD k 0 = x at *
      generalize xs.getD (nrI xs.length ((k : Int) + 1)) 0 = y at *
      generalize ct.getD k 0 = cx0 at *
      generalize cxs.getD k 0 = cx at *
      generalize cxs.getD (nrI xs.length ((k : Int) + 1)) 0 = cy at *
      clear hcell hcell' hcc hff hr hb ho hi
      go_wp2_with fail
      refine HC.out.mono ?_
      rintro e w1 ⟨rfl, m1, rfl⟩
      go_wp2_with fail
      go_region_with (first | (refine up_ar2 (op := .add) rfl ha0.out hb0.out ?_; intro rs ns hs) | (refine up_ar2 (op := .mul) rfl hw hs ?_; intro rp np hp) | (refine up_ar2 (op := .add) rfl hc0.out hp ?_; intro rt nt ht))
      all_goals
        have n1 := HP.out (m1 + 1 + ns + np + nt) rt
        rw [fl_set] at n1
        have n2 := HS.out rt (by rw [HFk.out]; exact ht)
        have n3 := HR.out (m1 + 1 + ns + np + nt) rt
        have n4 : ((wr.drewN (m1 + 1 + ns + np + nt)).setCell ⟨b, off + k, none⟩ (.float .f32 rt)).cell? ⟨g, 0, none⟩ = some (.float .f32 wt) := by
          rw [World.cell?_setCell_other _ _ _ _ (fun e => hng (by simp only [Addr.mk.injEq] at e; exact e.1))]; exact HG.out
        have n5 : Below lo w ((wr.drewN (m1 + 1 + ns + np + nt)).setCell ⟨b, off + k, none⟩ (.float .f32 rt)) := (below_drawn HB.out _).setCell hlo _
        clear hdst hfz hg
        go_wp2
        go_roundw
        case rel => exact ⟨k + 1, cur.set k rt, by omega, by go_num, n1, n2, n3, n4, n5⟩
        case measure => simp [intOf]; omega
    · obtain rfl : k = t.length := by omega
      have hi' : IsL cur (upO cw cxs ct) := by rw [← HU.out, hlt']; exact hi
      clear hi hg
      go_wp2
      go_end0
      exact ⟨rfl, cur, ho, hi', hr, hb⟩
end Go.Proofs.Ytfbdmhkmkmbipaa
