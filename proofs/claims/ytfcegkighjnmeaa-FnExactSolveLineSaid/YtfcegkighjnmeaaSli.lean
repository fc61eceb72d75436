/-
  Contracts: SolveLine, of both sides.
-/
import Derived.Test.YtfcegkighjnmeaaSlv
import Derived.Test.YtfcegkighjnmeaaRep
namespace Go.Proofs.Ytfcegkighjnmeaa
open Go.RowKit Fl
set_option linter.unusedVariables false

def slB (fs : List Nat) (s : Nat) : Bool := lnG fs && psB s && finA (soF fs s)
def slV (fs : List Nat) (s : Nat) : List Nat := if slB fs s then soF fs s else []
theorem slV_yes {fs : List Nat} {s : Nat} (h : slB fs s = true) : slV fs s = soF fs s := by unfold slV; rw [if_pos h]
theorem slV_no {fs : List Nat} {s : Nat} (h : slB fs s = false) : slV fs s = [] := by unfold slV; rw [if_neg (by rw [h]; simp)]
theorem slV_len (fs : List Nat) (s : Nat) : (slV fs s).length ≤ 1048576 := by
  cases hb : slB fs s with
  | false => rw [slV_no hb]; simp
  | true =>
    have : lnG fs = true := by unfold slB at hb; simp only [Bool.and_eq_true] at hb; exact hb.1.1
    have := (liB_bd (lnG_len this).1).2
    rw [slV_yes hb, soF_len]; omega
set_option maxRecDepth 100000 in
set_option maxHeartbeats 4000000 in
theorem sloS_any (v : Value) (fs : List Nat) (s : Nat) (w : World) (h : Rd w w.heap.size v (fl fs)) (hm : fs.length ≤ 1048576) (hx : ∀ x ∈ fs, x < 2 ^ 32) (hs : s < 2 ^ 32) :
    Calls Try.prog 43 #[v, .float .f32 s] w (RetLF (slV fs s) (slB fs s) w) := by
  have HT := Lib.hid (islS_any v fs w _ h hm hx)
  have HP := Lib.hid (fun w => psS_any s w hs)
  obtain ⟨A, c, hv, _, _, _⟩ := id h
  rw [fl_len] at hv
  subst hv
  cases hg : lnG fs with
  | false =>
    have hb : slB fs s = false := by unfold slB; rw [hg]; rfl
    rw [slV_no hb, hb]
    rw [hg] at HT
    clear hg hb h
    go_enter Try.func43, Try.ntmps43
    go_wp2_with (go_at_call 61; refine HT.out.mono ?_; rintro e w' ⟨rfl, n1, rfl⟩)
    go_ret2
    exact retLF_none (below_drawn (Below.refl _ _) _)
  | true =>
    rw [hg] at HT
    cases hp : psB s with
    | false =>
      have hb : slB fs s = false := by unfold slB; rw [hg, hp]; rfl
      rw [slV_no hb, hb]
      rw [hp] at HP
      clear hg hb h hp
      go_enter Try.func43, Try.ntmps43
      go_wp2_with (first | (go_at_call 61; refine HT.out.mono ?_; rintro e w' ⟨rfl, n1, rfl⟩) | (go_at_call 77; refine (HP.out _).mono ?_; rintro e w' ⟨rfl, n2, rfl⟩))
      go_ret2
      exact retLF_none (below_drawn (Below.refl _ _) _)
    | true =>
      obtain ⟨g1, g2⟩ := lnG_len hg
      obtain ⟨n, hn⟩ : ∃ n, fs.length = n := ⟨_, rfl⟩
      obtain ⟨b1, b63⟩ := liB_bd g1
      have HB := Lib.hid (show slB fs s = finA (soF fs s) by unfold slB; rw [hg, hp]; rfl)
      rw [hp] at HP
      rw [hn] at h HT hm b1 b63 ⊢
      have HW := Lib.hid (fun q => slS_any A n c s fs (w.drewN q) (h.drewN q) hn b1 b63 g2 hx hs hp)
      have HL := Lib.hid (show (soF fs s).length ≤ 1048576 by rw [soF_len]; omega)
      clear hg g1 g2 h hx hn hp
      cases hf : finA (soF fs s) with
      | false =>
        rw [hf] at HB
        have HF := Lib.hid hf
        clear hf
        rw [slV_no HB.out, HB.out]
        go_enter Try.func43, Try.ntmps43
        go_wp2_with (first | (go_at_call 61; refine HT.out.mono ?_; rintro e w' ⟨rfl, n1, rfl⟩) | (go_at_call 77; refine (HP.out _).mono ?_; rintro e w' ⟨rfl, n2, rfl⟩) | (go_at_call 78; refine (HW.out _).mono ?_; rintro e w2 ⟨u, ys, rfl, hw, ho, hb2⟩; have HI := Lib.hid hw; have HO := Lib.hid ho; have HD := Lib.hid hb2; clear hw ho hb2) | (go_at_call 63; refine (finS_any _ ys _ _ HO.out.rd (by rw [HI.out.len]; exact HL.out) HI.out.lt).mono ?_; rintro e w3 ⟨rfl, n3, rfl⟩; rw [HI.out.fin, HF.out]))
        go_ret2
        exact retLF_none (below_drawn ((below_drawn (Below.refl w.heap.size w) _).trans HD.out) _)
      | true =>
        rw [hf] at HB
        have HF := Lib.hid hf
        clear hf
        rw [slV_yes HB.out, HB.out]
        go_enter Try.func43, Try.ntmps43
        go_wp2_with (first | (go_at_call 61; refine HT.out.mono ?_; rintro e w' ⟨rfl, n1, rfl⟩) | (go_at_call 77; refine (HP.out _).mono ?_; rintro e w' ⟨rfl, n2, rfl⟩) | (go_at_call 78; refine (HW.out _).mono ?_; rintro e w2 ⟨u, ys, rfl, hw, ho, hb2⟩; have HI := Lib.hid hw; have HO := Lib.hid ho; have HD := Lib.hid hb2; clear hw ho hb2) | (go_at_call 63; refine (finS_any _ ys _ _ HO.out.rd (by rw [HI.out.len]; exact HL.out) HI.out.lt).mono ?_; rintro e w3 ⟨rfl, n3, rfl⟩; rw [HI.out.fin, HF.out]))
        go_ret2
        rw [← HI.out.eq HF.out]
        exact ⟨_, rfl, HO.out.drewN _, below_drawn ((below_drawn (Below.refl w.heap.size w) _).trans HD.out) _⟩
/-- What is written beside a list leaves it. -/
theorem own_beside {w : World} {lo g o n c : Nat} {xs : List Value} (h : Own w lo (.slice (some ⟨g, o, none⟩) n c) xs) {g' p : Nat} (hne : g ≠ g') (x : Value) : Own (w.setCell ⟨g', p, none⟩ x) lo (.slice (some ⟨g, o, none⟩) n c) xs := by
  obtain ⟨A, c', hv, h1, h2, h3⟩ := h
  refine ⟨A, c', hv, h1, h2, fun hp => ?_⟩
  obtain ⟨b', off', e, hlo, hb, hc, hf⟩ := h3 hp
  simp only [Value.slice.injEq] at hv
  obtain ⟨e1, _, _⟩ := hv
  rw [← e1] at e
  cases e
  refine ⟨g, o, e1.symm, hlo, by simpa [World.setCell] using hb, fun i y hy => ?_, fun i hi => ?_⟩
  · rw [World.cell?_setCell_other _ _ _ _ (fun e => by simp only [Addr.mk.injEq] at e; omega)]
    exact hc i y hy
  · rw [World.frozen?_setCell]; exact hf i hi
def d1K (n q : Nat) : List Nat := (List.range n).map fun t => if t ≤ q then dD t else 1073741824
def u1K (fs : List Nat) (s q : Nat) : List Nat := (List.range fs.length).map fun t => if t ≤ q then gG fs s t else wfA fs s t
def u2K (fs : List Nat) (s j : Nat) : List Nat := (List.range fs.length).map fun t => if fs.length ≤ t + j + 1 then bB fs s fs.length (fs.length - 1 - t) else gG fs s t
theorem d1K_zero (n : Nat) : d1K n 0 = List.replicate n 1073741824 := by
  apply List.ext_getElem?
  intro i
  by_cases hi : i < n
  · by_cases h0 : i = 0
    · subst h0; simp [d1K, hi, dD]
    · simp [d1K, hi, h0]
  · simp [d1K, hi]
theorem d1K_set (n q : Nat) (h : q + 1 < n) : (d1K n q).set (q + 1) (dD (q + 1)) = d1K n (q + 1) := by
  refine rsetN h (by rw [if_pos (by omega)]) fun i hi hne => ?_
  by_cases h0 : i ≤ q
  · rw [if_pos h0, if_pos (by omega)]
  · rw [if_neg h0, if_neg (by omega)]
theorem d1K_at (n q t : Nat) (h : t < n) (hq : t ≤ q) : (d1K n q).getD t 0 = dD t := by unfold d1K; rw [range_getD _ h, if_pos hq]
theorem d1K_two (n q : Nat) (h : q + 1 < n) : (d1K n q).getD (q + 1) 0 = 1073741824 := by unfold d1K; rw [range_getD _ h, if_neg (by omega)]
theorem u1K_zero (fs : List Nat) (s : Nat) : u1K fs s 0 = weF fs s := map_congr' fun i hi => by
  by_cases h0 : i ≤ 0
  · obtain rfl : i = 0 := by omega
    rw [if_pos h0]; rfl
  · rw [if_neg h0]
theorem u1K_set (fs : List Nat) (s q : Nat) (h : q + 1 < fs.length) : (u1K fs s q).set (q + 1) (gG fs s (q + 1)) = u1K fs s (q + 1) := by
  refine rsetN h (by rw [if_pos (by omega)]) fun i hi hne => ?_
  by_cases h0 : i ≤ q
  · rw [if_pos h0, if_pos (by omega)]
  · rw [if_neg h0, if_neg (by omega)]
theorem u1K_at (fs : List Nat) (s q t : Nat) (h : t < fs.length) (hq : t ≤ q) : (u1K fs s q).getD t 0 = gG fs s t := by unfold u1K; rw [range_getD _ h, if_pos hq]
theorem u1K_we (fs : List Nat) (s q : Nat) (h : q + 1 < fs.length) : (u1K fs s q).getD (q + 1) 0 = ar .mul .f32 (ar .mul .f32 s s) (fs.getD (q + 1) 0) := by unfold u1K; rw [range_getD _ h, if_neg (by omega)]; rfl
theorem u2K_zero (fs : List Nat) (s q : Nat) (h : q + 1 = fs.length) : (u1K fs s q).set q (bB fs s fs.length 0) = u2K fs s 0 := by
  refine rsetN (by omega) (by rw [if_pos (by omega), show fs.length - 1 - q = 0 by omega]) fun i hi hne => ?_
  rw [if_pos (by omega), if_neg (by omega)]
theorem u2K_set (fs : List Nat) (s j p : Nat) (h : p + 2 + j = fs.length) : (u2K fs s j).set p (bB fs s fs.length (j + 1)) = u2K fs s (j + 1) := by
  refine rsetN (by omega) (by rw [if_pos (by omega), show fs.length - 1 - p = j + 1 by omega]) fun i hi hne => ?_
  by_cases h0 : fs.length ≤ i + j + 1
  · rw [if_pos h0, if_pos (by omega)]
  · rw [if_neg h0, if_neg (by omega)]
theorem u2K_at (fs : List Nat) (s j p : Nat) (h : p + 2 + j = fs.length) : (u2K fs s j).getD p 0 = gG fs s p := by unfold u2K; rw [range_getD _ (by omega), if_neg (by omega)]
theorem u2K_next (fs : List Nat) (s j p : Nat) (h : p + 2 + j = fs.length) : (u2K fs s j).getD (p + 1) 0 = bB fs s fs.length j := by unfold u2K; rw [range_getD _ (by omega), if_pos (by omega), show fs.length - 1 - (p + 1) = j by omega]
theorem u2K_all (fs : List Nat) (s j : Nat) (h : j + 1 = fs.length) : u2K fs s j = soF fs s := map_congr' fun i hi => by rw [if_pos (by omega)]
def LoR (w0 : World) (u d : Value) (fs : List Nat) (s : Nat) (iv : Value) (wr : World) : Prop :=
  ∃ (q : Nat) (us : List Nat), q < fs.length ∧ iv = .int .i64 ((q + 1 : Nat) : Int) ∧ IsW us (u1K fs s q) ∧ Own wr w0.heap.size u (fl us) ∧ Own wr w0.heap.size d (fl (d1K fs.length q)) ∧ Below w0.heap.size w0 wr
def DnR (w0 : World) (u d : Value) (fs : List Nat) (s : Nat) (iv : Value) (wr : World) : Prop :=
  ∃ (j : Nat) (us : List Nat), j < fs.length ∧ iv = .int .i64 ((fs.length : Int) - 2 - (j : Int)) ∧ IsW us (u2K fs s j) ∧ Own wr w0.heap.size u (fl us) ∧ Own wr w0.heap.size d (fl (d1K fs.length (fs.length - 1))) ∧ Below w0.heap.size w0 wr
set_option maxRecDepth 100000 in
set_option maxHeartbeats 8000000 in
theorem sloI_any (v : Value) (fs : List Nat) (s : Nat) (w : World) (h : Rd w w.heap.size v (fl fs)) (hm : fs.length ≤ 1048576) (hx : ∀ x ∈ fs, x < 2 ^ 32) (hs : s < 2 ^ 32) :
    Calls Try.prog 44 #[v, .float .f32 s] w (RetLF (slV fs s) (slB fs s) w) := by
  have HT := Lib.hid (islI_any v fs w _ h hm hx)
  have HP := Lib.hid (fun w => psI_any s w hs)
  obtain ⟨A, c, hv, _, _, _⟩ := id h
  rw [fl_len] at hv
  subst hv
  cases hg : lnG fs with
  | false =>
    have hb : slB fs s = false := by unfold slB; rw [hg]; rfl
    rw [slV_no hb, hb]
    rw [hg] at HT
    clear hg hb h
    go_enter Try.func44, Try.ntmps44
    go_wp2_with (go_at_call 64; refine HT.out.mono ?_; rintro e w' ⟨rfl, n1, rfl⟩)
    go_ret2
    exact retLF_none (below_drawn (Below.refl _ _) _)
  | true =>
    rw [hg] at HT
    cases hp : psB s with
    | false =>
      have hb : slB fs s = false := by unfold slB; rw [hg, hp]; rfl
      rw [slV_no hb, hb]
      rw [hp] at HP
      clear hg hb h hp
      go_enter Try.func44, Try.ntmps44
      go_wp2_with (first | (go_at_call 64; refine HT.out.mono ?_; rintro e w' ⟨rfl, n1, rfl⟩) | (go_at_call 79; refine (HP.out _).mono ?_; rintro e w' ⟨rfl, n2, rfl⟩))
      go_ret2
      exact retLF_none (below_drawn (Below.refl _ _) _)
    | true =>
      obtain ⟨g1, g2⟩ := lnG_len hg
      obtain ⟨n, hn⟩ : ∃ n, fs.length = n := ⟨_, rfl⟩
      obtain ⟨b1, b63⟩ := liB_bd g1
      have HB := Lib.hid (show slB fs s = finA (soF fs s) by unfold slB; rw [hg, hp]; rfl)
      have hst : Is .f32 s s := ⟨cn_fin (ps_fin hp), hs⟩
      rw [hn] at h HT hm b1 b63 g1 ⊢
      have HWe := Lib.hid (fun q => weI_any A n c s fs (w.drewN q) (h.drewN q) hn b1 b63 g2 hx hs hp)
      have HRp := Lib.hid (fun (W : World) => rep_any W.heap.size 0 1 1073741824 n (W.alloc (.cells #[.float .f32 1073741824] 47)) g1 (by rw [box_size]; omega) ((cell_of_row _ _ _ _ _ _ (heap_alloc_new W _)).trans rfl))
      rw [hp] at HP
      have HL := Lib.hid hn
      have HWL := Lib.hid (show (weF fs s).length = n by rw [weF_len]; exact hn)
      clear hg g1 g2 h hx hn hp
      have hsf : ∀ (a : Addr) (x : Nat) (w : World), (store a (.float .f32 x)).run Try.prog w = stored Try.prog w a (.float .f32 x) .plain := fun a x w => run_store _ w a _ _ rfl
      go_enter Try.func44, Try.ntmps44
      go_wp2_with (first | (go_at_call 64; refine HT.out.mono ?_; rintro e w' ⟨rfl, n1, rfl⟩) | (go_at_call 79; refine (HP.out _).mono ?_; rintro e w' ⟨rfl, n2, rfl⟩) | (go_at_call 80; refine (HWe.out _).mono ?_; rintro e w2 ⟨v', ys, rfl, hw2, ho2, hb2⟩; have hyl : ys.length = n := (by rw [hw2.len, HWL.out]); obtain ⟨gu, ou, cu, hv'⟩ := ho2.openF (by omega); rw [hyl] at hv'; subst hv'; have HW2 := Lib.hid hw2; have HO2 := Lib.hid ho2; have HB2 := Lib.hid hb2; clear hw2 ho2 hb2 hyl) | (go_at_call 81; refine (HRp.out _).mono ?_; rintro e w3 ⟨v', rfl, ho3, hb3⟩; obtain ⟨gd, od, cd, hv'⟩ := ho3.openF (by simp; omega); rw [List.length_replicate] at hv'; subst hv'; have HO3 := Lib.hid ho3; have HB3 := Lib.hid hb3; clear ho3 hb3))
      have hb2 : Below w.heap.size w w2 := (below_drawn (Below.refl w.heap.size w) _).trans HB2.out
      have hba : Below w2.heap.size w2 (w2.alloc (.cells #[.float .f32 1073741824] 47)) := (Below.refl _ _).alloc (Nat.le_refl _) _
      have hb23 : Below w2.heap.size w2 w3 := hba.trans (HB3.out.mono hba.size)
      have hu3 : Own w3 w.heap.size (.slice (some ⟨gu, ou, none⟩) n cu) (fl ys) := (show Own w2 w.heap.size (.slice (some ⟨gu, ou, none⟩) n cu) (fl ys) from HO2.out).below hb23
      have hd3 : Own w3 w.heap.size (.slice (some ⟨gd, od, none⟩) n cd) (fl (List.replicate n 1073741824)) := HO3.out.less (Nat.le_trans hb2.size hba.size)
      have hne : gu ≠ gd := by
        have h1 := (HO2.out.nums (by omega)).2.2.1
        have h2 := (HO3.out.nums (by omega)).2.1
        rw [box_size] at h2
        omega
      have HN := Lib.hid hne
      have HU3 := Lib.hid hu3
      have HD3 := Lib.hid hd3
      have HB03 := Lib.hid (hb2.trans (hb23.mono hb2.size))
      clear hb2 hba hb23 hu3 hd3 hne
      go_loopw [8] (LoR w (.slice (some ⟨gu, ou, none⟩) n cu) (.slice (some ⟨gd, od, none⟩) n cd) fs s) (fun i _ => n - (intOf i).toNat)
      case atStart => exact ⟨0, ys, by rw [HL.out]; omega, rfl, by rw [u1K_zero]; exact HW2.out, HU3.out, by rw [HL.out, d1K_zero]; exact HD3.out, HB03.out⟩
      case round =>
        clear HU3 HD3 HB03 HW2 HO2 HB2 HO3 HB3
        obtain ⟨q, us, hq, rfl, hw, hu, hd, hbl⟩ := hrel
        rw [HL.out] at hq hd
        obtain ⟨hul, hgu1, hgu2, hcu, hfu⟩ := hu.nums (by omega)
        obtain ⟨hdl, hgd1, hgd2, hcd, hfd⟩ := hd.nums (by omega)
        have HGU := Lib.hid hgu1
        have HGD := Lib.hid hgd1
        have d0 := hcd q (by omega)
        rw [d1K_at n q q (by omega) (Nat.le_refl _)] at d0
        have kd := dD_is (i := q) (by omega)
        have ku0 := hw.at q
        rw [u1K_at fs s q q (by rw [HL.out]; omega) (Nat.le_refl _)] at ku0
        have HW := Lib.hid hw
        have HU := Lib.hid hu
        have HDD := Lib.hid hd
        have HBl := Lib.hid hbl
        by_cases hlt : q + 1 < n
        · have hI : ((q + 1 : Nat) : Int) < n := by omega
          have d1 := hcd (q + 1) hlt
          rw [d1K_two n q hlt] at d1
          have zd := hfd (q + 1) hlt
          have hdn := dD_not (i := q + 1) (by omega)
          have ku1 := hw.at (q + 1)
          rw [u1K_we fs s q (by rw [HL.out]; omega)] at ku1
          have HS := Lib.hid (u1K_set fs s q (by rw [HL.out]; exact hlt))
          have HSd := Lib.hid (d1K_set n q hlt)
          have HD := Lib.hid (show gG fs s (q + 1) = ar .sub .f32 (ar .mul .f32 (ar .mul .f32 s s) (fs.getD (q + 1) 0)) (ar .mul .f32 (mM q) (gG fs s q)) from rfl)
          clear hw hu hd hbl hul hdl hcu hfu hcd hfd hgu1 hgd1 hgu2 hgd2
          go_wp2_with (first | (refine up_ar2 (op := .quo) rfl (is_lit (by decide)) kd ?_; intro m nm hm0; have hm : Is .f32 m (mM q) := hm0; clear hm0) | (refine up_ar2 (op := .add) rfl (is_lit (by decide)) hm ?_; intro r1 n1 hr1))
          have e1 : r1 = dD (q + 1) := by rw [← dD_succ] at hr1; exact is_eq hr1 hdn
          obtain ⟨W1, hW1⟩ : ∃ W1, (wr.drewN (nm + n1)).setCell ⟨gd, od + (q + 1), none⟩ (.float .f32 r1) = W1 := ⟨_, rfl⟩
          have p1 : Own W1 w.heap.size (.slice (some ⟨gd, od, none⟩) n cd) (fl (d1K n (q + 1))) := by rw [← hW1, ← HSd.out, ← e1]; exact (HDD.out.drewN _).putF (q + 1) hlt r1
          have p2 : Own W1 w.heap.size (.slice (some ⟨gu, ou, none⟩) n cu) (fl us) := by rw [← hW1]; exact own_beside (HU.out.drewN _) HN.out _
          have p3 : Below w.heap.size w W1 := by rw [← hW1]; exact (below_drawn HBl.out _).setCell HGD.out _
          obtain ⟨_, _, _, hcu, hfu⟩ := p2.nums (by omega)
          have u0 := hcu q (by omega)
          have u1 := hcu (q + 1) hlt
          have zu := hfu (q + 1) hlt
          have P1 := Lib.hid p1
          have P2 := Lib.hid p2
          have P3 := Lib.hid p3
          rw [hW1]
          generalize us.getD q 0 = y0 at *
          generalize us.getD (q + 1) 0 = y1 at *
          clear hW1 p1 p2 p3 hcu hfu d0 d1 zd hr1 HU HDD HBl
          refine Sf.wp_soft [false, false, false, false, false, false, false, false, false, false, false, false, false, true] [true, true, true, true, true, true, true, true, true, true, true, true, true, false] (fun i => if i = 10 then 0 else if i = 11 then 0 else 1) (fun _ => undef) (by kernel_rfl) (by kernel_rfl) (by kernel_rfl) ?_
          simp only [Sf.tl]
          refine Sf.lx_one rfl rfl (fun K hK => Sf.dft_quiet rfl ?_)
          go_big_quiet_op
          refine hK _ ?_
          clear hK K
          refine Sf.lx_one rfl rfl (fun K hK => Sf.dft_quiet rfl ?_)
          go_big_quiet_op
          refine hK _ ?_
          clear hK K
          refine Sf.lx_one rfl rfl (fun K hK => Sf.dft_quiet rfl ?_)
          go_big_quiet_op
          refine hK _ ?_
          clear hK K
          refine Sf.lx_one rfl rfl (fun K hK => Sf.dft_quiet rfl ?_)
          go_big_quiet_op
          refine hK _ ?_
          clear hK K
          refine Sf.lx_one rfl rfl (fun K hK => Sf.dft_quiet rfl ?_)
          go_big_quiet_op
          refine hK _ ?_
          clear hK K
          refine Sf.lx_one rfl rfl (fun K hK => Sf.dft_quiet rfl ?_)
          go_big_quiet_op
          refine hK _ ?_
          clear hK K
          refine Sf.lx_one rfl rfl (fun K hK => Sf.dft_quiet rfl ?_)
          go_big_quiet_op
          refine hK _ ?_
          clear hK K
          refine Sf.lx_one rfl rfl (fun K hK => Sf.dft_quiet rfl ?_)
          go_big_quiet_op
          refine hK _ ?_
          clear hK K
          refine Sf.lx_one rfl rfl (fun K hK => Sf.dft_quiet rfl ?_)
          go_big_quiet_op
          refine hK _ ?_
          clear hK K
          refine Sf.lx_one rfl rfl (fun K hK => Sf.dft_quiet rfl ?_)
          go_big_quiet_op
          refine hK _ ?_
          clear hK K
          refine Sf.lx_fl rfl rfl (fun K hK => Sf.sft_ar (k := .f32) rfl rfl rfl rfl (hm) (ku0) (fun r57 hr57 => hK _ ?_))
          clear hK K
          simp only [Act.put, List.setIfInBounds_toArray, List.set_cons_zero, List.set_cons_succ]
          refine Sf.lx_fl rfl rfl (fun K hK => Sf.sft_ar (k := .f32) rfl rfl rfl rfl (ku1) (hr57) (fun r58 hr58 => hK _ ?_))
          clear hK K
          simp only [Act.put, List.setIfInBounds_toArray, List.set_cons_zero, List.set_cons_succ]
          refine Sf.lx_one rfl rfl (fun K hK => Sf.dft_quiet rfl ?_)
          go_big_quiet_op
          refine hK _ ?_
          clear hK K
          refine Sf.lx_over ?_
          refine Sf.lx_nil ?_
          rintro _ ⟨nq, rfl⟩
          go_wp2_with fail
          go_roundw
          case rel => exact ⟨q + 1, us.set (q + 1) r58, by rw [HL.out]; exact hlt, by go_num, by rw [← HS.out]; exact HW.out.set (q + 1) (by rw [HD.out]; exact hr58), (P2.out.drewN nq).putF (q + 1) hlt r58, by rw [HL.out]; exact own_beside (P1.out.drewN nq) (Ne.symm HN.out) _, (below_drawn P3.out _).setCell HGU.out _⟩
          case measure => first | (simp [intOf]; done) | (simp [intOf]; omega)
        · have hqn : q + 1 = n := by omega
          have hI : ¬ ((q + 1 : Nat) : Int) < n := by omega
          have e : (n : Int) - 1 = (q : Int) := by omega
          have hqn' : q < n := by omega
          have u0 := hcu q hqn'
          have zu := hfu q hqn'
          have HQ := Lib.hid hqn
          have HD := Lib.hid (show bB fs s fs.length 0 = ar .quo .f32 (gG fs s q) (dD q) by rw [show q = fs.length - 1 by rw [HL.out]; omega]; rfl)
          generalize us.getD q 0 = y0 at *
          clear hw hu hd hbl hul hdl hcu hfu hcd hfd hgu1 hgd1 hgu2 hgd2 hlt hqn hq
          go_wp2_with fail
          refine Sf.wp_soft [false, false, false, false, false, false, false, false, false, false, true] [true, true, true, true, true, true, true, true, true, true, false] (fun i => if i = 8 then 0 else 1) (fun _ => undef) (by kernel_rfl) (by kernel_rfl) (by kernel_rfl) ?_
          simp only [Sf.tl]
          refine Sf.lx_one rfl rfl (fun K hK => Sf.dft_quiet rfl ?_)
          go_big_quiet_op
          refine hK _ ?_
          clear hK K
          refine Sf.lx_one rfl rfl (fun K hK => Sf.dft_quiet rfl ?_)
          go_big_quiet_op
          refine hK _ ?_
          clear hK K
          refine Sf.lx_one rfl rfl (fun K hK => Sf.dft_quiet rfl ?_)
          go_big_quiet_op
          refine hK _ ?_
          clear hK K
          refine Sf.lx_one rfl rfl (fun K hK => Sf.dft_quiet rfl ?_)
          go_big_quiet_op
          refine hK _ ?_
          clear hK K
          refine Sf.lx_one rfl rfl (fun K hK => Sf.dft_quiet rfl ?_)
          go_big_quiet_op
          refine hK _ ?_
          clear hK K
          refine Sf.lx_one rfl rfl (fun K hK => Sf.dft_quiet rfl ?_)
          go_big_quiet_op
          refine hK _ ?_
          clear hK K
          refine Sf.lx_one rfl rfl (fun K hK => Sf.dft_quiet rfl ?_)
          go_big_quiet_op
          refine hK _ ?_
          clear hK K
          refine Sf.lx_one rfl rfl (fun K hK => Sf.dft_quiet rfl ?_)
          go_big_quiet_op
          refine hK _ ?_
          clear hK K
          refine Sf.lx_fl rfl rfl (fun K hK => Sf.sft_ar (k := .f32) rfl rfl rfl rfl (ku0) (kd) (fun r71 hr71 => hK _ ?_))
          clear hK K
          simp only [Act.put, List.setIfInBounds_toArray, List.set_cons_zero, List.set_cons_succ]
          refine Sf.lx_one rfl rfl (fun K hK => Sf.dft_quiet rfl ?_)
          go_big_quiet_op
          refine hK _ ?_
          clear hK K
          refine Sf.lx_over ?_
          refine Sf.lx_nil ?_
          rintro _ ⟨nq, rfl⟩
          go_wp2_with fail
          obtain ⟨W1, hW1⟩ : ∃ W1, (wr.drewN nq).setCell ⟨gu, ou + q, none⟩ (.float .f32 r71) = W1 := ⟨_, rfl⟩
          have p1 : Own W1 w.heap.size (.slice (some ⟨gu, ou, none⟩) n cu) (fl (us.set q r71)) := by rw [← hW1]; exact (HU.out.drewN _).putF q hqn' r71
          have p2 : Own W1 w.heap.size (.slice (some ⟨gd, od, none⟩) n cd) (fl (d1K n (n - 1))) := by rw [← hW1, ← HQ.out, Nat.add_sub_cancel, HQ.out]; exact own_beside (HDD.out.drewN _) (Ne.symm HN.out) _
          have p3 : Below w.heap.size w W1 := by rw [← hW1]; exact (below_drawn HBl.out _).setCell HGU.out _
          have p4 : IsW (us.set q r71) (u2K fs s 0) := by rw [← u2K_zero fs s q (by rw [HL.out]; exact HQ.out)]; exact HW.out.set q (by rw [HD.out]; exact hr71)
          have P1 := Lib.hid p1
          have P2 := Lib.hid p2
          have P3 := Lib.hid p3
          have P4 := Lib.hid p4
          rw [hW1]
          clear hW1 p1 p2 p3 p4 d0 u0 zu ku0 kd HW HU HDD HBl hr71 HD
          go_loopw [11] (DnR w (.slice (some ⟨gu, ou, none⟩) n cu) (.slice (some ⟨gd, od, none⟩) n cd) fs s) (fun i _ => (intOf i + 1).toNat)
          case atStart => exact ⟨0, us.set q r71, by rw [HL.out]; omega, by have := HQ.out; rw [HL.out]; first | (congr 1; omega) | go_num, P4.out, P1.out, by rw [HL.out]; exact P2.out, P3.out⟩
          case round =>
            clear P1 P2 P3 P4
            obtain ⟨j, us2, hj, hiv, hw, hu, hd, hbl⟩ := hrel
            rw [HL.out] at hj hiv hd
            clear e hI
            by_cases hlt2 : j + 1 < n
            · obtain ⟨p, hp2⟩ : ∃ p, n = p + 2 + j := ⟨n - 2 - j, by omega⟩
              have e2 : (n : Int) - 2 - j = (p : Int) := by omega
              rw [e2] at hiv
              subst hiv
              have hpn : p < n := by omega
              have hp1 : p + 1 < n := by omega
              obtain ⟨_, _, _, hcu, hfu⟩ := hu.nums (by omega)
              obtain ⟨_, _, _, hcd, _⟩ := hd.nums (by omega)
              have d0 := hcd p hpn
              rw [d1K_at n (n - 1) p hpn (by omega)] at d0
              have kd := dD_is (i := p) (by omega)
              have u0 := hcu p hpn
              have u1 := hcu (p + 1) hp1
              have zu := hfu p hpn
              have ku0 := hw.at p
              rw [u2K_at fs s j p (by rw [HL.out]; omega)] at ku0
              have ku1 := hw.at (p + 1)
              rw [u2K_next fs s j p (by rw [HL.out]; omega)] at ku1
              have HS := Lib.hid (u2K_set fs s j p (by rw [HL.out]; omega))
              have HD := Lib.hid (show bB fs s fs.length (j + 1) = ar .quo .f32 (ar .add .f32 (gG fs s p) (bB fs s fs.length j)) (dD p) by rw [show p = fs.length - 2 - j by rw [HL.out]; omega]; rfl)
              have HW := Lib.hid hw
              have HU := Lib.hid hu
              have HDD := Lib.hid hd
              have HBl := Lib.hid hbl
              have HP := Lib.hid hp2
              generalize us2.getD p 0 = y0 at *
              generalize us2.getD (p + 1) 0 = y1 at *
              clear hw hu hd hbl hcu hfu hcd e2 hp2 hj
              go_wp2_with fail
              refine Sf.wp_soft [false, false, false, false, false, false, false, false, false, false, false, false, false, false, false, false, false, false, true] [true, true, true, true, true, true, true, true, true, true, true, true, true, true, true, true, true, true, false] (fun i => if i = 11 then 0 else if i = 16 then 0 else 1) (fun _ => undef) (by kernel_rfl) (by kernel_rfl) (by kernel_rfl) ?_
              simp only [Sf.tl]
              refine Sf.lx_one rfl rfl (fun K hK => Sf.dft_quiet rfl ?_)
              go_big_quiet_op
              refine hK _ ?_
              clear hK K
              refine Sf.lx_one rfl rfl (fun K hK => Sf.dft_quiet rfl ?_)
              go_big_quiet_op
              refine hK _ ?_
              clear hK K
              refine Sf.lx_one rfl rfl (fun K hK => Sf.dft_quiet rfl ?_)
              go_big_quiet_op
              refine hK _ ?_
              clear hK K
              refine Sf.lx_one rfl rfl (fun K hK => Sf.dft_quiet rfl ?_)
              go_big_quiet_op
              refine hK _ ?_
              clear hK K
              refine Sf.lx_one rfl rfl (fun K hK => Sf.dft_quiet rfl ?_)
              go_big_quiet_op
              refine hK _ ?_
              clear hK K
              refine Sf.lx_one rfl rfl (fun K hK => Sf.dft_quiet rfl ?_)
              go_big_quiet_op
              refine hK _ ?_
              clear hK K
              refine Sf.lx_one rfl rfl (fun K hK => Sf.dft_quiet rfl ?_)
              go_big_quiet_op
              refine hK _ ?_
              clear hK K
              refine Sf.lx_one rfl rfl (fun K hK => Sf.dft_quiet rfl ?_)
              go_big_quiet_op
              refine hK _ ?_
              clear hK K
              refine Sf.lx_one rfl rfl (fun K hK => Sf.dft_quiet rfl ?_)
              go_big_quiet_op
              refine hK _ ?_
              clear hK K
              refine Sf.lx_one rfl rfl (fun K hK => Sf.dft_quiet rfl ?_)
              go_big_quiet_op
              refine hK _ ?_
              clear hK K
              refine Sf.lx_one rfl rfl (fun K hK => Sf.dft_quiet rfl ?_)
              go_big_quiet_op
              refine hK _ ?_
              clear hK K
              refine Sf.lx_fl rfl rfl (fun K hK => Sf.sft_ar (k := .f32) rfl rfl rfl rfl (ku0) (ku1) (fun r90 hr90 => hK _ ?_))
              clear hK K
              simp only [Act.put, List.setIfInBounds_toArray, List.set_cons_zero, List.set_cons_succ]
              refine Sf.lx_one rfl rfl (fun K hK => Sf.dft_quiet rfl ?_)
              go_big_quiet_op
              refine hK _ ?_
              clear hK K
              refine Sf.lx_one rfl rfl (fun K hK => Sf.dft_quiet rfl ?_)
              go_big_quiet_op
              refine hK _ ?_
              clear hK K
              refine Sf.lx_one rfl rfl (fun K hK => Sf.dft_quiet rfl ?_)
              go_big_quiet_op
              refine hK _ ?_
              clear hK K
              refine Sf.lx_one rfl rfl (fun K hK => Sf.dft_quiet rfl ?_)
              go_big_quiet_op
              refine hK _ ?_
              clear hK K
              refine Sf.lx_fl rfl rfl (fun K hK => Sf.sft_ar (k := .f32) rfl rfl rfl rfl (hr90) (kd) (fun r95 hr95 => hK _ ?_))
              clear hK K
              simp only [Act.put, List.setIfInBounds_toArray, List.set_cons_zero, List.set_cons_succ]
              refine Sf.lx_one rfl rfl (fun K hK => Sf.dft_quiet rfl ?_)
              go_big_quiet_op
              refine hK _ ?_
              clear hK K
              refine Sf.lx_over ?_
              refine Sf.lx_nil ?_
              rintro _ ⟨nq, rfl⟩
              go_wp2_with fail
              go_roundw
              case rel => exact ⟨j + 1, us2.set p r95, by rw [HL.out]; exact hlt2, by have := HP.out; rw [HL.out]; first | (congr 1; omega) | go_num, by rw [← HS.out]; exact HW.out.set p (by rw [HD.out]; exact hr95), (HU.out.drewN nq).putF p hpn r95, by rw [HL.out]; exact own_beside (HDD.out.drewN nq) (Ne.symm HN.out) _, (below_drawn HBl.out _).setCell HGU.out _⟩
              case measure => first | (simp [intOf]; done) | (simp [intOf]; omega)
            · have e2 : (n : Int) - 2 - j = -1 := by omega
              rw [e2] at hiv
              subst hiv
              have hF : u2K fs s j = soF fs s := u2K_all fs s j (by rw [HL.out]; omega)
              rw [hF] at hw
              have HW := Lib.hid hw
              have HU := Lib.hid hu
              have HBl := Lib.hid hbl
              have HSL := Lib.hid (show us2.length ≤ 1048576 by rw [hw.len, soF_len, HL.out]; omega)
              clear hw hu hd hbl hF e2 hj
              cases hf : finA (soF fs s) with
              | false =>
                rw [hf] at HB
                have HF := Lib.hid hf
                clear hf
                go_wp2_with (go_at_call 68; refine (iflI_any _ us2 _ _ HU.out.rd HSL.out HW.out.lt).mono ?_; rintro e w' ⟨rfl, nf, rfl⟩; rw [HW.out.fin, HF.out])
                go_ret2
                rw [slV_no HB.out, HB.out]
                exact retLF_none (below_drawn HBl.out _)
              | true =>
                rw [hf] at HB
                have HF := Lib.hid hf
                clear hf
                go_wp2_with (go_at_call 68; refine (iflI_any _ us2 _ _ HU.out.rd HSL.out HW.out.lt).mono ?_; rintro e w' ⟨rfl, nf, rfl⟩; rw [HW.out.fin, HF.out])
                go_ret2
                rw [slV_yes HB.out, HB.out, ← HW.out.eq HF.out]
                exact ⟨_, rfl, HU.out.drewN _, below_drawn HBl.out _⟩
end Go.Proofs.Ytfcegkighjnmeaa
