/-
  Contracts: a line that is solved at once, by the reference.
-/
import Derived.Test.YtfcegkighjnmeaaFloDq
import Derived.Test.YtfcegkighjnmeaaSfm
import Derived.Test.YtfcegkighjnmeaaHalf
import Derived.Test.YtfcegkighjnmeaaSmi
namespace Go.Proofs.Ytfcegkighjnmeaa
open Go.RowKit Fl
set_option linter.unusedVariables false

theorem below_app {w0 wr w1 : World} {q : Nat} {o : Obj} {row : Option Nat} (hb : Below w0.heap.size w0 wr) (hg : ((wr.drewN q).alloc o).grownBy w1 row) (hr : ∀ j, row = some j → w0.heap.size ≤ j) : Below w0.heap.size w0 w1 := by
  have h := (below_drawn hb q).alloc (below_drawn hb q).size o
  exact h.grown hg h.size hr
theorem row_form {w : World} {base n : Nat} {e : TypeId} {v : Value} {xs : List Value} (h : w.ownsRow base e 1 v n xs) (hn : 0 < n) : ∃ g cap, v = .slice (some ⟨g, 0, none⟩) n cap ∧ base ≤ g ∧ g < w.heap.size := by
  rcases h.2 with ⟨_, h0⟩ | ⟨g, cap, cur, hv, hb, hg, _⟩
  · omega
  · exact ⟨g, cap, hv, hb, (Array.getElem?_eq_some_iff.1 hg).1⟩
theorem row_cell {w : World} {base n g cap : Nat} {e : TypeId} {xs : List Nat} (h : w.ownsRow base e 1 (.slice (some ⟨g, 0, none⟩) n cap) n (fl xs)) {q : Nat} (hq : q < n) : w.cell? ⟨g, q, none⟩ = some (.float .f32 (xs.getD q 0)) := by
  have hl : (fl xs).length = n := by rw [h.1]; omega
  rw [fl_len] at hl
  rw [h.cellAt q (by omega), fl_getD xs q (by omega)]
theorem row_app {base : Nat} {e : TypeId} {wr w1 : World} {u : Value} {n q : Nat} {xs : List Value} {o : Obj} {row : Option Nat} (h : wr.ownsRow base e 1 u n xs) (hg : ((wr.drewN q).alloc o).grownBy w1 row) (hne : u.ownBlock = none ∨ u.ownBlock ≠ row) : w1.ownsRow base e 1 u n xs :=
  (World.ownsRow.alloc (rowDrewF h q) o).kept hg hne
theorem uK_zero (fs : List Nat) (s : Nat) : uK fs s 0 = List.replicate fs.length 0 := by
  apply List.ext_getElem?
  intro i
  by_cases hi : i < fs.length
  · simp [uK, hi, show ¬ fs.length ≤ i by omega]
  · simp [uK, hi]
theorem uK_all (fs : List Nat) (s : Nat) : uK fs s fs.length = soF fs s := map_congr' fun i hi => by rw [if_pos (by omega)]
theorem uK_set (fs : List Nat) (s j p : Nat) (h : p + 1 + j = fs.length) : (uK fs s j).set p (bB fs s fs.length j) = uK fs s (j + 1) := by
  refine rsetN (by omega) (by rw [if_pos (by omega), show fs.length - 1 - p = j by omega]) fun i hi hne => ?_
  by_cases h0 : fs.length ≤ i + j
  · rw [if_pos h0, if_pos (by omega)]
  · rw [if_neg h0, if_neg (by omega)]
theorem uK_at (fs : List Nat) (s j p : Nat) (h : p + 1 + (j + 1) = fs.length) : (uK fs s (j + 1)).getD (p + 1) 0 = bB fs s fs.length j := by
  unfold uK; rw [range_getD _ (by omega), if_pos (by omega), show fs.length - 1 - (p + 1) = j by omega]
theorem dP_getD {k q : Nat} (h : q < k) : (dP k).getD q 0 = dD q := by unfold dP; rw [range_getD _ h]
theorem gP_getD (fs : List Nat) (s : Nat) {k q : Nat} (h : q < k) : (gP fs s k).getD q 0 = gG fs s q := by unfold gP; rw [range_getD _ h]
def SlR (w0 : World) (fs : List Nat) (s : Nat) (v u iv : Value) (wr : World) : Prop :=
  ∃ (q : Nat) (gs : List Nat), q < fs.length ∧ iv = .int .i64 ((q + 1 : Nat) : Int) ∧ wr.ownsRow w0.heap.size 47 1 v (q + 1) (fl (dP (q + 1))) ∧ IsW gs (gP fs s (q + 1)) ∧ wr.ownsRow w0.heap.size 47 1 u (q + 1) (fl gs) ∧ DJ v u ∧ Below w0.heap.size w0 wr
def UpR (w0 : World) (v : Value) (fs : List Nat) (s : Nat) (iv : Value) (wr : World) : Prop :=
  ∃ (j : Nat) (us : List Nat), j ≤ fs.length ∧ iv = .int .i64 ((fs.length : Int) - 1 - (j : Int)) ∧ IsW us (uK fs s j) ∧ Own wr w0.heap.size v (fl us) ∧ Below w0.heap.size w0 wr
set_option maxRecDepth 100000 in
set_option maxHeartbeats 8000000 in
theorem slS_any (A : Option Addr) (n c s : Nat) (fs : List Nat) (w : World) (h : Rd w w.heap.size (.slice A n c) (fl fs)) (hn : fs.length = n) (h1 : 1 ≤ n) (h63 : n ≤ 63) (hf : finA fs = true) (hx : ∀ x ∈ fs, x < 2 ^ 32) (hs : s < 2 ^ 32) (hp : psB s = true) :
    Calls Try.prog 78 #[.slice A n c, .float .f32 s] w (RetW (soF fs s) w) := by
  obtain ⟨i0, hi, hz0, hz1, hz2⟩ := info_parts infoF
  obtain ⟨b, off, rfl, hb, hc⟩ := h.num (i := 0) (by omega)
  have hst : Is .f32 s s := ⟨cn_fin (ps_fin hp), hs⟩
  have hmk := fun W => run_mkL (P := Try.prog) 35 47 i0 _ Try.underlying35 hi hz0 n (by rw [hz2]; omega) (by omega) (n : Int) rfl W
  rw [hz1, Nat.mul_one] at hmk
  have hcur : (madeCells (Value.cells (.float .f32 0)) n) = (fl (List.replicate n 0)).toArray := by
    show (madeCells #[Value.float .f32 0] n) = _
    have := toList_madeCells_one (.float .f32 0) n
    rw [← Array.toArray_toList (xs := madeCells #[Value.float .f32 0] n), this]; simp [fl]
  rw [hcur] at hmk
  have c0 := hc 0 (by omega)
  rw [Nat.add_zero] at c0
  have k0 := (IsW.self hf hx).at 0
  have HG0 := Lib.hid (show gG fs s 0 = ar .mul .f32 (ar .mul .f32 s s) (fs.getD 0 0) from rfl)
  have HC := Lib.hid hc
  have HU := Lib.hid (IsW.self hf hx)
  have HL := Lib.hid hn
  generalize fs.getD 0 0 = f0 at *
  have c0' : ∀ o : Obj, (w.alloc o).cell? ⟨b, off, none⟩ = some (.float .f32 f0) := fun o => (((Below.refl _ _).alloc (Nat.le_refl _) _).cell (p := ⟨b, off, none⟩) hb).trans c0
  have c1 := fun o q => (show ((w.alloc o).drewN q).cell? ⟨b, off, none⟩ = some (.float .f32 f0) from c0' o)
  clear h hc hn hf hx hcur
  have hsf : ∀ (a : Addr) (x : Nat) (w : World), (store a (.float .f32 x)).run Try.prog w = stored Try.prog w a (.float .f32 x) .plain := fun a x w => run_store _ w a _ _ rfl
  go_enter Try.func78, Try.ntmps78
  go_wp2_with (first | (refine up_ar2 (op := .mul) rfl hst hst ?_; intro r1 n1 hr1) | (refine up_ar2 (op := .mul) rfl hr1 k0 ?_; intro r2 n2 hr2))
  go_loopw [6, 7, 8] (SlR w fs s) (fun _ _ i _ => n - (intOf i).toNat)
  case atStart =>
    refine ⟨0, [r2], by rw [HL.out]; omega, rfl, ?_, ?_, ?_, ?_, ?_⟩
    · exact World.ownsRow.alloc (rowDrewF (World.ownsRow_lit w #[.float .f32 1073741824] 1 (Nat.le_refl _) (by decide) rfl) _) _
    · rw [gP_succ]; exact IsW.nil.app (by rw [HG0.out]; exact hr2)
    · have := World.ownsRow_lit (base := w.heap.size) (e := 47) (size := 1) ((w.alloc (.cells #[.float .f32 1073741824] 47)).drewN (n1 + n2)) #[.float .f32 r2] 1 (by simp) (by decide) rfl
      simpa [fl] using this
    · intro k h1 h2
      simp only [Value.ownBlock, Option.some.injEq] at h1 h2
      first | omega | (simp at h2; omega)
    · have hb0 : Below w.heap.size w (w.alloc (.cells #[.float .f32 1073741824] 47)) := (Below.refl _ _).alloc (Nat.le_refl _) _
      exact (below_drawn hb0 _).alloc (below_drawn hb0 _).size _
  case round =>
    obtain ⟨q, gs, hq, rfl, hov, hw, hou, hdj, hbl⟩ := hrel
    clear hr1 hr2
    rw [HL.out] at hq
    obtain ⟨gd, cd, rfl, hgd1, hgd⟩ := row_form hov (by omega)
    obtain ⟨gu, cu, rfl, hgu1, hgu⟩ := row_form hou (by omega)
    by_cases hlt : q + 1 < n
    · have hI : ((q + 1 : Nat) : Int) < n := by omega
      have d0 := row_cell hov (q := q) (by omega)
      rw [dP_getD (by omega)] at d0
      have kd := dD_is (i := q) (by omega)
      have hmn := mM_not (i := q) (by omega)
      have hdn := dD_not (i := q + 1) (by omega)
      have kg := hw.at q
      rw [gP_getD fs s (by omega)] at kg
      have kf := HU.out.at (q + 1)
      have HV := Lib.hid hov
      have HO := Lib.hid hou
      have HJ := Lib.hid hdj
      have HB := Lib.hid hbl
      have HW := Lib.hid hw
      have HD := Lib.hid (show gG fs s (q + 1) = ar .sub .f32 (ar .mul .f32 (ar .mul .f32 s s) (fs.getD (q + 1) 0)) (ar .mul .f32 (mM q) (gG fs s q)) from rfl)
      have hbs := hbl.size
      have HCq := Lib.hid (HC.out (q + 1) hlt)
      generalize fs.getD (q + 1) 0 = x1 at *
      clear hov hou hdj hbl hw
      go_wp2_with (first | (refine up_ar2 (op := .quo) rfl (is_lit (by decide)) kd ?_; intro m nm hm0; have hm : Is .f32 m (mM q) := hm0; clear hm0) | (refine up_ar2 (op := .add) rfl (is_lit (by decide)) hm ?_; intro r1 n1 hr1) | (at_builtin; refine wpList_append_own_at _ rfl _ _ 35 rfl w.heap.size 47 i0 (.float .f32 0) 1 4 Try.underlying35 hi hz0 hz1 hz2 rfl (by decide) _ _ _ rfl ((rowDrewF HV.out _).alloc _) ⟨wr.heap.size, 0, none⟩ 1 1 [.float .f32 r1] rfl rfl (one_newF _ _ _) (cellsF [r1]) (by unfold maxLen; omega) (by omega) (by simp; omega) ?_; intro v1 w1 hown1 hgrow1 _ hat1))
      have e1 : r1 = dD (q + 1) := by rw [← dD_succ] at hr1; exact is_eq hr1 hdn
      have q1 : w1.ownsRow w.heap.size 47 1 v1 (q + 2) (fl (dP (q + 2))) := by rw [dP_succ (q + 1), fl_app, ← e1]; exact hown1
      have q2 := row_app HO.out hgrow1 (dj_kept HJ.out)
      have q3 := HJ.out.grow HO.out (by simp) hat1
      have q4 := below_app HB.out hgrow1 (fun j hj => (HV.out.lt j hj).1)
      have g0 := row_cell q2 (q := q) (by omega)
      have f0 := (q4.cell (p := ⟨b, off + (q + 1), none⟩) hb).trans HCq.out
      have q5 := q4.size
      have Q1 := Lib.hid q1
      have Q2 := Lib.hid q2
      have Q3 := Lib.hid q3
      have Q4 := Lib.hid q4
      have HGL := Lib.hid HW.out.len
      generalize gs.getD q 0 = y0 at *
      clear hown1 hgrow1 hat1 q1 q2 q3 q4 hr1 HCq d0
      refine Sf.wp_softM [true, false, false, false, false, false, false, false, false, false, false, false, false, false, false, false, false, true, true, true] [true, true, true, true, true, true, true, true, true, true, true, true, true, true, true, true, true, false, false, false] (fun i => if i = 3 then 0 else if i = 8 then 0 else if i = 15 then 0 else if i = 16 then 0 else 1) (fun _ => undef) _ (by kernel_rfl) (by kernel_rfl) (by kernel_rfl) (by kernel_rfl) (by kernel_rfl) (by kernel_rfl) (fun _ _ _ h => h) (.inl ⟨rfl, fun _ => rfl⟩) ?_
      simp only [Act.put, List.setIfInBounds_toArray, List.set_cons_zero, List.set_cons_succ]
      simp only [Sf.tl]
      refine Sf.lx_over ?_
      refine Sf.lx_one rfl rfl (fun K hK => Sf.dft_quiet rfl ?_)
      go_big_quiet_op
      refine hK _ ?_
      clear hK K
      refine Sf.lx_one rfl rfl (fun K hK => Sf.dft_quiet rfl ?_)
      go_big_quiet_op
      refine hK _ ?_
      clear hK K
      refine Sf.lx_fl rfl rfl (fun K hK => Sf.sft_ar (k := .f32) rfl rfl rfl rfl (hst) (hst) (fun r43 hr43 => hK _ ?_))
      clear hK K
      simp only [Act.put, List.setIfInBounds_toArray, List.set_cons_zero, List.set_cons_succ]
      refine Sf.lx_one rfl rfl (fun K hK => Sf.dft_quiet rfl ?_)
      go_big_quiet_op
      refine hK _ ?_
      clear hK K
      refine Sf.lx_one rfl rfl (fun K hK => Sf.dft_quiet rfl ?_)
      go_big_quiet_op
      refine hK _ ?_
      clear hK K
      refine Sf.lx_one rfl rfl (fun K hK => Sf.dft_quiet rfl ?_)
      go_big_quiet_op
      refine hK _ ?_
      clear hK K
      refine Sf.lx_one rfl rfl (fun K hK => Sf.dft_quiet rfl ?_)
      go_big_quiet_op
      refine hK _ ?_
      clear hK K
      refine Sf.lx_fl rfl rfl (fun K hK => Sf.sft_ar (k := .f32) rfl rfl rfl rfl (hr43) (kf) (fun r48 hr48 => hK _ ?_))
      clear hK K
      simp only [Act.put, List.setIfInBounds_toArray, List.set_cons_zero, List.set_cons_succ]
      refine Sf.lx_one rfl rfl (fun K hK => Sf.dft_quiet rfl ?_)
      go_big_quiet_op
      refine hK _ ?_
      clear hK K
      refine Sf.lx_one rfl rfl (fun K hK => Sf.dft_quiet rfl ?_)
      go_big_quiet_op
      refine hK _ ?_
      clear hK K
      refine Sf.lx_one rfl rfl (fun K hK => Sf.dft_quiet rfl ?_)
      go_big_quiet_op
      refine hK _ ?_
      clear hK K
      refine Sf.lx_one rfl rfl (fun K hK => Sf.dft_quiet rfl ?_)
      go_big_quiet_op
      refine hK _ ?_
      clear hK K
      refine Sf.lx_one rfl rfl (fun K hK => Sf.dft_quiet rfl ?_)
      go_big_quiet_op
      refine hK _ ?_
      clear hK K
      refine Sf.lx_one rfl rfl (fun K hK => Sf.dft_quiet rfl ?_)
      go_big_quiet_op
      refine hK _ ?_
      clear hK K
      refine Sf.lx_fl rfl rfl (fun K hK => Sf.sft_ar (k := .f32) rfl rfl rfl rfl (hm) (kg) (fun r55 hr55 => hK _ ?_))
      clear hK K
      simp only [Act.put, List.setIfInBounds_toArray, List.set_cons_zero, List.set_cons_succ]
      refine Sf.lx_fl rfl rfl (fun K hK => Sf.sft_ar (k := .f32) rfl rfl rfl rfl (hr48) (hr55) (fun r56 hr56 => hK _ ?_))
      clear hK K
      simp only [Act.put, List.setIfInBounds_toArray, List.set_cons_zero, List.set_cons_succ]
      refine Sf.lx_over ?_
      refine Sf.lx_over ?_
      refine Sf.lx_over ?_
      refine Sf.lx_nil ?_
      rintro _ ⟨nq, rfl⟩
      go_wp2_with (at_builtin; refine wpList_append_own_at _ rfl _ _ 35 rfl w.heap.size 47 i0 (.float .f32 0) 1 4 Try.underlying35 hi hz0 hz1 hz2 rfl (by decide) _ _ _ rfl ((rowDrewF Q2.out _).alloc _) ⟨w1.heap.size, 0, none⟩ 1 1 [.float .f32 r56] rfl rfl (one_newF _ _ _) (cellsF [r56]) (by unfold maxLen; omega) (by omega) (by simp; omega) ?_; intro v2 w2 hown2 hgrow2 _ hat2)
      have p1 : w2.ownsRow w.heap.size 47 1 v2 (q + 2) (fl (gs ++ [r56])) := by rw [fl_app]; exact hown2
      have p2 := row_app Q1.out hgrow2 (dj_kept Q3.out.symm)
      have p3 := Q3.out.symm.grow Q1.out (by simp) hat2
      have p4 := below_app Q4.out hgrow2 (fun j hj => (Q2.out.lt j hj).1)
      have P1 := Lib.hid p1
      have P2 := Lib.hid p2
      have P3 := Lib.hid p3.symm
      have P4 := Lib.hid p4
      clear p1 p2 p3 p4 hown2 hgrow2 hat2
      go_wp2
      go_roundw
      case rel => exact ⟨q + 1, gs ++ [r56], by rw [HL.out]; omega, by go_num, P2.out, by rw [gP_succ]; exact HW.out.app (by rw [HD.out]; exact hr56), P1.out, P3.out, P4.out⟩
      case measure => simp [intOf]; omega
    · have hI : ¬ ((q + 1 : Nat) : Int) < n := by omega
      have hqn : q + 1 = n := by omega
      rw [hqn] at hov hw hou
      rw [hqn] at hI ⊢
      have HV := Lib.hid hov
      have HO := Lib.hid hou
      have HB := Lib.hid hbl
      have HW := Lib.hid hw
      clear hov hou hdj hbl hw HC HU HG0 c0 c0' c1 k0 hq hlt hqn q
      generalize wr = WA at *
      go_wp2_with fail
      obtain ⟨W1, hW1⟩ : ∃ W1, WA.alloc (.cells (fl (List.replicate n 0)).toArray 47) = W1 := ⟨_, rfl⟩
      have hbm : Below WA.heap.size WA W1 := by rw [← hW1]; exact (Below.refl _ _).alloc (Nat.le_refl _) _
      have hom : Own W1 WA.heap.size (.slice (some ⟨WA.heap.size, 0, none⟩) n n) (fl (List.replicate n 0)) := by
        have := own_block (w := W1) (g := WA.heap.size) (lo := WA.heap.size) (L := List.replicate n 0) (by rw [← hW1]; exact heap_alloc_new _ _) (Nat.le_refl _) (by simp; omega)
        simpa using this
      have HOM := Lib.hid hom
      have HBM := Lib.hid hbm
      rw [hW1]
      clear hW1 hom hbm hI
      go_loopw [11] (UpR WA (.slice (some ⟨WA.heap.size, 0, none⟩) n n) fs s) (fun i _ => (intOf i + 1).toNat)
      case atStart => exact ⟨0, _, Nat.zero_le _, by rw [HL.out]; first | go_num | (congr 1; omega), by rw [uK_zero, HL.out]; exact isW_zero n, HOM.out, HBM.out⟩
      case round =>
        clear HOM HBM
        obtain ⟨j, us, hj, hiv, hw, ho, hbl⟩ := hrel
        rw [HL.out] at hj hiv
        by_cases hlt : j < n
        · obtain ⟨p, hp2⟩ : ∃ p, n = p + 1 + j := ⟨n - 1 - j, by omega⟩
          have e : (n : Int) - 1 - j = (p : Int) := by omega
          rw [e] at hiv
          subst hiv
          have hpn : p < n := by omega
          have g0 : wr.cell? ⟨gu, p, none⟩ = some (.float .f32 (gs.getD p 0)) := (hbl.cell (p := ⟨gu, p, none⟩) hgu).trans (row_cell HO.out hpn)
          have d0 : wr.cell? ⟨gd, p, none⟩ = some (.float .f32 (dD p)) := (hbl.cell (p := ⟨gd, p, none⟩) hgd).trans (by have := row_cell HV.out hpn; rwa [dP_getD hpn] at this)
          have kd := dD_is (i := p) (by omega)
          have kg := HW.out.at p
          rw [gP_getD fs s hpn] at kg
          obtain ⟨hyl, _, hgb, hcc, hfz⟩ := ho.nums (by omega)
          have t0 := hcc p hpn
          have z0 := hfz p hpn
          rw [Nat.zero_add] at t0 z0
          have HS := Lib.hid (uK_set fs s j p (by rw [HL.out]; omega))
          have HW2 := Lib.hid hw
          have HO2 := Lib.hid ho
          have HB2 := Lib.hid hbl
          rcases j with _ | j
          · have hI2 : ¬ ((p : Int) + 1 < n) := by omega
            have HD := Lib.hid (show bB fs s fs.length 0 = ar .quo .f32 (gG fs s p) (dD p) by rw [show p = fs.length - 1 by rw [HL.out]; omega]; rfl)
            generalize gs.getD p 0 = y0 at *
            generalize us.getD p 0 = y1 at *
            have HP := Lib.hid hp2
            clear hw ho hbl hyl hcc hfz e hp2
            go_wp2_with (refine up_ar2 (op := .quo) rfl kg kd ?_; intro r n1 hr)
            go_roundw
            case rel =>
              refine ⟨1, us.set p r, by rw [HL.out]; omega, by have := HP.out; rw [HL.out]; first | (congr 1; omega) | go_num, ?_, ?_, (below_drawn HB2.out _).setCell (Nat.le_refl _) _⟩
              · rw [show (1 : Nat) = 0 + 1 from rfl, ← HS.out]; exact HW2.out.set p (by rw [HD.out]; exact hr)
              · have := (HO2.out.drewN n1).putF p hpn r
                rw [Nat.zero_add] at this; exact this
            case measure => first | (simp [intOf]; done) | (simp [intOf]; omega)
          · have hI2 : ((p : Int) + 1 < n) := by omega
            have hp1 : p + 1 < n := by omega
            have HD := Lib.hid (show bB fs s fs.length (j + 1) = ar .quo .f32 (ar .add .f32 (gG fs s p) (bB fs s fs.length j)) (dD p) by rw [show p = fs.length - 2 - j by rw [HL.out]; omega]; rfl)
            have t1 := hcc (p + 1) hp1
            rw [Nat.zero_add] at t1
            have ku := hw.at (p + 1)
            rw [uK_at fs s j p (by rw [HL.out]; omega)] at ku
            generalize gs.getD p 0 = y0 at *
            generalize us.getD p 0 = y1 at *
            generalize us.getD (p + 1) 0 = y2 at *
            have HP := Lib.hid hp2
            clear hw ho hbl hyl hcc hfz e hp2
            go_wp2_with (first | (refine up_ar2 (op := .add) rfl kg ku ?_; intro r1 n1 hr1) | (refine up_ar2 (op := .quo) rfl hr1 kd ?_; intro r n2 hr))
            go_roundw
            case rel =>
              refine ⟨j + 2, us.set p r, by have := HP.out; rw [HL.out]; omega, by have := HP.out; rw [HL.out]; first | (congr 1; omega) | go_num, ?_, ?_, (below_drawn HB2.out _).setCell (Nat.le_refl _) _⟩
              · rw [← HS.out]; exact HW2.out.set p (by rw [HD.out]; exact hr)
              · have := (HO2.out.drewN (n1 + n2)).putF p hpn r
                rw [Nat.zero_add] at this; exact this
            case measure => first | (simp [intOf]; done) | (simp [intOf]; omega)
        · have e : (n : Int) - 1 - j = -1 := by omega
          rw [e] at hiv
          subst hiv
          have hF : uK fs s j = soF fs s := by rw [← uK_all, HL.out, show j = n by omega]
          rw [hF] at hw
          have HW2 := Lib.hid hw
          have HO2 := Lib.hid ho
          have HB2 := Lib.hid hbl
          have hsz := HB.out.size
          clear hw ho hbl hF e
          go_wp2_with fail
          go_ret
          exact ⟨_, us, rfl, HW2.out, HO2.out.less hsz, HB.out.trans (HB2.out.mono hsz)⟩
end Go.Proofs.Ytfcegkighjnmeaa
