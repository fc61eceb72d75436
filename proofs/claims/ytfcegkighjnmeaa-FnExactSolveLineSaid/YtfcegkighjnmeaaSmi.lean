/-
  Contracts: lines that are smoothed, by the program.
-/
import Derived.Test.YtfcegkighjnmeaaSmo
import Derived.Test.YtfcegkighjnmeaaTw
namespace Go.Proofs.Ytfcegkighjnmeaa
open Go.RowKit Fl
set_option linter.unusedVariables false

def weK (fs : List Nat) (s k : Nat) : List Nat := (List.range fs.length).map fun i => if i < k then wfA fs s i else 0
def weF (fs : List Nat) (s : Nat) : List Nat := (List.range fs.length).map (wfA fs s)
theorem weF_len (fs : List Nat) (s : Nat) : (weF fs s).length = fs.length := by simp [weF]
theorem weK_zero (fs : List Nat) (s : Nat) : weK fs s 0 = List.replicate fs.length 0 := by
  apply List.ext_getElem?
  intro i
  by_cases hi : i < fs.length
  · simp [weK, hi]
  · simp [weK, hi]
theorem weK_all (fs : List Nat) (s : Nat) : weK fs s fs.length = weF fs s := map_congr' fun i hi => by rw [if_pos hi]
theorem weK_set (fs : List Nat) (s k : Nat) (h : k < fs.length) : (weK fs s k).set k (wfA fs s k) = weK fs s (k + 1) := by
  refine rsetN h (by rw [if_pos (by omega)]) fun i hi hne => ?_
  by_cases h0 : i < k
  · rw [if_pos h0, if_pos (by omega)]
  · rw [if_neg h0, if_neg (by omega)]
theorem isW_zero (n : Nat) : IsW (List.replicate n 0) (List.replicate n 0) := ⟨rfl, fun i => by
  by_cases h : i < n
  · simp [List.getD, h]; exact is_0
  · simp [List.getD, h]; exact is_0⟩
def WeR (w0 : World) (lo : Nat) (v : Value) (fs : List Nat) (s : Nat) (iv : Value) (wr : World) : Prop := ∃ (k : Nat) (cur : List Nat), k ≤ fs.length ∧ iv = .int .i64 k ∧ IsW cur (weK fs s k) ∧ Own wr lo v (fl cur) ∧ Below lo w0 wr
set_option maxRecDepth 100000 in
set_option maxHeartbeats 8000000 in
theorem weI_any (A : Option Addr) (n c s : Nat) (fs : List Nat) (w : World) (h : Rd w w.heap.size (.slice A n c) (fl fs)) (hn' : fs.length = n) (h1 : 1 ≤ n) (h63 : n ≤ 63) (hf' : finA fs = true) (hx' : ∀ x ∈ fs, x < 2 ^ 32) (hs : s < 2 ^ 32) (hp : psB s = true) :
    Calls Try.prog 80 #[.agg #[.slice A n c, .float .f32 s]] w (RetW (weF fs s) w) := by
  obtain ⟨i0, hi, hz0, hz1, hz2⟩ := info_parts infoF
  obtain ⟨b, off, rfl, hb, hc⟩ := h.num (i := 0) (by omega)
  have hmk := fun W => run_mkL (P := Try.prog) 35 47 i0 _ Try.underlying35 hi hz0 n (by rw [hz2]; omega) (by omega) (n : Int) rfl W
  rw [hz1, Nat.mul_one] at hmk
  have hcur : (madeCells (Value.cells (.float .f32 0)) n) = (fl (List.replicate n 0)).toArray := by
    show (madeCells #[Value.float .f32 0] n) = _
    have := toList_madeCells_one (.float .f32 0) n
    rw [← Array.toArray_toList (xs := madeCells #[Value.float .f32 0] n), this]; simp [fl]
  rw [hcur] at hmk
  obtain ⟨W0, hW0⟩ : ∃ W0, w.alloc (boxO (.slice (some ⟨b, off, none⟩) n c) s) = W0 := ⟨_, rfl⟩
  have hW0' : w.alloc (.cells #[.slice (some ⟨b, off, none⟩) n c, .float .f32 s] 75) = W0 := hW0
  have hb0 : Below w.heap.size w W0 := by rw [← hW0]; exact (Below.refl _ _).alloc (Nat.le_refl _) _
  have hbs : W0.heap.size = w.heap.size + 1 := by rw [← hW0]; exact box_size _ _
  obtain ⟨bx0, bx1⟩ := box_cells w (.slice (some ⟨b, off, none⟩) n c) s
  rw [hW0] at bx0 bx1
  have hxw : w.heap.size < W0.heap.size := by omega
  obtain ⟨W1, hW1⟩ : ∃ W1, W0.alloc (.cells (fl (List.replicate n 0)).toArray 47) = W1 := ⟨_, rfl⟩
  have hb1 : Below W0.heap.size W0 W1 := by rw [← hW1]; exact (Below.refl _ _).alloc (Nat.le_refl _) _
  have ho1 : Own W1 W0.heap.size (.slice (some ⟨W0.heap.size, 0, none⟩) n n) (fl (List.replicate n 0)) := by
    have := own_block (w := W1) (g := W0.heap.size) (lo := W0.heap.size) (L := List.replicate n 0) (by rw [← hW1]; exact heap_alloc_new _ _) (Nat.le_refl _) (by simp; omega)
    simpa using this
  have HSq := Lib.hid (fun W => sqI_any (some ⟨b, off, none⟩) n c s W hs hp)
  have HF := Lib.hid (IsW.self hf' hx')
  have HL := Lib.hid hn'
  have HP := Lib.hid hp
  have HC := Lib.hid hc
  have HB0 := Lib.hid hb0
  have HB1 := Lib.hid hb1
  have HO1 := Lib.hid ho1
  have x0 : W1.cell? ⟨w.heap.size, 0, none⟩ = some (.slice (some ⟨b, off, none⟩) n c) := (hb1.cell (p := ⟨w.heap.size, 0, none⟩) hxw).trans bx0
  have x1 : W1.cell? ⟨w.heap.size, 1, none⟩ = some (.float .f32 s) := (hb1.cell (p := ⟨w.heap.size, 1, none⟩) hxw).trans bx1
  have hxw1 : w.heap.size < W1.heap.size := by have := hb1.size; omega
  clear h hc hn' hf' hx' hcur hb0 hb1 ho1 hbs hW0
  have hsf : ∀ (a : Addr) (x : Nat) (w : World), (store a (.float .f32 x)).run Try.prog w = stored Try.prog w a (.float .f32 x) .plain := fun a x w => run_store _ w a _ _ rfl
  go_enter Try.func80, Try.ntmps80
  go_wp2
  go_loopw [13] (WeR W0 W0.heap.size (.slice (some ⟨W0.heap.size, 0, none⟩) n n) fs s) (fun i _ => n - (intOf i).toNat)
  case atStart => exact ⟨0, _, Nat.zero_le _, rfl, by rw [weK_zero, HL.out]; exact isW_zero n, HO1.out, HB1.out⟩
  case round =>
    clear HO1 HB1
    obtain ⟨k, cur, hk, rfl, hw, ho, hbl⟩ := hrel
    rw [HL.out] at hk
    by_cases hlt : k < n
    · have c0 : wr.cell? ⟨b, off + k, none⟩ = some (.float .f32 (fs.getD k 0)) := ((HB0.out.trans (hbl.mono HB0.out.size)).cell (p := ⟨b, off + k, none⟩) hb).trans (HC.out k hlt)
      have p0 : wr.cell? ⟨w.heap.size, 0, none⟩ = some (.slice (some ⟨b, off, none⟩) n c) := (hbl.cell (p := ⟨w.heap.size, 0, none⟩) hxw).trans bx0
      have p1 : wr.cell? ⟨w.heap.size, 1, none⟩ = some (.float .f32 s) := (hbl.cell (p := ⟨w.heap.size, 1, none⟩) hxw).trans bx1
      have kf := HF.out.at k
      have ksq := sq_is HP.out
      have HS := Lib.hid (weK_set fs s k (by rw [HL.out]; omega))
      have HD := Lib.hid (show wfA fs s k = ar .mul .f32 (sqF2 s) (fs.getD k 0) from rfl)
      have HW := Lib.hid hw
      have HO := Lib.hid ho
      have HB := Lib.hid hbl
      generalize fs.getD k 0 = y0 at *
      clear hw ho hbl
      go_wp2_with (first | (go_at_call 96; refine (HSq.out _).mono ?_; rintro e w2 ⟨rfl, n2, hw2⟩; have hb2 : Below wr.heap.size wr w2 := (by rw [hw2]; exact below_drawn ((Below.refl _ _).alloc (Nat.le_refl _) _) _); have ho2 := HO.out.below hb2; obtain ⟨_, hg1, _, hcc, hfz⟩ := ho2.nums (by omega); have d0 := hcc k hlt; have z0 := hfz k hlt; rw [Nat.zero_add] at d0 z0; have HO2 := Lib.hid ho2; have HB2 := Lib.hid (HB.out.trans (hb2.mono HB.out.size)); clear hw2 hb2 ho2 hcc hfz c0 p0 p1) | (refine up_ar2 (op := .mul) rfl ksq kf ?_; intro r1 n1 hr1))
      go_roundw
      case rel =>
        refine ⟨k + 1, cur.set k r1, by rw [HL.out]; omega, by go_num, ?_, ?_, ?_⟩
        · rw [← HS.out]; exact HW.out.set k (by rw [HD.out]; exact hr1)
        · have := (HO2.out.drewN n1).putF k hlt r1
          rw [Nat.zero_add] at this; exact this
        · exact (below_drawn HB2.out _).setCell (Nat.le_refl _) _
      case measure => simp [intOf]; omega
    · obtain rfl : k = n := by omega
      have hF : weK fs s k = weF fs s := by rw [← weK_all, HL.out]
      rw [hF] at hw
      have HW := Lib.hid hw
      have HO := Lib.hid ho
      have HB := Lib.hid hbl
      clear hw ho hbl hF
      go_wp2
      go_ret
      exact ⟨_, cur, rfl, HW.out, HO.out.less HB0.out.size, HB0.out.trans (HB.out.mono HB0.out.size)⟩
theorem tw_setF (w : World) (b o : Nat) (x : Value) : Tw b (b + 1) w (w.setCell ⟨b, o, none⟩ x) := by
  have h := (Below.refl b w).setCell (p := ⟨b, o, none⟩) (Nat.le_refl _) x
  exact ⟨h.os, h.tape, h.output, h.size, fun k hk hh => Below.heap_setCell w ⟨b, o, none⟩ x k (by show k ≠ b; omega)⟩
theorem tw_drewN {lo hi : Nat} {a w : World} (h : Tw lo hi a w) (n : Nat) : Tw lo hi a (w.drewN n) := ⟨h.os, h.tape, h.output, h.size, h.block⟩
theorem exL_set (c : List Nat) (i x : Nat) (h : i < c.length) : (exL c).set (i + 1) x = exL (c.set i x) := by
  unfold exL
  rw [List.set_cons_succ, List.set_append, if_pos h]
theorem isW_ex {ys cs : List Nat} (h : IsW ys cs) : IsW (exL ys) (exL cs) := by
  refine ⟨by rw [exL_len, exL_len, h.1], fun i => ?_⟩
  rw [exL_getD, exL_getD]
  exact cons_isW h i
/-- The line of what lies between two ends. -/
def inL (ys : List Nat) (n : Nat) : List Nat := (List.range n).map fun i => ys.getD (i + 1) 0
theorem isW_in {ys c : List Nat} {n : Nat} (h : IsW ys (exL c)) (hn : c.length = n) : IsW (inL ys n) c := by
  refine ⟨by simp [inL, hn], fun i => ?_⟩
  by_cases hi : i < n
  · unfold inL; rw [range_getD _ hi]
    have := h.at (i + 1)
    rw [exL_getD] at this
    exact this
  · rw [getD_ge (by simp [inL]; omega), getD_ge (by omega)]; exact is_0
theorem own_in {w : World} {lo g n : Nat} {ys : List Nat} (h : Own w lo (.slice (some ⟨g, 0, none⟩) (n + 2) (n + 2)) (fl ys)) (hm : n ≤ 63) : Own w lo (.slice (some ⟨g, 1, none⟩) n n) (fl (inL ys n)) := by
  obtain ⟨_, h1, h2, hc, hf⟩ := h.nums (by omega)
  have hl : (fl (inL ys n)).length = n := by rw [fl_len]; simp [inL]
  refine ⟨_, n, by rw [hl], by rw [hl]; exact Nat.le_refl _, by unfold maxLen; omega, fun _ => ⟨g, 1, rfl, h1, h2, fun i x hx => ?_, fun i hi => ?_⟩⟩
  · have hi : i < n := by have := (List.getElem?_eq_some_iff.1 hx).1; omega
    have hx2 := fl_getD (inL ys n) i (by simp [inL]; omega)
    rw [hx2] at hx
    cases hx
    have := hc (i + 1) (by omega)
    rw [show (1 : Nat) + i = 0 + (i + 1) by omega, this]
    unfold inL
    rw [range_getD _ hi]
  · have := hf (i + 1) (by omega)
    rw [show (1 : Nat) + i = 0 + (i + 1) by omega]; exact this
def SmI (w2 : World) (lo g n : Nat) (c fs : List Nat) (s : Nat) (iv : Value) (wr : World) : Prop := ∃ (k : Nat) (ya : List Nat), k ≤ n ∧ iv = .int .i64 k ∧ IsW ya (exL (smK c fs s k)) ∧ Own wr lo (.slice (some ⟨g, 0, none⟩) (n + 2) (n + 2)) (fl ya) ∧ Tw g (g + 1) w2 wr
set_option maxRecDepth 100000 in
set_option maxHeartbeats 8000000 in
theorem smI_any (A A' : Option Addr) (n c c' s : Nat) (us cu fs : List Nat) (w : World) (h : Rd w w.heap.size (.slice A n c) (fl fs)) (h' : Rd w w.heap.size (.slice A' n c') (fl us)) (hn : us.length = n) (hn' : fs.length = n) (hl : liB n = true)
    (hu : IsW us cu) (hf' : finA fs = true) (hx' : ∀ x ∈ fs, x < 2 ^ 32) (hs : s < 2 ^ 32) (hp : psB s = true) :
    Calls Try.prog 76 #[.agg #[.slice A n c, .float .f32 s], .slice A' n c'] w (RetW (smF cu fs s) w) := by
  obtain ⟨h1, h63⟩ := liB_bd hl
  obtain ⟨W0, hW0⟩ : ∃ W0, w.alloc (boxO (.slice A n c) s) = W0 := ⟨_, rfl⟩
  have hW0' : w.alloc (.cells #[.slice A n c, .float .f32 s] 75) = W0 := hW0
  have hb0 : Below w.heap.size w W0 := by rw [← hW0]; exact (Below.refl _ _).alloc (Nat.le_refl _) _
  have hbs : W0.heap.size = w.heap.size + 1 := by rw [← hW0]; exact box_size _ _
  obtain ⟨bx0, bx1⟩ := box_cells w (.slice A n c) s
  rw [hW0] at bx0 bx1
  have HEn := Lib.hid (endI_any A' n c' us W0 (h'.step hb0) hn h1 h63)
  have HWe := Lib.hid (fun W (hW : Rd W W.heap.size (.slice A n c) (fl fs)) => weI_any A n c s fs W hW hn' h1 h63 hf' hx' hs hp)
  have HR := Lib.hid h
  have HU := Lib.hid hu
  have HL := Lib.hid hn'
  have HLU := Lib.hid hn
  have HCU := Lib.hid (show cu.length = n by rw [← hu.len]; exact hn)
  have HB0 := Lib.hid hb0
  have HX := Lib.hid (And.intro bx0 bx1)
  have HBS := Lib.hid hbs
  clear h h' hn hn' hl hu hf' hx' hb0 bx0 bx1 hbs hW0
  have hsf : ∀ (a : Addr) (x : Nat) (w : World), (store a (.float .f32 x)).run Try.prog w = stored Try.prog w a (.float .f32 x) .plain := fun a x w => run_store _ w a _ _ rfl
  go_enter Try.func76, Try.ntmps76
  go_wp2_with (first | (go_at_call 67; (try rw [hW0']); refine HEn.out.mono ?_; rintro e w1 ⟨g, rfl, hg, ho, hb1⟩; rw [HLU.out] at ho; rw [HLU.out]; have xc0 : w1.cell? ⟨w.heap.size, 0, none⟩ = some (.slice A n c) := (hb1.cell (p := ⟨w.heap.size, 0, none⟩) (by rw [HBS.out]; exact Nat.lt_succ_self _)).trans HX.out.1; have xc1 : w1.cell? ⟨w.heap.size, 1, none⟩ = some (.float .f32 s) := (hb1.cell (p := ⟨w.heap.size, 1, none⟩) (by rw [HBS.out]; exact Nat.lt_succ_self _)).trans HX.out.2; have HO1 := Lib.hid ho; have HB1 := Lib.hid hb1; have HR1 := Lib.hid (HR.out.step (HB0.out.trans (hb1.mono HB0.out.size))); clear ho hb1) | (go_at_call 80; refine (HWe.out _ HR1.out).mono ?_; rintro e w2 ⟨v', ys, rfl, hw2, ho2, hb2⟩; have hyl : ys.length = n := (by rw [hw2.len, weF_len, HL.out]); obtain ⟨g2, go, d, hv'⟩ := ho2.openF (by omega); rw [hyl] at hv'; subst hv'; have HW2 := Lib.hid hw2; have HO2 := Lib.hid ho2; have HB2 := Lib.hid hb2; have HYL := Lib.hid hyl; clear hw2 ho2 hb2 hyl))
  have hgw1 : g < w1.heap.size := (HO1.out.nums (by omega)).2.2.1
  have hlg : W0.heap.size ≤ g := (HO1.out.nums (by omega)).2.1
  have hg2 : w1.heap.size ≤ g2 := (HO2.out.nums (by omega)).2.1
  have hg3 : g2 < w2.heap.size := (HO2.out.nums (by omega)).2.2.1
  have HC2 := Lib.hid (HO2.out.nums (by omega)).2.2.2.1
  go_loopw [19] (SmI w2 W0.heap.size g n cu fs s) (fun i _ => n - (intOf i).toNat)
  case atStart => exact ⟨0, exL us, Nat.zero_le _, rfl, isW_ex HU.out, HO1.out.below HB2.out, Tw.refl _ _ _⟩
  case round =>
    obtain ⟨k, ya, hk, rfl, hw, ho, htw⟩ := hrel
    by_cases hlt : k < n
    · obtain ⟨hyal, hga, hgb, hcc, hfz⟩ := ho.nums (by omega)
      have cx : wr.cell? ⟨g2, go + k, none⟩ = some (.float .f32 (ys.getD k 0)) := (htw.cell hg3 (.inr (by omega))).trans (HC2.out k hlt)
      have cb := hcc k (by omega)
      have ca := hcc (k + 2) (by omega)
      have d0 := hcc (k + 1) (by omega)
      have z0 := hfz (k + 1) (by omega)
      rw [Nat.zero_add] at cb ca d0 z0
      rw [show k + 1 = 1 + k by omega] at d0 z0
      have kx := HW2.out.at k
      rw [show (weF fs s).getD k 0 = wfA fs s k by unfold weF; exact range_getD _ (by rw [HL.out]; exact hlt)] at kx
      have kb := hw.at k
      have ka := hw.at (k + 2)
      rw [exL_getD] at kb ka
      have HD := Lib.hid (show exL (smK cu fs s (k + 1)) = (exL (smK cu fs s k)).set (k + 1) (ar .quo .f32 (ar .add .f32 (ar .add .f32 (wfA fs s k) ((0 :: smK cu fs s k).getD k 0)) ((0 :: smK cu fs s k).getD (k + 2) 0)) 1073741824) from (exL_set _ _ _ (by rw [smK_len, HCU.out]; exact hlt)).symm)
      have HW := Lib.hid hw
      have HO := Lib.hid ho
      have HT := Lib.hid htw
      have hk2 : k + 2 < n + 2 := by omega
      have hk1 : k < n + 2 := by omega
      have k2 : Is .f32 1073741824 1073741824 := is_lit (by decide)
      generalize ys.getD k 0 = x0 at *
      generalize ya.getD k 0 = xb at *
      generalize ya.getD (k + 2) 0 = xa at *
      clear hw ho htw hyal hcc hfz
      go_wp2_with fail
      refine Sf.wp_soft [false, false, false, false, false, false, false, false, false, false, false] [true, true, true, true, true, true, true, true, true, true, true] (fun i =>  1) (fun _ => undef) (by kernel_rfl) (by kernel_rfl) (by kernel_rfl) ?_
      simp only [Sf.tl]
      refine Sf.lx_one rfl rfl (fun K hK => Sf.dft_quiet rfl ?_)
      go_big_quiet_op
      refine hK _ ?_
      clear hK K
      refine Sf.lx_one rfl rfl (fun K hK => Sf.dft_quiet rfl ?_)
      go_big_quiet_op
      refine hK _ ?_
      clear hK K
      refine Sf.lx_one rfl rfl (fun K hK => Sf.dft_quiet rfl ?_)
      go_big_quiet_op
      refine hK _ ?_
      clear hK K
      refine Sf.lx_one rfl rfl (fun K hK => Sf.dft_quiet rfl ?_)
      go_big_quiet_op
      refine hK _ ?_
      clear hK K
      refine Sf.lx_one rfl rfl (fun K hK => Sf.dft_quiet rfl ?_)
      go_big_quiet_op
      refine hK _ ?_
      clear hK K
      refine Sf.lx_one rfl rfl (fun K hK => Sf.dft_quiet rfl ?_)
      go_big_quiet_op
      refine hK _ ?_
      clear hK K
      refine Sf.lx_one rfl rfl (fun K hK => Sf.dft_quiet rfl ?_)
      go_big_quiet_op
      refine hK _ ?_
      clear hK K
      refine Sf.lx_one rfl rfl (fun K hK => Sf.dft_quiet rfl ?_)
      go_big_quiet_op
      refine hK _ ?_
      clear hK K
      refine Sf.lx_one rfl rfl (fun K hK => Sf.dft_quiet rfl ?_)
      go_big_quiet_op
      refine hK _ ?_
      clear hK K
      refine Sf.lx_one rfl rfl (fun K hK => Sf.dft_quiet rfl ?_)
      go_big_quiet_op
      refine hK _ ?_
      clear hK K
      refine Sf.lx_one rfl rfl (fun K hK => Sf.dft_quiet rfl ?_)
      go_big_quiet_op
      refine hK _ ?_
      clear hK K
      refine Sf.lx_nil ?_
      rintro _ ⟨nq, rfl⟩
      go_wp2_with (first | (refine up_ar2 (op := .add) rfl kx kb ?_; intro r1 n1 hr1) | (refine up_ar2 (op := .add) rfl hr1 ka ?_; intro r2 n2 hr2) | (refine up_ar2 (op := .quo) rfl hr2 k2 ?_; intro r3 n3 hr3))
      go_roundw
      case rel =>
        refine ⟨k + 1, ya.set (k + 1) r3, by omega, by go_num, ?_, ?_, ?_⟩
        · rw [HD.out]; exact HW.out.set (k + 1) hr3
        · have := (HO.out.drewN (nq + n1 + n2 + n3)).putF (k + 1) (by omega) r3
          rw [show (0 : Nat) + (k + 1) = 1 + k by omega] at this
          exact this
        · exact (tw_drewN HT.out _).trans (tw_setF _ _ _ _)
      case measure => simp [intOf]; omega
    · obtain rfl : k = n := by omega
      have hF : smK cu fs s k = smF cu fs s := by unfold smF; rw [HCU.out]
      rw [hF] at hw
      have HW := Lib.hid hw
      have HO := Lib.hid ho
      have HT := Lib.hid htw
      clear hw ho htw hF
      go_wp2
      go_ret
      refine ⟨_, inL ya k, rfl, isW_in HW.out (by rw [smF_len, HCU.out]), (own_in HO.out h63).less HB0.out.size, ?_⟩
      have q1 : Below w.heap.size w w2 := (HB0.out.trans (HB1.out.mono HB0.out.size)).trans (HB2.out.mono (by have := HB0.out.size; have := HB1.out.size; omega))
      exact q1.trans (HT.out.below (by have := HB0.out.size; omega) q1.size)
end Go.Proofs.Ytfcegkighjnmeaa
