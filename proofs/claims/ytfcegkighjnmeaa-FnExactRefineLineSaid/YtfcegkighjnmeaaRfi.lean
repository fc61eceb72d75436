/-
  Contracts: RefineLine, of both sides.
-/
import Derived.Test.YtfcegkighjnmeaaRfl
import Derived.Test.YtfcegkighjnmeaaSmi
namespace Go.Proofs.Ytfcegkighjnmeaa
open Go.RowKit Fl
set_option linter.unusedVariables false

theorem rf_guard {xs : List Nat} (hl : lnG xs = true) : rfG xs = decide (xs.length ≤ 31) := by unfold rfG; rw [hl, Bool.true_and]
theorem inL_ex (xs : List Nat) : inL (exL xs) xs.length = xs := by
  conv => rhs; rw [← list_range xs]
  refine map_congr' fun i hi => ?_
  rw [exL_getD]; rfl
def evA (xs : List Nat) (j : Nat) : Nat := h2F ((0 :: xs).getD j 0) ((0 :: xs).getD (j + 1) 0)
def evK (xs : List Nat) (k : Nat) : List Nat := (List.range (xs.length + 1)).map fun j => if j < k then evA xs j else 0
theorem evK_zero (xs : List Nat) : evK xs 0 = List.replicate (xs.length + 1) 0 := by
  apply List.ext_getElem?
  intro i
  by_cases hi : i < xs.length + 1
  · simp [evK, hi]
  · simp [evK, hi]
theorem evK_len (xs : List Nat) (k : Nat) : (evK xs k).length = xs.length + 1 := by simp [evK]
theorem evK_set (xs : List Nat) (k : Nat) (h : k < xs.length + 1) : (evK xs k).set k (evA xs k) = evK xs (k + 1) := by
  refine rsetN h (by rw [if_pos (by omega)]) fun i hi hne => ?_
  by_cases h0 : i < k
  · rw [if_pos h0, if_pos (by omega)]
  · rw [if_neg h0, if_neg (by omega)]
theorem rf_join {xs ye : List Nat} (h : IsW ye (evK xs (xs.length + 1))) (hf : finA xs = true) (hx : ∀ x ∈ xs, x < 2 ^ 32) : IsW (joN ye xs) (rfF xs) := by
  have hl : ye.length = xs.length + 1 := by rw [h.len, evK_len]
  refine ⟨by rw [joN_len, rfF_len, hl]; omega, fun i => ?_⟩
  by_cases hi : i < 2 * xs.length + 1
  · rw [joN_getD ye xs i (by omega) (by omega) (by omega)]
    unfold rfF rfP
    rw [range_getD _ hi]
    unfold rfA
    by_cases hp : i % 2 = 0
    · rw [if_pos hp, if_neg (by omega)]
      have := h.at (i / 2)
      rw [show (evK xs (xs.length + 1)).getD (i / 2) 0 = evA xs (i / 2) by unfold evK; rw [range_getD _ (by omega), if_pos (by omega)]] at this
      exact this
    · rw [if_neg hp, if_pos (by omega)]
      exact is_getD hf hx _
  · rw [getD_ge (by rw [joN_len]; omega), getD_ge (by rw [rfF_len]; omega)]; exact is_0
set_option maxRecDepth 100000 in
set_option maxHeartbeats 4000000 in
theorem rfoS_any (v : Value) (xs : List Nat) (w : World) (h : Rd w w.heap.size v (fl xs)) (hm : xs.length ≤ 1048576) (hx : ∀ x ∈ xs, x < 2 ^ 32) :
    Calls Try.prog 37 #[v] w (RetLF (rfV xs) (rfB xs) w) := by
  have HT := Lib.hid (islS_any v xs w _ h hm hx)
  obtain ⟨A, c, hv, _, _, _⟩ := id h
  rw [fl_len] at hv
  subst hv
  cases hg : lnG xs with
  | false =>
    have hb : rfB xs = false := by unfold rfB rfG; rw [hg]; rfl
    rw [rfV_no hb, hb]
    rw [hg] at HT
    clear hg hb h
    go_enter Try.func37, Try.ntmps37
    go_wp2_with (go_at_call 61; refine HT.out.mono ?_; rintro e w' ⟨rfl, n1, rfl⟩)
    go_ret2
    exact retLF_none (below_drawn (Below.refl _ _) _)
  | true =>
    rw [hg] at HT
    obtain ⟨g1, g2⟩ := lnG_len hg
    obtain ⟨n, hn⟩ : ∃ n, xs.length = n := ⟨_, rfl⟩
    obtain ⟨b1, b63⟩ := liB_bd g1
    have hG := rf_guard hg
    rw [hn] at h HT hm b1 b63 hG ⊢
    by_cases h31 : n ≤ 31
    · rw [decide_eq_true h31] at hG
      have HW := Lib.hid (fun q => rfS_any A n c xs (w.drewN q) (h.drewN q) hn b1 h31 g2 hx)
      have HL := Lib.hid (show (rfF xs).length ≤ 1048576 by rw [rfF_len]; omega)
      have HB := Lib.hid (show rfB xs = finA (rfF xs) by unfold rfB; rw [hG, Bool.true_and])
      clear hg g1 g2 h hx hG hn
      cases hf : finA (rfF xs) with
      | false =>
        rw [hf] at HB
        have HF := Lib.hid hf
        clear hf
        go_enter Try.func37, Try.ntmps37
        go_wp2_with (first | (go_at_call 61; refine HT.out.mono ?_; rintro e w' ⟨rfl, n1, rfl⟩) | (go_at_call 66; refine (HW.out _).mono ?_; rintro e w2 ⟨u, ys, rfl, hw, ho, hb2⟩; have HI := Lib.hid hw; have HO := Lib.hid ho; have HD := Lib.hid hb2; clear hw ho hb2) | (go_at_call 63; refine (finS_any _ ys _ _ HO.out.rd (by rw [HI.out.len]; exact HL.out) HI.out.lt).mono ?_; rintro e w3 ⟨rfl, n3, rfl⟩; rw [HI.out.fin, HF.out]))
        go_ret2
        rw [rfV_no HB.out, HB.out]
        exact retLF_none (below_drawn ((below_drawn (Below.refl w.heap.size w) _).trans HD.out) _)
      | true =>
        rw [hf] at HB
        have HF := Lib.hid hf
        clear hf
        go_enter Try.func37, Try.ntmps37
        go_wp2_with (first | (go_at_call 61; refine HT.out.mono ?_; rintro e w' ⟨rfl, n1, rfl⟩) | (go_at_call 66; refine (HW.out _).mono ?_; rintro e w2 ⟨u, ys, rfl, hw, ho, hb2⟩; have HI := Lib.hid hw; have HO := Lib.hid ho; have HD := Lib.hid hb2; clear hw ho hb2) | (go_at_call 63; refine (finS_any _ ys _ _ HO.out.rd (by rw [HI.out.len]; exact HL.out) HI.out.lt).mono ?_; rintro e w3 ⟨rfl, n3, rfl⟩; rw [HI.out.fin, HF.out]))
        go_ret2
        rw [rfV_yes HB.out, HB.out, ← HI.out.eq HF.out]
        exact ⟨_, rfl, HO.out.drewN _, below_drawn ((below_drawn (Below.refl w.heap.size w) _).trans HD.out) _⟩
    · rw [decide_eq_false h31] at hG
      have hb : rfB xs = false := by unfold rfB; rw [hG]; rfl
      rw [rfV_no hb, hb]
      have h31' : 31 < n := by omega
      clear hg hb h hG hn h31
      go_enter Try.func37, Try.ntmps37
      go_wp2_with (go_at_call 61; refine HT.out.mono ?_; rintro e w' ⟨rfl, n1, rfl⟩)
      go_ret2
      exact retLF_none (below_drawn (Below.refl _ _) _)
def EvR (w1 : World) (lo : Nat) (v : Value) (xs : List Nat) (iv : Value) (wr : World) : Prop := ∃ (k : Nat) (ye : List Nat), k ≤ xs.length + 1 ∧ iv = .int .i64 k ∧ IsW ye (evK xs k) ∧ Own wr lo v (fl ye) ∧ Below lo w1 wr
set_option maxRecDepth 100000 in
set_option maxHeartbeats 8000000 in
theorem rfoI_any (v : Value) (xs : List Nat) (w : World) (h : Rd w w.heap.size v (fl xs)) (hm : xs.length ≤ 1048576) (hx : ∀ x ∈ xs, x < 2 ^ 32) :
    Calls Try.prog 38 #[v] w (RetLF (rfV xs) (rfB xs) w) := by
  obtain ⟨i0, hi, hz0, hz1, hz2⟩ := info_parts infoF
  have HT := Lib.hid (islI_any v xs w _ h hm hx)
  obtain ⟨A, c, hv, _, _, _⟩ := id h
  rw [fl_len] at hv
  subst hv
  cases hg : lnG xs with
  | false =>
    have hb : rfB xs = false := by unfold rfB rfG; rw [hg]; rfl
    rw [rfV_no hb, hb]
    rw [hg] at HT
    clear hg hb h
    go_enter Try.func38, Try.ntmps38
    go_wp2_with (go_at_call 64; refine HT.out.mono ?_; rintro e w' ⟨rfl, n1, rfl⟩)
    go_ret2
    exact retLF_none (below_drawn (Below.refl _ _) _)
  | true =>
    rw [hg] at HT
    obtain ⟨g1, g2⟩ := lnG_len hg
    obtain ⟨n, hn⟩ : ∃ n, xs.length = n := ⟨_, rfl⟩
    obtain ⟨b1, b63⟩ := liB_bd g1
    have hG := rf_guard hg
    have h6331 : n ≤ 31 ∨ n = 63 := by have := liB_out g1; omega
    rw [hn] at h HT hm b1 b63 hG ⊢
    rcases h6331 with h31 | h63
    · rw [decide_eq_true h31] at hG
      have hne : ((n : Int) == 63) = false := by rw [beq_eq_false_iff_ne]; omega
      have HEn := Lib.hid (fun q => endI_any A n c xs (w.drewN q) (h.drewN q) hn b1 b63)
      have HB := Lib.hid (show rfB xs = finA (rfF xs) by unfold rfB; rw [hG, Bool.true_and])
      have HU := Lib.hid (cons_is g2 hx)
      have HF2 := Lib.hid (And.intro g2 hx)
      have HL := Lib.hid hn
      have hmk := fun W => run_mkL (P := Try.prog) 35 47 i0 _ Try.underlying35 hi hz0 (n + 1) (by rw [hz2]; omega) (by omega) ((n : Int) + 1) (by omega) W
      rw [hz1, Nat.mul_one] at hmk
      have hcur : (madeCells (Value.cells (.float .f32 0)) (n + 1)) = (fl (List.replicate (n + 1) 0)).toArray := by
        show (madeCells #[Value.float .f32 0] (n + 1)) = _
        have := toList_madeCells_one (.float .f32 0) (n + 1)
        rw [← Array.toArray_toList (xs := madeCells #[Value.float .f32 0] (n + 1)), this]; simp [fl]
      rw [hcur] at hmk
      clear hg g1 g2 h hx hG hn hcur
      have hsf : ∀ (a : Addr) (x : Nat) (w : World), (store a (.float .f32 x)).run Try.prog w = stored Try.prog w a (.float .f32 x) .plain := fun a x w => run_store _ w a _ _ rfl
      go_enter Try.func38, Try.ntmps38
      go_wp2_with (first | (go_at_call 64; refine HT.out.mono ?_; rintro e w' ⟨rfl, n1, rfl⟩) | (go_at_call 67; refine (HEn.out _).mono ?_; rintro e w1 ⟨g, rfl, hg, ho, hb1⟩; rw [HL.out] at ho; rw [HL.out]; have HO1 := Lib.hid ho; have HB1 := Lib.hid ((below_drawn (Below.refl w.heap.size w) n1).trans hb1); clear ho hb1))
      obtain ⟨W1, hW1⟩ : ∃ W1, w1.alloc (.cells (fl (List.replicate (n + 1) 0)).toArray 47) = W1 := ⟨_, rfl⟩
      have hbm : Below w1.heap.size w1 W1 := by rw [← hW1]; exact (Below.refl _ _).alloc (Nat.le_refl _) _
      have hom : Own W1 w1.heap.size (.slice (some ⟨w1.heap.size, 0, none⟩) (n + 1) (n + 1)) (fl (List.replicate (n + 1) 0)) := by
        have := own_block (w := W1) (g := w1.heap.size) (lo := w1.heap.size) (L := List.replicate (n + 1) 0) (by rw [← hW1]; exact heap_alloc_new _ _) (Nat.le_refl _) (by simp; omega)
        simpa using this
      have hgw1 : g < w1.heap.size := (HO1.out.nums (by omega)).2.2.1
      have HOM := Lib.hid hom
      have HBM := Lib.hid hbm
      have HEC := Lib.hid (fun j hj => ex_cells HO1.out j hj)
      have HOD := Lib.hid (show Own w1 w.heap.size (.slice (some ⟨g, 1, none⟩) n n) (fl xs) by have := own_in HO1.out b63; rw [← HL.out, inL_ex, HL.out] at this; exact this)
      rw [hW1]
      clear hW1 hom hbm
      go_loopw [27] (EvR w1 w1.heap.size (.slice (some ⟨w1.heap.size, 0, none⟩) (n + 1) (n + 1)) xs) (fun i _ => n + 1 - (intOf i).toNat)
      case atStart => exact ⟨0, _, Nat.zero_le _, rfl, by rw [evK_zero, HL.out]; exact isW_zero (n + 1), HOM.out, HBM.out⟩
      case round =>
        clear HOM HBM
        obtain ⟨k, ye, hk, rfl, hw, ho, hbl⟩ := hrel
        rw [HL.out] at hk
        by_cases hlt : k < n + 1
        · obtain ⟨hyl, _, hgb, hcc, hfz⟩ := ho.nums (by omega)
          have c0 : wr.cell? ⟨g, k, none⟩ = some (.float .f32 ((0 :: xs).getD k 0)) := (hbl.cell (p := ⟨g, k, none⟩) hgw1).trans (HEC.out k (by omega))
          have c1 : wr.cell? ⟨g, k + 1, none⟩ = some (.float .f32 ((0 :: xs).getD (k + 1) 0)) := (hbl.cell (p := ⟨g, k + 1, none⟩) hgw1).trans (HEC.out (k + 1) (by omega))
          have d0 := hcc k hlt
          have z0 := hfz k hlt
          rw [Nat.zero_add] at d0 z0
          have kb := HU.out k
          have ka := HU.out (k + 1)
          have HS := Lib.hid (evK_set xs k (by rw [HL.out]; exact hlt))
          have HD := Lib.hid (show evA xs k = ar .quo .f32 (ar .add .f32 ((0 :: xs).getD k 0) ((0 :: xs).getD (k + 1) 0)) 1073741824 from rfl)
          have HW := Lib.hid hw
          have HO := Lib.hid ho
          have HBl := Lib.hid hbl
          have hk1 : k < n + 2 := by omega
          have hk2 : k + 1 < n + 2 := by omega
          generalize (0 :: xs).getD k 0 = xb at *
          generalize (0 :: xs).getD (k + 1) 0 = xa at *
          generalize ye.getD k 0 = x0 at *
          clear hw ho hbl hyl hcc hfz
          go_wp2_with fail
          refine Sf.wp_soft [false, false, false, false, false, false, false, false, false, false, false, false, false, false, true] [true, true, true, true, true, true, true, true, true, true, true, true, true, true, false] (fun i => if i = 11 then 0 else if i = 12 then 0 else 1) (fun _ => undef) (by kernel_rfl) (by kernel_rfl) (by kernel_rfl) ?_
          simp only [Sf.tl]
          refine Sf.lx_one rfl rfl (fun K hK => Sf.dft_quiet rfl ?_)
          go_big_quiet_op
          refine hK _ ?_
          clear hK K
          refine Sf.lx_one rfl rfl (fun K hK => Sf.dft_quiet rfl ?_)
          go_big_quiet_op
          refine hK _ ?_
          clear hK K
          refine Sf.lx_one rfl rfl (fun K hK => Sf.dft_quiet rfl ?_)
          go_big_quiet_op
          refine hK _ ?_
          clear hK K
          refine Sf.lx_one rfl rfl (fun K hK => Sf.dft_quiet rfl ?_)
          go_big_quiet_op
          refine hK _ ?_
          clear hK K
          refine Sf.lx_one rfl rfl (fun K hK => Sf.dft_quiet rfl ?_)
          go_big_quiet_op
          refine hK _ ?_
          clear hK K
          refine Sf.lx_one rfl rfl (fun K hK => Sf.dft_quiet rfl ?_)
          go_big_quiet_op
          refine hK _ ?_
          clear hK K
          refine Sf.lx_one rfl rfl (fun K hK => Sf.dft_quiet rfl ?_)
          go_big_quiet_op
          refine hK _ ?_
          clear hK K
          refine Sf.lx_one rfl rfl (fun K hK => Sf.dft_quiet rfl ?_)
          go_big_quiet_op
          refine hK _ ?_
          clear hK K
          refine Sf.lx_one rfl rfl (fun K hK => Sf.dft_quiet rfl ?_)
          go_big_quiet_op
          refine hK _ ?_
          clear hK K
          refine Sf.lx_one rfl rfl (fun K hK => Sf.dft_quiet rfl ?_)
          go_big_quiet_op
          refine hK _ ?_
          clear hK K
          refine Sf.lx_one rfl rfl (fun K hK => Sf.dft_quiet rfl ?_)
          go_big_quiet_op
          refine hK _ ?_
          clear hK K
          refine Sf.lx_fl rfl rfl (fun K hK => Sf.sft_ar (k := .f32) rfl rfl rfl rfl (kb) (ka) (fun r41 hr41 => hK _ ?_))
          clear hK K
          simp only [Act.put, List.setIfInBounds_toArray, List.set_cons_zero, List.set_cons_succ]
          refine Sf.lx_fl rfl rfl (fun K hK => Sf.sft_ar (k := .f32) rfl rfl rfl rfl (hr41) (is_lit (by decide)) (fun r42 hr42 => hK _ ?_))
          clear hK K
          simp only [Act.put, List.setIfInBounds_toArray, List.set_cons_zero, List.set_cons_succ]
          refine Sf.lx_one rfl rfl (fun K hK => Sf.dft_quiet rfl ?_)
          go_big_quiet_op
          refine hK _ ?_
          clear hK K
          refine Sf.lx_over ?_
          refine Sf.lx_nil ?_
          rintro _ ⟨nq, rfl⟩
          go_wp2_with fail
          go_roundw
          case rel =>
            refine ⟨k + 1, ye.set k r42, by rw [HL.out]; omega, by go_num, ?_, ?_, ?_⟩
            · rw [← HS.out]; exact HW.out.set k (by rw [HD.out]; exact hr42)
            · have := (HO.out.drewN nq).putF k hlt r42
              rw [Nat.zero_add] at this; exact this
            · exact (below_drawn HBl.out _).setCell (Nat.le_refl _) _
          case measure => simp [intOf]; omega
        · obtain rfl : k = n + 1 := by omega
          have hyl : ye.length = n + 1 := by rw [hw.len, evK_len, HL.out]
          have hjo := fun (W : World) (h1 : Rd W W.heap.size (.slice (some ⟨w1.heap.size, 0, none⟩) (n + 1) (n + 1)) (fl ye)) (h2 : Rd W W.heap.size (.slice (some ⟨g, 1, none⟩) n n) (fl xs)) => joN_any _ _ ye xs W h1 h2 (by omega) (by omega) (by rw [HL.out, hyl]; omega) (by rw [HL.out, hyl]; omega)
          have HJ := Lib.hid (hjo wr ho.rd (HOD.out.rd.step hbl))
          have HI := Lib.hid (rf_join (by rw [HL.out]; exact hw) HF2.out.1 HF2.out.2)
          have HBl := Lib.hid hbl
          have HJL := Lib.hid (show (joN ye xs).length ≤ 1048576 by rw [joN_len, hyl, HL.out]; omega)
          have hbig : Below w.heap.size w wr := HB1.out.trans (hbl.mono HB1.out.size)
          have HBG := Lib.hid hbig
          clear hw ho hbl hyl hjo hbig
          generalize joN ye xs = J at *
          cases hf : finA (rfF xs) with
          | false =>
            rw [hf] at HB
            have HF := Lib.hid hf
            clear hf
            go_wp2_with (first | (go_at_call 69; refine HJ.out.mono ?_; rintro e w2 ⟨z, rfl, ho, hb2⟩; have HO := Lib.hid ho; have HB2 := Lib.hid (HBG.out.trans (hb2.mono HBG.out.size)); clear ho hb2) | (go_at_call 68; refine (iflI_any _ J _ _ HO.out.rd HJL.out HI.out.lt).mono ?_; rintro e w' ⟨rfl, nf, rfl⟩; rw [HI.out.fin, HF.out]))
            go_ret2
            rw [rfV_no HB.out, HB.out]
            exact retLF_none (below_drawn HB2.out _)
          | true =>
            rw [hf] at HB
            have HF := Lib.hid hf
            clear hf
            go_wp2_with (first | (go_at_call 69; refine HJ.out.mono ?_; rintro e w2 ⟨z, rfl, ho, hb2⟩; have HO := Lib.hid (show Own w2 w.heap.size z (fl J) from ho.less HBG.out.size); have HB2 := Lib.hid (HBG.out.trans (hb2.mono HBG.out.size)); clear ho hb2) | (go_at_call 68; refine (iflI_any _ J _ _ HO.out.rd HJL.out HI.out.lt).mono ?_; rintro e w' ⟨rfl, nf, rfl⟩; rw [HI.out.fin, HF.out]))
            go_ret2
            rw [rfV_yes HB.out, HB.out, ← HI.out.eq HF.out]
            exact ⟨_, rfl, HO.out.drewN _, below_drawn HB2.out _⟩
    · subst h63
      have hb : rfB xs = false := by unfold rfB; rw [hG]; rfl
      rw [rfV_no hb, hb]
      clear hg hb h hG hn
      go_enter Try.func38, Try.ntmps38
      go_wp2_with (go_at_call 64; refine HT.out.mono ?_; rintro e w' ⟨rfl, n1, rfl⟩)
      go_ret2
      exact retLF_none (below_drawn (Below.refl _ _) _)
end Go.Proofs.Ytfcegkighjnmeaa
