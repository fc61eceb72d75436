/-
  Contracts: CoarsenLine, of both sides.
-/
import Derived.Test.YtfcegkighjnmeaaCoa
import Derived.Test.YtfcegkighjnmeaaHalfF
namespace Go.Proofs.Ytfcegkighjnmeaa
open Go.RowKit Fl
set_option linter.unusedVariables false

set_option maxRecDepth 100000 in
set_option maxHeartbeats 4000000 in
theorem cooS_any (v : Value) (xs : List Nat) (w : World) (h : Rd w w.heap.size v (fl xs)) (hm : xs.length ≤ 1048576) (hx : ∀ x ∈ xs, x < 2 ^ 32) :
    Calls Try.prog 34 #[v] w (RetLF (coV xs) (coB xs) w) := by
  have HT := Lib.hid (islS_any v xs w _ h hm hx)
  obtain ⟨A, c, hv, _, _, _⟩ := id h
  rw [fl_len] at hv
  subst hv
  cases hg : lnG xs with
  | false =>
    have hb : coB xs = false := by unfold coB; rw [hg]; rfl
    rw [coV_no hb, hb]
    rw [hg] at HT
    clear hg hb h
    go_enter Try.func34, Try.ntmps34
    go_wp2_with (go_at_call 61; refine HT.out.mono ?_; rintro e w' ⟨rfl, n1, rfl⟩)
    go_ret2
    exact retLF_none (below_drawn (Below.refl _ _) _)
  | true =>
    rw [hg] at HT
    obtain ⟨g1, g2⟩ := lnG_len hg
    obtain ⟨n, hn⟩ : ∃ n, xs.length = n := ⟨_, rfl⟩
    obtain ⟨b1, b63⟩ := liB_bd g1
    have hG := co_guard hg
    have hod : n % 2 = 1 := by have := liB_out g1; omega
    rw [hn] at h HT hm b1 b63 hG ⊢
    by_cases h3 : 3 ≤ n
    · rw [decide_eq_true h3] at hG
      have HW := Lib.hid (fun q => coS_any A n c xs (w.drewN q) (h.drewN q) hn h3 b63 hod g2 hx)
      have HL := Lib.hid (show (coF xs).length ≤ 1048576 by rw [coF_len]; omega)
      have HF := Lib.hid (coF_fin g2)
      rw [coV_yes hG, hG]
      clear hg g1 g2 h hx hG hn
      go_enter Try.func34, Try.ntmps34
      go_wp2_with (first | (go_at_call 61; refine HT.out.mono ?_; rintro e w' ⟨rfl, n1, rfl⟩) | (go_at_call 62; refine (HW.out _).mono ?_; rintro e w2 ⟨u, ys, rfl, hw, ho, hb2⟩; have HI := Lib.hid hw; have HO := Lib.hid ho; have HD := Lib.hid hb2; clear hw ho hb2) | (go_at_call 63; refine (finS_any _ ys _ _ HO.out.rd (by rw [HI.out.len]; exact HL.out) HI.out.lt).mono ?_; rintro e w3 ⟨rfl, n3, rfl⟩; rw [HI.out.fin, HF.out]))
      go_ret2
      rw [← HI.out.eq HF.out]
      exact ⟨_, rfl, HO.out.drewN _, below_drawn ((below_drawn (Below.refl w.heap.size w) _).trans HD.out) _⟩
    · rw [decide_eq_false h3] at hG
      rw [coV_no hG, hG]
      have h3' : n < 3 := by omega
      clear hg h hG hn h3
      go_enter Try.func34, Try.ntmps34
      go_wp2_with (go_at_call 61; refine HT.out.mono ?_; rintro e w' ⟨rfl, n1, rfl⟩)
      go_ret2
      exact retLF_none (below_drawn (Below.refl _ _) _)
theorem evN_getD (xs : List Nat) (i : Nat) : (evN xs).getD i 0 = xs.getD (2 * i) 0 := by
  by_cases hi : i < (xs.length + 1) / 2
  · unfold evN; rw [range_getD _ hi]
  · rw [getD_ge (by rw [evN_len]; omega), getD_ge (by omega)]
theorem odN_getD (xs : List Nat) (i : Nat) : (odN xs).getD i 0 = xs.getD (2 * i + 1) 0 := by
  by_cases hi : i < xs.length / 2
  · unfold odN; rw [range_getD _ hi]
  · rw [getD_ge (by rw [odN_len]; omega), getD_ge (by omega)]
def coK (xs : List Nat) (k : Nat) : List Nat := (List.range (xs.length / 2)).map fun i => if i < k then coA xs i else (odN xs).getD i 0
theorem coK_zero (xs : List Nat) : coK xs 0 = odN xs := by
  have h := list_range (odN xs)
  rw [odN_len] at h
  exact (map_congr' fun i hi => by rw [if_neg (by omega)]).trans h
theorem coK_all (xs : List Nat) : coK xs (xs.length / 2) = coF xs := map_congr' fun i hi => by rw [if_pos hi]
theorem coK_set (xs : List Nat) (k : Nat) (h : k < xs.length / 2) : (coK xs k).set k (coA xs k) = coK xs (k + 1) := by
  refine rsetN h (by rw [if_pos (by omega)]) fun i hi hne => ?_
  by_cases h0 : i < k
  · rw [if_pos h0, if_pos (by omega)]
  · rw [if_neg h0, if_neg (by omega)]
theorem coK_at (xs : List Nat) (k : Nat) (h : k < xs.length / 2) : (coK xs k).getD k 0 = xs.getD (2 * k + 1) 0 := by
  unfold coK; rw [range_getD _ h, if_neg (by omega), odN_getD]
def CoR (w0 : World) (ge oe : Nat) (vo : Value) (xs : List Nat) (m : Nat) (iv : Value) (wr : World) : Prop :=
  ∃ (k : Nat) (ys : List Nat), k ≤ m ∧ iv = .int .i64 k ∧ IsW ys (coK xs k) ∧ Own wr w0.heap.size vo (fl ys) ∧ (∀ j, j < m + 1 → wr.cell? ⟨ge, oe + j, none⟩ = some (.float .f32 (xs.getD (2 * j) 0))) ∧ Below w0.heap.size w0 wr
set_option maxRecDepth 100000 in
set_option maxHeartbeats 8000000 in
theorem cooI_any (v : Value) (xs : List Nat) (w : World) (h : Rd w w.heap.size v (fl xs)) (hm : xs.length ≤ 1048576) (hx : ∀ x ∈ xs, x < 2 ^ 32) :
    Calls Try.prog 35 #[v] w (RetLF (coV xs) (coB xs) w) := by
  have HT := Lib.hid (islI_any v xs w _ h hm hx)
  have HH := Lib.hid (fun q h2 => spfI_any v xs (w.drewN q) (h.drewN q) hm h2)
  obtain ⟨A, c, hv, _, _, _⟩ := id h
  rw [fl_len] at hv
  subst hv
  cases hg : lnG xs with
  | false =>
    have hb : coB xs = false := by unfold coB; rw [hg]; rfl
    rw [coV_no hb, hb]
    rw [hg] at HT
    clear hg hb h
    go_enter Try.func35, Try.ntmps35
    go_wp2_with (go_at_call 64; refine HT.out.mono ?_; rintro e w' ⟨rfl, n1, rfl⟩)
    go_ret2
    exact retLF_none (below_drawn (Below.refl _ _) _)
  | true =>
    rw [hg] at HT
    obtain ⟨g1, g2⟩ := lnG_len hg
    obtain ⟨n, hn⟩ : ∃ n, xs.length = n := ⟨_, rfl⟩
    obtain ⟨b1, b63⟩ := liB_bd g1
    have hG := co_guard hg
    have hod : n % 2 = 1 := by have := liB_out g1; omega
    rw [hn] at h HT HH hm b1 b63 hG ⊢
    by_cases h3 : 3 ≤ n
    · rw [decide_eq_true h3] at hG
      have hne : ((n : Int) == 1) = false := by rw [beq_eq_false_iff_ne]; omega
      obtain ⟨m, hm2⟩ : ∃ m, n = 2 * m + 1 := ⟨n / 2, by omega⟩
      have hm1 : 1 ≤ m := by omega
      have hm63 : m ≤ 31 := by omega
      have HS2 := Lib.hid (show xs.length / 2 = m by omega)
      have HEL := Lib.hid (show (evN xs).length = m + 1 by rw [evN_len]; omega)
      have HOL := Lib.hid (show (odN xs).length = m by rw [odN_len]; omega)
      have HF := Lib.hid (coF_fin g2)
      have HU := Lib.hid (IsW.self g2 hx)
      have HO0 := Lib.hid (show IsW (odN xs) (coK xs 0) by rw [coK_zero]; exact ⟨rfl, fun i => by rw [odN_getD]; exact is_getD g2 hx _⟩)
      have HH2 := Lib.hid (fun q => HH.out q (by omega))
      rw [coV_yes hG, hG]
      clear hg g1 g2 h hx hG hn hm2 hod h3 HH
      have hsf : ∀ (a : Addr) (x : Nat) (w : World), (store a (.float .f32 x)).run Try.prog w = stored Try.prog w a (.float .f32 x) .plain := fun a x w => run_store _ w a _ _ rfl
      go_enter Try.func35, Try.ntmps35
      go_wp2_with (first | (go_at_call 64; refine HT.out.mono ?_; rintro e w' ⟨rfl, n1, rfl⟩) | (go_at_call 65; refine (HH2.out _).mono ?_; rintro e w1 ⟨ve, vo, rfl, hoe, hoo, hap, hb1⟩; obtain ⟨ge, oe, ce, hve⟩ := hoe.openF (by rw [HEL.out]; omega); obtain ⟨g, oo, co, hvo⟩ := hoo.openF (by rw [HOL.out]; omega); rw [HEL.out] at hve; rw [HOL.out] at hvo; subst hve hvo; have HAP := Lib.hid hap; have HOE := Lib.hid hoe; have HOO := Lib.hid (show Own w1 w.heap.size (.slice (some ⟨g, oo, none⟩) m co) (fl (odN xs)) from hoo); have HB1 := Lib.hid ((below_drawn (Below.refl w.heap.size w) n1).trans hb1); clear hoe hoo hap hb1))
      have hapt := HAP.out ⟨g, oo, none⟩ m co ⟨ge, oe, none⟩ (m + 1) ce rfl rfl
      simp only [] at hapt
      have HAQ := Lib.hid hapt
      clear hapt HAP
      go_loopw [23] (CoR w ge oe (.slice (some ⟨g, oo, none⟩) m co) xs m) (fun i _ => m - (intOf i).toNat)
      case atStart => exact ⟨0, odN xs, Nat.zero_le _, rfl, HO0.out, HOO.out, fun j hj => by have := (HOE.out.nums (by omega)).2.2.2.1 j hj; rw [evN_getD] at this; exact this, HB1.out⟩
      case round =>
        obtain ⟨k, ys, hk, rfl, hw, ho, hev, hbl⟩ := hrel
        clear HOO HOE HB1
        by_cases hlt : k < m
        · obtain ⟨hyl, hg1, hg2, hcc, hfz⟩ := ho.nums (by omega)
          have d0 := hcc k hlt
          have z0 := hfz k hlt
          have c0 := hev k (by omega)
          have c1 := hev (k + 1) (by omega)
          have hI : (k : Int) < m := by omega
          have hk1 : k < m + 1 := by omega
          have hk2 : k + 1 < m + 1 := by omega
          have k0 := hw.at k
          rw [coK_at xs k (by rw [HS2.out]; exact hlt)] at k0
          have ke0 := HU.out.at (2 * k)
          have ke1 := HU.out.at (2 * (k + 1))
          have HS := Lib.hid (coK_set xs k (by rw [HS2.out]; exact hlt))
          have HD := Lib.hid (show coA xs k = coN (xs.getD (2 * k) 0) (xs.getD (2 * k + 1) 0) (xs.getD (2 * (k + 1)) 0) from rfl)
          have HW := Lib.hid hw
          have HO := Lib.hid ho
          have HB := Lib.hid hbl
          have HE := Lib.hid hev
          have HG1 := Lib.hid hg1
          generalize xs.getD (2 * k) 0 = x0 at *
          generalize xs.getD (2 * (k + 1)) 0 = x2 at *
          generalize xs.getD (2 * k + 1) 0 = x1 at *
          generalize ys.getD k 0 = y0 at *
          clear hw ho hbl hev hyl hcc hfz
          go_wp2_with fail
          refine Sf.wp_soft [false, false, false, false, false, false, false, false, false, false, false, false, false, false, false, false, false, false, true] [true, true, true, true, true, true, true, true, true, true, true, true, true, true, true, true, true, true, false] (fun i => if i = 6 then 0 else if i = 8 then 0 else if i = 9 then 0 else if i = 15 then 0 else if i = 16 then 0 else 1) (fun _ => undef) (by kernel_rfl) (by kernel_rfl) (by kernel_rfl) ?_
          simp only [Sf.tl]
          refine Sf.lx_one rfl rfl (fun K hK => Sf.dft_quiet rfl ?_)
          go_big_quiet_op
          refine hK _ ?_
          clear hK K
          refine Sf.lx_one rfl rfl (fun K hK => Sf.dft_quiet rfl ?_)
          go_big_quiet_op
          refine hK _ ?_
          clear hK K
          refine Sf.lx_one rfl rfl (fun K hK => Sf.dft_quiet rfl ?_)
          go_big_quiet_op
          refine hK _ ?_
          clear hK K
          refine Sf.lx_one rfl rfl (fun K hK => Sf.dft_quiet rfl ?_)
          go_big_quiet_op
          refine hK _ ?_
          clear hK K
          refine Sf.lx_one rfl rfl (fun K hK => Sf.dft_quiet rfl ?_)
          go_big_quiet_op
          refine hK _ ?_
          clear hK K
          refine Sf.lx_one rfl rfl (fun K hK => Sf.dft_quiet rfl ?_)
          go_big_quiet_op
          refine hK _ ?_
          clear hK K
          refine Sf.lx_fl rfl rfl (fun K hK => Sf.sft_ar (k := .f32) rfl rfl rfl rfl (is_lit (by decide)) (ke0) (fun r34 hr34 => hK _ ?_))
          clear hK K
          simp only [Act.put, List.setIfInBounds_toArray, List.set_cons_zero, List.set_cons_succ]
          refine Sf.lx_one rfl rfl (fun K hK => Sf.dft_quiet rfl ?_)
          go_big_quiet_op
          refine hK _ ?_
          clear hK K
          refine Sf.lx_fl rfl rfl (fun K hK => Sf.sft_ar (k := .f32) rfl rfl rfl rfl (is_lit (by decide)) (k0) (fun r36 hr36 => hK _ ?_))
          clear hK K
          simp only [Act.put, List.setIfInBounds_toArray, List.set_cons_zero, List.set_cons_succ]
          refine Sf.lx_fl rfl rfl (fun K hK => Sf.sft_ar (k := .f32) rfl rfl rfl rfl (hr34) (hr36) (fun r37 hr37 => hK _ ?_))
          clear hK K
          simp only [Act.put, List.setIfInBounds_toArray, List.set_cons_zero, List.set_cons_succ]
          refine Sf.lx_one rfl rfl (fun K hK => Sf.dft_quiet rfl ?_)
          go_big_quiet_op
          refine hK _ ?_
          clear hK K
          refine Sf.lx_one rfl rfl (fun K hK => Sf.dft_quiet rfl ?_)
          go_big_quiet_op
          refine hK _ ?_
          clear hK K
          refine Sf.lx_one rfl rfl (fun K hK => Sf.dft_quiet rfl ?_)
          go_big_quiet_op
          refine hK _ ?_
          clear hK K
          refine Sf.lx_one rfl rfl (fun K hK => Sf.dft_quiet rfl ?_)
          go_big_quiet_op
          refine hK _ ?_
          clear hK K
          refine Sf.lx_one rfl rfl (fun K hK => Sf.dft_quiet rfl ?_)
          go_big_quiet_op
          refine hK _ ?_
          clear hK K
          refine Sf.lx_fl rfl rfl (fun K hK => Sf.sft_ar (k := .f32) rfl rfl rfl rfl (is_lit (by decide)) (ke1) (fun r43 hr43 => hK _ ?_))
          clear hK K
          simp only [Act.put, List.setIfInBounds_toArray, List.set_cons_zero, List.set_cons_succ]
          refine Sf.lx_fl rfl rfl (fun K hK => Sf.sft_ar (k := .f32) rfl rfl rfl rfl (hr37) (hr43) (fun r44 hr44 => hK _ ?_))
          clear hK K
          simp only [Act.put, List.setIfInBounds_toArray, List.set_cons_zero, List.set_cons_succ]
          refine Sf.lx_one rfl rfl (fun K hK => Sf.dft_quiet rfl ?_)
          go_big_quiet_op
          refine hK _ ?_
          clear hK K
          refine Sf.lx_over ?_
          refine Sf.lx_nil ?_
          rintro _ ⟨nq, rfl⟩
          go_wp2_with fail
          go_roundw
          case rel =>
            refine ⟨k + 1, ys.set k r44, by omega, by go_num, ?_, (HO.out.drewN nq).putF k hlt r44, fun j hj => ?_, (below_drawn HB.out _).setCell HG1.out _⟩
            · rw [← HS.out]; exact HW.out.set k (by rw [HD.out]; exact hr44)
            · rw [World.cell?_setCell_other _ _ _ _ (fun e => by have := HAQ.out; simp only [Addr.mk.injEq] at e; omega)]
              exact HE.out j hj
          case measure => simp [intOf]; omega
        · obtain rfl : k = m := by omega
          have hF : coK xs k = coF xs := by rw [← coK_all, HS2.out]
          rw [hF] at hw
          have HW := Lib.hid hw
          have HO := Lib.hid ho
          have HB := Lib.hid hbl
          clear hw ho hbl hF hev
          go_wp2_with fail
          go_ret2
          rw [← HW.out.eq HF.out]
          exact ⟨_, rfl, HO.out, HB.out⟩
    · have hn1 : n = 1 := by omega
      rw [decide_eq_false h3] at hG
      rw [coV_no hG, hG]
      subst hn1
      clear hg h hG hn h3 HH
      go_enter Try.func35, Try.ntmps35
      go_wp2_with (go_at_call 64; refine HT.out.mono ?_; rintro e w' ⟨rfl, n1, rfl⟩)
      go_ret2
      exact retLF_none (below_drawn (Below.refl _ _) _)
end Go.Proofs.Ytfcegkighjnmeaa
