/-
  Contracts: trends, of both sides.
-/
import Derived.Test.YtpckljkhmaghmaaTr
namespace Go.Proofs.Ytpckljkhmaghmaa
open Go.RowKit Fl
set_option linter.unusedVariables false

set_option maxRecDepth 100000 in
theorem traS (v : Value) (xs : List Nat) (w : World) (hv : Rd w w.heap.size v (fl xs)) (hm : xs.length ≤ 1048576) (hx : ∀ x ∈ xs, x < 2 ^ 32) (t1 : isL xs = false) : Calls Try.prog 36 #[v] w (RetB2 (tr1 xs) (tr2 xs) (trG xs) w) := by
  have H1 := Lib.hid (lngS_any v xs w _ hv hm hx)
  obtain ⟨A, c, ev, q1, q2, q3⟩ := id hv
  rw [fl_len] at ev q1 q3
  subst ev
  have HQ := Lib.hid q3
  have HX := Lib.hid hx
  have T1 := Lib.hid t1
  have HG := Lib.hid (show trG xs = false by unfold trG; rw [t1]; rfl)
  clear q3 hx hv t1
  go_enter Try.func36, Try.ntmps36
  go_wp2_with (go_at_call 52; refine H1.out.mono ?_; rintro e w' ⟨rfl, n0, rfl⟩; rw [T1.out])
  go_ret3
  exact retB2_tr HG.out (below_drawn (Below.refl _ _) _)
set_option maxRecDepth 100000 in
theorem trbS (v : Value) (xs : List Nat) (w : World) (hv : Rd w w.heap.size v (fl xs)) (hm : xs.length ≤ 1048576) (hx : ∀ x ∈ xs, x < 2 ^ 32) (t1 : isL xs = true) (t2 : xs.length < 2) : Calls Try.prog 36 #[v] w (RetB2 (tr1 xs) (tr2 xs) (trG xs) w) := by
  have H1 := Lib.hid (lngS_any v xs w _ hv hm hx)
  obtain ⟨A, c, ev, q1, q2, q3⟩ := id hv
  rw [fl_len] at ev q1 q3
  subst ev
  have HQ := Lib.hid q3
  have HX := Lib.hid hx
  have T1 := Lib.hid t1
  have HG := Lib.hid (show trG xs = false by unfold trG; rw [t1, decide_eq_false (by omega)]; rfl)
  clear q3 hx hv t1
  go_enter Try.func36, Try.ntmps36
  go_wp2_with (go_at_call 52; refine H1.out.mono ?_; rintro e w' ⟨rfl, n0, rfl⟩; rw [T1.out])
  go_ret3
  exact retB2_tr HG.out (below_drawn (Below.refl _ _) _)
set_option maxRecDepth 100000 in
set_option maxHeartbeats 4000000 in
theorem trcS (v : Value) (xs : List Nat) (w : World) (hv : Rd w w.heap.size v (fl xs)) (hm : xs.length ≤ 1048576) (hx : ∀ x ∈ xs, x < 2 ^ 32) (t1 : isL xs = true) (t2 : 2 ≤ xs.length) : Calls Try.prog 36 #[v] w (RetB2 (tr1 xs) (tr2 xs) (trG xs) w) := by
  have H1 := Lib.hid (lngS_any v xs w _ hv hm hx)
  have hfin := (isL_len t1).2.2
  obtain ⟨A, c, ev, q1, q2, q3⟩ := id hv
  rw [fl_len] at ev q1 q3
  subst ev
  have HQ := Lib.hid q3
  have HX := Lib.hid hx
  have T1 := Lib.hid t1
  have HD := Lib.hid (show decide (2 ≤ xs.length) = true from decide_eq_true t2)
  clear q3 hx hv t1
  go_enter Try.func36, Try.ntmps36
  go_wp2_with (go_at_call 52; refine H1.out.mono ?_; rintro e w' ⟨rfl, n0, rfl⟩; rw [T1.out])
  go_loopw [5, 6, 7, 8, 24] (TrRel w xs) (fun _ _ _ _ i _ => xs.length - (intOf i).toNat)
  case atStart => exact ⟨0, _, 0, 0, 0, 0, Nat.zero_le _, rfl, rfl, rfl, rfl, rfl, is_nought, is_nought, is_nought, is_nought, rfl⟩
  case round =>
    obtain ⟨k, m, ra, rb, rc, rd, hk, rfl, rfl, rfl, rfl, rfl, ha, hb, hc, hd, rfl⟩ := hrel
    by_cases hlt : k < xs.length
    · obtain ⟨b, off, rfl, hbl, hcc⟩ := HQ.out (by omega)
      have hs1 : w.cell? ⟨b, off + k, none⟩ = some (.float .f32 xs[k]) := hcc k _ (fl_get xs k hlt)
      have HB := Lib.hid (skB_succ xs k hlt)
      have HD := Lib.hid (skD_succ xs k hlt)
      have hx : Is .f32 xs[k] xs[k] := ⟨cn_fin (finA_out hfin k hlt), HX.out _ (List.getElem_mem hlt)⟩
      obtain ⟨q, hfq⟩ : ∃ q, floatOfInt .f32 (k : Int) = q := ⟨_, rfl⟩
      have hq : Is .f32 q (fi k) := by rw [← hfq]; exact is_fi k
      clear hcc
      generalize xs[k] = x at *
      go_wp2_with (first | (refine up_ar2 (op := .add) rfl ha hq ?_; intro r1 n1 h1) | (refine up_ar2 (op := .add) rfl hb hx ?_; intro r2 n2 h2) | (refine up_ar2 (op := .mul) rfl hq hq ?_; intro r3 n3 h3) | (refine up_ar2 (op := .add) rfl hc h3 ?_; intro r4 n4 h4) | (refine up_ar2 (op := .mul) rfl hq hx ?_; intro r5 n5 h5) | (refine up_ar2 (op := .add) rfl hd h5 ?_; intro r6 n6 h6))
      go_roundw
      case rel => exact ⟨k + 1, _, _, _, _, _, by omega, by go_num, rfl, rfl, rfl, rfl, h1, by rw [HB.out]; exact h2, h4, by rw [HD.out]; exact h6, rfl⟩
      case measure => simp [intOf]; omega
    · obtain rfl : k = xs.length := by omega
      obtain ⟨q, hfq⟩ : ∃ q, floatOfInt .f32 (xs.length : Int) = q := ⟨_, rfl⟩
      have hn : Is .f32 q (fi xs.length) := by rw [← hfq]; exact is_fi _
      go_wp2_with (first | (refine up_ar2 (op := .mul) rfl hn hd ?_; intro r1 n1 h1) | (refine up_ar2 (op := .mul) rfl ha hb ?_; intro r2 n2 h2) | (refine up_ar2 (op := .sub) rfl h1 h2 ?_; intro r3 n3 h3) | (refine up_ar2 (op := .mul) rfl hn hc ?_; intro r4 n4 h4) | (refine up_ar2 (op := .mul) rfl ha ha ?_; intro r5 n5 h5) | (refine up_ar2 (op := .sub) rfl h4 h5 ?_; intro r6 n6 h6) | (refine up_ar2 (op := .quo) rfl h3 h6 ?_; intro r7 n7 h7) | (refine up_ar2 (op := .mul) rfl h7 ha ?_; intro r8 n8 h8) | (refine up_ar2 (op := .sub) rfl hb h8 ?_; intro r9 n9 h9) | (refine up_ar2 (op := .quo) rfl h9 hn ?_; intro r10 n10 h10))
      have h7 : Is .f32 _ (trS xs) := h7
      have h10 : Is .f32 _ (trB xs) := h10
      clear h1 h2 h3 h4 h5 h6 h8 h9 ha hb hc hd hn hfq
      cases ts : finB .f32 (trS xs) with
      | false =>
        have TS := Lib.hid (show finB .f32 (trS xs) = false from ts)
        have HG := Lib.hid (show trG xs = false by unfold trG; rw [ts, Bool.and_false, Bool.false_and])
        clear ts
        go_wp2_with (first | (go_at_call 47; first | (refine (specFin_any _ _ h7.2).mono ?_; rintro e w' ⟨rfl, n11, rfl⟩; rw [fin_is h7]; rw [TS.out]) | (refine (specFin_any _ _ h10.2).mono ?_; rintro e w' ⟨rfl, n12, rfl⟩; rw [fin_is h10]; rw [TB.out])))
        go_ret3
        exact retB2_tr HG.out (below_drawn (Below.refl _ _) _)
      | true =>
        cases tb : finB .f32 (trB xs) with
        | false =>
          have TS := Lib.hid (show finB .f32 (trS xs) = true from ts)
          have TB := Lib.hid (show finB .f32 (trB xs) = false from tb)
          have HG := Lib.hid (show trG xs = false by unfold trG; rw [tb, Bool.and_false])
          clear ts tb
          go_wp2_with (first | (go_at_call 47; first | (refine (specFin_any _ _ h7.2).mono ?_; rintro e w' ⟨rfl, n11, rfl⟩; rw [fin_is h7]; rw [TS.out]) | (refine (specFin_any _ _ h10.2).mono ?_; rintro e w' ⟨rfl, n12, rfl⟩; rw [fin_is h10]; rw [TB.out])))
          go_ret3
          exact retB2_tr HG.out (below_drawn (Below.refl _ _) _)
        | true =>
          have TS := Lib.hid (show finB .f32 (trS xs) = true from ts)
          have TB := Lib.hid (show finB .f32 (trB xs) = true from tb)
          have HG := Lib.hid (show trG xs = true by unfold trG; rw [ts, tb, T1.out, HD.out]; rfl)
          clear ts tb
          go_wp2_with (first | (go_at_call 47; first | (refine (specFin_any _ _ h7.2).mono ?_; rintro e w' ⟨rfl, n11, rfl⟩; rw [fin_is h7]; rw [TS.out]) | (refine (specFin_any _ _ h10.2).mono ?_; rintro e w' ⟨rfl, n12, rfl⟩; rw [fin_is h10]; rw [TB.out])))
          go_ret3
          rw [(tr_yes HG.out).1, (tr_yes HG.out).2, HG.out]
          exact ⟨_, _, rfl, h7, h10, (below_drawn (Below.refl _ _) _)⟩
theorem trS_any (v : Value) (xs : List Nat) (w : World) (hv : Rd w w.heap.size v (fl xs)) (hm : xs.length ≤ 1048576) (hx : ∀ x ∈ xs, x < 2 ^ 32) : Calls Try.prog 36 #[v] w (RetB2 (tr1 xs) (tr2 xs) (trG xs) w) := by
  cases t1 : isL xs with
  | false => exact traS v xs w hv hm hx t1
  | true =>
    by_cases t2 : xs.length < 2
    · exact trbS v xs w hv hm hx t1 t2
    · exact trcS v xs w hv hm hx t1 (by omega)
set_option maxRecDepth 100000 in
theorem traI (v : Value) (xs : List Nat) (w : World) (hv : Rd w w.heap.size v (fl xs)) (hm : xs.length ≤ 1048576) (hx : ∀ x ∈ xs, x < 2 ^ 32) (t1 : isL xs = false) : Calls Try.prog 37 #[v] w (RetB2 (tr1 xs) (tr2 xs) (trG xs) w) := by
  have H1 := Lib.hid (lngI_any v xs w _ hv hm hx)
  obtain ⟨A, c, ev, q1, q2, q3⟩ := id hv
  rw [fl_len] at ev q1 q3
  subst ev
  have HQ := Lib.hid q3
  have HX := Lib.hid hx
  have T1 := Lib.hid t1
  have HG := Lib.hid (show trG xs = false by unfold trG; rw [t1]; rfl)
  clear q3 hx hv t1
  go_enter Try.func37, Try.ntmps37
  go_wp2_with (go_at_call 54; refine H1.out.mono ?_; rintro e w' ⟨rfl, n0, rfl⟩; rw [T1.out])
  go_ret3
  exact retB2_tr HG.out (below_drawn (Below.refl _ _) _)
set_option maxRecDepth 100000 in
theorem trbI (v : Value) (xs : List Nat) (w : World) (hv : Rd w w.heap.size v (fl xs)) (hm : xs.length ≤ 1048576) (hx : ∀ x ∈ xs, x < 2 ^ 32) (t1 : isL xs = true) (t2 : xs.length < 2) : Calls Try.prog 37 #[v] w (RetB2 (tr1 xs) (tr2 xs) (trG xs) w) := by
  have H1 := Lib.hid (lngI_any v xs w _ hv hm hx)
  obtain ⟨A, c, ev, q1, q2, q3⟩ := id hv
  rw [fl_len] at ev q1 q3
  subst ev
  have HQ := Lib.hid q3
  have HX := Lib.hid hx
  have T1 := Lib.hid t1
  have HG := Lib.hid (show trG xs = false by unfold trG; rw [t1, decide_eq_false (by omega)]; rfl)
  clear q3 hx hv t1
  go_enter Try.func37, Try.ntmps37
  go_wp2_with (go_at_call 54; refine H1.out.mono ?_; rintro e w' ⟨rfl, n0, rfl⟩; rw [T1.out])
  go_ret3
  exact retB2_tr HG.out (below_drawn (Below.refl _ _) _)
set_option maxRecDepth 100000 in
set_option maxHeartbeats 4000000 in
theorem trcI (v : Value) (xs : List Nat) (w : World) (hv : Rd w w.heap.size v (fl xs)) (hm : xs.length ≤ 1048576) (hx : ∀ x ∈ xs, x < 2 ^ 32) (t1 : isL xs = true) (t2 : 2 ≤ xs.length) : Calls Try.prog 37 #[v] w (RetB2 (tr1 xs) (tr2 xs) (trG xs) w) := by
  have H1 := Lib.hid (lngI_any v xs w _ hv hm hx)
  have hfin := (isL_len t1).2.2
  obtain ⟨A, c, ev, q1, q2, q3⟩ := id hv
  rw [fl_len] at ev q1 q3
  subst ev
  have HQ := Lib.hid q3
  have HX := Lib.hid hx
  have T1 := Lib.hid t1
  have HD := Lib.hid (show decide (2 ≤ xs.length) = true from decide_eq_true t2)
  have HLN := Lib.hid (fun w' (hr : Rd w' w'.heap.size (.slice A xs.length c) (fl xs)) => lnI_any _ xs w' hr hm hx hfin)
  have RV := Lib.hid hv
  clear q3 hx hv t1
  cases ts : finB .f32 (trS xs) with
  | false =>
    have TS := Lib.hid (show finB .f32 (trS xs) = false from ts)
    have HG := Lib.hid (show trG xs = false by unfold trG; rw [ts, Bool.and_false, Bool.false_and])
    clear ts
    go_enter Try.func37, Try.ntmps37
    go_wp2_with (first | (go_at_call 54; refine H1.out.mono ?_; rintro e w' ⟨rfl, n0, rfl⟩; rw [T1.out]) | (go_at_call 75; refine (HLN.out _ (by exact RV.out)).mono ?_; rintro e w' ⟨r7, r10, n7, rfl, h7, h10, rfl⟩) | (go_at_call 76; first | (refine (implFin_any _ _ h7.2).mono ?_; rintro e w' ⟨rfl, n11, rfl⟩; rw [fin_is h7]; rw [TS.out]) | (refine (implFin_any _ _ h10.2).mono ?_; rintro e w' ⟨rfl, n12, rfl⟩; rw [fin_is h10]; rw [TB.out])))
    go_ret3
    exact retB2_tr HG.out (by first | exact below_drawn (Below.refl _ _) _ | exact below_drawn (below_drawn (Below.refl _ _) _) _ | exact below_drawn (below_drawn (below_drawn (Below.refl _ _) _) _) _)
  | true =>
    cases tb : finB .f32 (trB xs) with
    | false =>
      have TS := Lib.hid (show finB .f32 (trS xs) = true from ts)
      have TB := Lib.hid (show finB .f32 (trB xs) = false from tb)
      have HG := Lib.hid (show trG xs = false by unfold trG; rw [tb, Bool.and_false])
      clear ts tb
      go_enter Try.func37, Try.ntmps37
      go_wp2_with (first | (go_at_call 54; refine H1.out.mono ?_; rintro e w' ⟨rfl, n0, rfl⟩; rw [T1.out]) | (go_at_call 75; refine (HLN.out _ (by exact RV.out)).mono ?_; rintro e w' ⟨r7, r10, n7, rfl, h7, h10, rfl⟩) | (go_at_call 76; first | (refine (implFin_any _ _ h7.2).mono ?_; rintro e w' ⟨rfl, n11, rfl⟩; rw [fin_is h7]; rw [TS.out]) | (refine (implFin_any _ _ h10.2).mono ?_; rintro e w' ⟨rfl, n12, rfl⟩; rw [fin_is h10]; rw [TB.out])))
      go_ret3
      exact retB2_tr HG.out (by first | exact below_drawn (Below.refl _ _) _ | exact below_drawn (below_drawn (Below.refl _ _) _) _ | exact below_drawn (below_drawn (below_drawn (Below.refl _ _) _) _) _)
    | true =>
      have TS := Lib.hid (show finB .f32 (trS xs) = true from ts)
      have TB := Lib.hid (show finB .f32 (trB xs) = true from tb)
      have HG := Lib.hid (show trG xs = true by unfold trG; rw [ts, tb, T1.out, HD.out]; rfl)
      clear ts tb
      go_enter Try.func37, Try.ntmps37
      go_wp2_with (first | (go_at_call 54; refine H1.out.mono ?_; rintro e w' ⟨rfl, n0, rfl⟩; rw [T1.out]) | (go_at_call 75; refine (HLN.out _ (by exact RV.out)).mono ?_; rintro e w' ⟨r7, r10, n7, rfl, h7, h10, rfl⟩) | (go_at_call 76; first | (refine (implFin_any _ _ h7.2).mono ?_; rintro e w' ⟨rfl, n11, rfl⟩; rw [fin_is h7]; rw [TS.out]) | (refine (implFin_any _ _ h10.2).mono ?_; rintro e w' ⟨rfl, n12, rfl⟩; rw [fin_is h10]; rw [TB.out])))
      go_ret3
      rw [(tr_yes HG.out).1, (tr_yes HG.out).2, HG.out]
      exact ⟨_, _, rfl, h7, h10, (by first | exact below_drawn (Below.refl _ _) _ | exact below_drawn (below_drawn (Below.refl _ _) _) _ | exact below_drawn (below_drawn (below_drawn (Below.refl _ _) _) _) _)⟩
theorem trI_any (v : Value) (xs : List Nat) (w : World) (hv : Rd w w.heap.size v (fl xs)) (hm : xs.length ≤ 1048576) (hx : ∀ x ∈ xs, x < 2 ^ 32) : Calls Try.prog 37 #[v] w (RetB2 (tr1 xs) (tr2 xs) (trG xs) w) := by
  cases t1 : isL xs with
  | false => exact traI v xs w hv hm hx t1
  | true =>
    by_cases t2 : xs.length < 2
    · exact trbI v xs w hv hm hx t1 t2
    · exact trcI v xs w hv hm hx t1 (by omega)
end Go.Proofs.Ytpckljkhmaghmaa
