/-
  Contracts: the best break, of both sides.
-/
import Derived.Test.YtpckljkhmaghmaaGi
import Derived.Test.YtpckljkhmaghmaaBb
namespace Go.Proofs.Ytpckljkhmaghmaa
open Go.RowKit Fl Ieee
set_option linter.unusedVariables false

set_option maxRecDepth 100000 in
theorem bbaS (v : Value) (xs : List Nat) (w : World) (hv : Rd w w.heap.size v (fl xs)) (hm : xs.length ≤ 1048576) (hx : ∀ x ∈ xs, x < 2 ^ 32) (t1 : isL xs = false) : Calls Try.prog 45 #[v] w (RetIB (bb1 xs) (bb2 xs) (bbG xs) w) := by
  have H1 := Lib.hid (lngS_any v xs w _ hv hm hx)
  obtain ⟨A, c, ev, q1, q2, q3⟩ := id hv
  rw [fl_len] at ev q1 q3
  subst ev
  have T1 := Lib.hid t1
  have HG := Lib.hid (show bbG xs = false by unfold bbG; rw [t1]; rfl)
  clear q3 hx hv t1
  go_enter Try.func45, Try.ntmps45
  go_wp2_with (go_at_call 52; refine H1.out.mono ?_; rintro e w' ⟨rfl, n0, rfl⟩; rw [T1.out])
  go_ret3
  exact retIB_bb HG.out (below_drawn (Below.refl _ _) _)
set_option maxRecDepth 100000 in
theorem bbbS (v : Value) (xs : List Nat) (w : World) (hv : Rd w w.heap.size v (fl xs)) (hm : xs.length ≤ 1048576) (hx : ∀ x ∈ xs, x < 2 ^ 32) (t1 : isL xs = true) (t2 : xs.length < 2) : Calls Try.prog 45 #[v] w (RetIB (bb1 xs) (bb2 xs) (bbG xs) w) := by
  have H1 := Lib.hid (lngS_any v xs w _ hv hm hx)
  obtain ⟨A, c, ev, q1, q2, q3⟩ := id hv
  rw [fl_len] at ev q1 q3
  subst ev
  have T1 := Lib.hid t1
  have HG := Lib.hid (show bbG xs = false by unfold bbG; rw [t1, decide_eq_false (by omega)]; rfl)
  clear q3 hx hv t1
  go_enter Try.func45, Try.ntmps45
  go_wp2_with (go_at_call 52; refine H1.out.mono ?_; rintro e w' ⟨rfl, n0, rfl⟩; rw [T1.out])
  go_ret3
  exact retIB_bb HG.out (below_drawn (Below.refl _ _) _)
set_option maxRecDepth 100000 in
theorem bbaI (v : Value) (xs : List Nat) (w : World) (hv : Rd w w.heap.size v (fl xs)) (hm : xs.length ≤ 1048576) (hx : ∀ x ∈ xs, x < 2 ^ 32) (t1 : isL xs = false) : Calls Try.prog 46 #[v] w (RetIB (bb1 xs) (bb2 xs) (bbG xs) w) := by
  have H1 := Lib.hid (lngI_any v xs w _ hv hm hx)
  obtain ⟨A, c, ev, q1, q2, q3⟩ := id hv
  rw [fl_len] at ev q1 q3
  subst ev
  have T1 := Lib.hid t1
  have HG := Lib.hid (show bbG xs = false by unfold bbG; rw [t1]; rfl)
  clear q3 hx hv t1
  go_enter Try.func46, Try.ntmps46
  go_wp2_with (go_at_call 54; refine H1.out.mono ?_; rintro e w' ⟨rfl, n0, rfl⟩; rw [T1.out])
  go_ret3
  exact retIB_bb HG.out (below_drawn (Below.refl _ _) _)
set_option maxRecDepth 100000 in
theorem bbbI (v : Value) (xs : List Nat) (w : World) (hv : Rd w w.heap.size v (fl xs)) (hm : xs.length ≤ 1048576) (hx : ∀ x ∈ xs, x < 2 ^ 32) (t1 : isL xs = true) (t2 : xs.length < 2) : Calls Try.prog 46 #[v] w (RetIB (bb1 xs) (bb2 xs) (bbG xs) w) := by
  have H1 := Lib.hid (lngI_any v xs w _ hv hm hx)
  obtain ⟨A, c, ev, q1, q2, q3⟩ := id hv
  rw [fl_len] at ev q1 q3
  subst ev
  have T1 := Lib.hid t1
  have HG := Lib.hid (show bbG xs = false by unfold bbG; rw [t1, decide_eq_false (by omega)]; rfl)
  clear q3 hx hv t1
  go_enter Try.func46, Try.ntmps46
  go_wp2_with (go_at_call 54; refine H1.out.mono ?_; rintro e w' ⟨rfl, n0, rfl⟩; rw [T1.out])
  go_ret3
  exact retIB_bb HG.out (below_drawn (Below.refl _ _) _)
set_option maxRecDepth 100000 in
theorem bbcS (v : Value) (xs : List Nat) (w : World) (hv : Rd w w.heap.size v (fl xs)) (hm : xs.length ≤ 1048576) (hx : ∀ x ∈ xs, x < 2 ^ 32) (t1 : isL xs = true) (t2 : 2 ≤ xs.length) : Calls Try.prog 45 #[v] w (RetIB (bb1 xs) (bb2 xs) (bbG xs) w) := by
  have H1 := Lib.hid (lngS_any v xs w _ hv hm hx)
  obtain ⟨A, c, ev, q1, q2, q3⟩ := id hv
  rw [fl_len] at ev q1 q3
  subst ev
  have T1 := Lib.hid t1
  have R0 := Lib.hid hv
  have HB := Lib.hid (fun w' (hr : Rd w' w'.heap.size (.slice A xs.length c) (fl xs)) => brS_any _ xs w' hr t1 t2)
  clear q3 hx hv t1
  go_enter Try.func45, Try.ntmps45
  go_wp2_with (first | (go_at_call 52; refine H1.out.mono ?_; rintro e w' ⟨rfl, n0, rfl⟩; rw [T1.out]) | (go_at_call 81; refine (HB.out _ ?_).mono ?_; exact R0.out; rintro e w9 ⟨r9, rfl, h9, hb9⟩))
  go_ret3
  exact ⟨_, rfl, h9, ⟨hb9.os, hb9.tape, hb9.output, hb9.size, hb9.block⟩⟩
def BbRelI (w0 : World) (xs : List Nat) (p q i : Value) (wr : World) : Prop := ∃ k r : Nat, 1 ≤ k ∧ k + 1 ≤ xs.length ∧ i = .int .i64 ((k : Int) + 1) ∧ p = .int .i64 ((bsK (gnX xs (mnX xs)) k).1 : Int) ∧ q = .float .f32 r ∧ Is .f32 r (bsK (gnX xs (mnX xs)) k).2 ∧ Below w0.heap.size w0 wr
set_option maxRecDepth 100000 in
set_option maxHeartbeats 4000000 in
theorem bbcI (v : Value) (xs : List Nat) (w : World) (hv : Rd w w.heap.size v (fl xs)) (hm : xs.length ≤ 1048576) (hx : ∀ x ∈ xs, x < 2 ^ 32) (t1 : isL xs = true) (t2 : 2 ≤ xs.length) : Calls Try.prog 46 #[v] w (RetIB (bb1 xs) (bb2 xs) (bbG xs) w) := by
  have hlen := (isL_len t1).2.1
  have H1 := Lib.hid (lngI_any v xs w _ hv hm hx)
  have HM := Lib.hid (fun n => mnI_any v xs (w.drewN n) _ (hv.drewN n) (by omega))
  obtain ⟨A, c, ev, q1, q2, q3⟩ := id hv
  rw [fl_len] at ev q1 q3
  subst ev
  have T1 := Lib.hid t1
  have R0 := Lib.hid hv
  have HE := Lib.hid (bb_fin xs (isL_len t1).2.2 t2 hlen)
  have HGG := Lib.hid (show bbG xs = bbA xs by unfold bbG; rw [t1, decide_eq_true t2]; rfl)
  obtain ⟨b, off, rfl, hbl, hcc⟩ := q3 (by omega)
  have HG := Lib.hid (fun (k r : Nat) (h1 : 1 ≤ k) (h2 : k < xs.length) (hr : Is .f32 r (mnX xs)) (w' : World) (h : Rd w' w'.heap.size (.slice (some ⟨b, off, none⟩) xs.length c) (fl xs)) => gnI_any b off c xs k r (mnX xs) w' h h1 h2 hlen hr)
  clear q3 hcc hx hv t1
  go_enter Try.func46, Try.ntmps46
  go_wp2_with (first | (go_at_call 54; refine H1.out.mono ?_; rintro e w' ⟨rfl, n0, rfl⟩; rw [T1.out]) | (go_at_call 82; refine (HM.out _).mono ?_; rintro e w' ⟨rm, nm, rfl, hM, rfl⟩) | (go_at_call 83; refine (HG.out 1 _ (Nat.le_refl _) (by omega) hM _ ?_).mono ?_; exact R0.out; rintro e w1 ⟨r1, rfl, h1, hb1⟩))
  have HM2 := Lib.hid hM
  have HB1 := Lib.hid (show Below w.heap.size w w1 from ⟨hb1.os, hb1.tape, hb1.output, hb1.size, hb1.block⟩)
  have R1 := Lib.hid (R0.out.step HB1.out)
  clear hb1 hM HM H1
  go_loopw [6, 7, 8] (BbRelI w1 xs) (fun _ _ i _ => xs.length - (intOf i).toNat)
  case atStart => exact ⟨1, _, Nat.le_refl _, by omega, rfl, by rw [bsK_one]; rfl, rfl, by rw [bsK_one]; exact h1, Below.refl _ _⟩
  case round =>
    clear h1
    obtain ⟨k, r, hk1, hk, rfl, rfl, rfl, hr, hb⟩ := hrel
    have HR := Lib.hid hr
    have HB := Lib.hid hb
    clear hr hb
    by_cases hlt : k + 1 < xs.length
    · obtain ⟨k1, hke⟩ : ∃ k1, k1 = k + 1 := ⟨_, rfl⟩
      have hki : (k : Int) + 1 = (k1 : Int) := by omega
      rw [hki]
      have hk1l : (k1 : Int) < (xs.length : Int) := by omega
      have HK := Lib.hid hke
      obtain ⟨z, hz⟩ : ∃ z, gnX xs (mnX xs) k1 = z := ⟨_, rfl⟩
      obtain ⟨p, hp⟩ : ∃ p, (bsK (gnX xs (mnX xs)) k).1 = p := ⟨_, rfl⟩
      obtain ⟨y, hy⟩ : ∃ y, (bsK (gnX xs (mnX xs)) k).2 = y := ⟨_, rfl⟩
      have hpp : 1 ≤ p := by rw [← hp]; exact bsK_pos _ _ hk1
      have HRY := Lib.hid (show Is .f32 r y by rw [← hy]; exact HR.out)
      have HZ := Lib.hid hz
      have HP := Lib.hid hp
      have HY := Lib.hid hy
      have R3 := Lib.hid (R1.out.step HB.out)
      have HGK := Lib.hid (HG.out k1 _ (by omega) (by omega) HM2.out)
      rw [hp]
      clear hz hp hy hki hke HR
      cases hg : gt32 z y with
      | true =>
        have HGT := Lib.hid (show (FloatKind.f32.format.order z y == some .gt) = true from hg)
        have HS := Lib.hid (show bsK (gnX xs (mnX xs)) k1 = (k1, z) by rw [HK.out, bsK_yes (by rw [HP.out, HY.out, ← HK.out, HZ.out]; exact .inr hg), ← HK.out, HZ.out])
        clear hg
        go_wp2_with (go_at_call 83; refine (HGK.out _ ?_).mono ?_; exact R3.out; rintro e w2 ⟨r2, rfl, h2, hb2⟩; rw [HZ.out] at h2; have hgt : (FloatKind.f32.format.order r2 r == some .gt) = true := (by rw [order_is_l h2, order_is_r HRY.out]; exact HGT.out))
        go_roundw
        case rel => exact ⟨k1, _, by have := HK.out; omega, by have := HK.out; omega, by go_num, by rw [HS.out], rfl, by rw [HS.out]; exact h2, HB.out.trans (hb2.mono HB.out.size)⟩
        case measure => simp [intOf]; have := HK.out; omega
      | false =>
        have HGT := Lib.hid (show (FloatKind.f32.format.order z y == some .gt) = false from hg)
        have HS := Lib.hid (show bsK (gnX xs (mnX xs)) k1 = bsK (gnX xs (mnX xs)) k by rw [HK.out]; exact bsK_no (by rw [HP.out, HY.out, ← HK.out, HZ.out, hg]; simp; omega))
        clear hg
        go_wp2_with (go_at_call 83; refine (HGK.out _ ?_).mono ?_; exact R3.out; rintro e w2 ⟨r2, rfl, h2, hb2⟩; rw [HZ.out] at h2; have hgt : (FloatKind.f32.format.order r2 r == some .gt) = false := (by rw [order_is_l h2, order_is_r HRY.out]; exact HGT.out))
        go_roundw
        case rel => exact ⟨k1, _, by have := HK.out; omega, by have := HK.out; omega, by go_num, by rw [HS.out, HP.out], rfl, by rw [HS.out, HY.out]; exact HRY.out, HB.out.trans (hb2.mono HB.out.size)⟩
        case measure => simp [intOf]; have := HK.out; omega
    · have hkl : k = xs.length - 1 := by omega
      have hki : (k : Int) + 1 = (xs.length : Int) := by omega
      rw [hki]
      have HKL := Lib.hid hkl
      rw [hkl] at HR
      clear hki hlt
      have HBW := Lib.hid (HB1.out.trans (HB.out.mono HB1.out.size))
      have HFR := Lib.hid (show finB .f32 r = bbA xs by rw [fin_is HR.out]; exact HE.out)
      clear hkl
      cases ha : bbA xs with
      | false =>
        have HA := Lib.hid ha
        have HG0 := Lib.hid (show bbG xs = false by rw [HGG.out, ha])
        clear ha
        go_wp2_with (go_at_call 76; refine (implFin_any _ _ HR.out.2).mono ?_; rintro e w' ⟨rfl, n10, rfl⟩; rw [HFR.out, HA.out])
        go_ret3
        exact retIB_bb HG0.out (below_drawn HBW.out _)
      | true =>
        have HA := Lib.hid ha
        have HG1 := Lib.hid (show bbG xs = true by rw [HGG.out, ha])
        clear ha
        go_wp2_with (go_at_call 76; refine (implFin_any _ _ HR.out.2).mono ?_; rintro e w' ⟨rfl, n10, rfl⟩; rw [HFR.out, HA.out])
        go_ret3
        rw [(bb_yes HG1.out).1, (bb_yes HG1.out).2, HG1.out, ← HKL.out]
        exact ⟨_, rfl, by rw [HKL.out]; exact HR.out, below_drawn HBW.out _⟩
theorem bbS_any (v : Value) (xs : List Nat) (w : World) (hv : Rd w w.heap.size v (fl xs)) (hm : xs.length ≤ 1048576) (hx : ∀ x ∈ xs, x < 2 ^ 32) : Calls Try.prog 45 #[v] w (RetIB (bb1 xs) (bb2 xs) (bbG xs) w) := by
  cases t1 : isL xs with
  | false => exact bbaS v xs w hv hm hx t1
  | true =>
    by_cases t2 : xs.length < 2
    · exact bbbS v xs w hv hm hx t1 t2
    · exact bbcS v xs w hv hm hx t1 (by omega)
theorem bbI_any (v : Value) (xs : List Nat) (w : World) (hv : Rd w w.heap.size v (fl xs)) (hm : xs.length ≤ 1048576) (hx : ∀ x ∈ xs, x < 2 ^ 32) : Calls Try.prog 46 #[v] w (RetIB (bb1 xs) (bb2 xs) (bbG xs) w) := by
  cases t1 : isL xs with
  | false => exact bbaI v xs w hv hm hx t1
  | true =>
    by_cases t2 : xs.length < 2
    · exact bbbI v xs w hv hm hx t1 t2
    · exact bbcI v xs w hv hm hx t1 (by omega)
end Go.Proofs.Ytpckljkhmaghmaa
