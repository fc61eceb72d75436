/-
  Contracts: the limit with the least risk, of the program.
-/
import Derived.Test.YtpckljkhmaghmaaBl
namespace Go.Proofs.Ytpckljkhmaghmaa
open Go.RowKit Fl Ieee
set_option linter.unusedVariables false

theorem absX_any (x : Nat) (w : World) (hf : finB .f32 x = true) : Calls Try.prog 67 #[.float .f32 x] w (RetX (x % 2 ^ 31) w) := absI_fin x w hf
set_option maxRecDepth 100000 in
set_option maxHeartbeats 4000000 in
theorem abI_any (v : Value) (xs : List Nat) (w : World) (hfin : finA xs = true) (h : Rd w w.heap.size v (fl xs)) (hm : xs.length ≤ 1048576) (hx : ∀ x ∈ xs, x < 2 ^ 32) :
    Calls Try.prog 69 #[v] w (RetF1 (mapK (fun x => x % 2 ^ 31) xs xs.length) w) := by
  obtain ⟨i0, hi, hz0, hz1, hz2⟩ := info_parts infoF
  obtain ⟨A, c, hv, q1, q2, q3⟩ := h
  rw [fl_len] at hv q1 q3
  subst hv
  have HQ := Lib.hid q3
  have HX := Lib.hid hx
  clear q3 hx
  go_enter Try.func69, Try.ntmps69
  go_wp2_with (at_make; refine wpList_make_own _ rfl _ _ 28 rfl w.heap.size 22 i0 (.float .f32 0) 1 Try.underlying28 hi hz0 hz1 .i64 .i64 _ xs.length rfl rfl (by omega) (by rw [hz2]; omega) (by unfold maxLen; omega) (Nat.le_refl _) ?_; intro w1 hown hgrow)
  have hb0 : Below w.heap.size w w1 := (Below.refl _ _).grown hgrow (Nat.le_refl _) (fun j hj => absurd hj (by simp))
  go_wp2
  go_loopw [3, 11] (ApRel w (fun x => x % 2 ^ 31) xs) (fun _ i _ => xs.length - (intOf i).toNat)
  case atStart => exact ⟨0, Nat.zero_le _, rfl, hown, hb0⟩
  case round =>
    clear hown hb0 hgrow
    obtain ⟨k, hk, rfl, hown, hb⟩ := hrel
    have HOW := Lib.hid hown
    have HB := Lib.hid hb
    clear hown hb
    by_cases hlt : k < xs.length
    · obtain ⟨b, off, rfl, hbl, hcc⟩ := HQ.out (by omega)
      have hbw : b < wr.heap.size := by have := HB.out.size; omega
      have hs1 : wr.cell? ⟨b, off + k, none⟩ = some (.float .f32 xs[k]) := (HB.out.cell (p := ⟨b, off + k, none⟩) hbl).trans (hcc k _ (fl_get xs k hlt))
      have HK := Lib.hid (mapK_succ (fun x => x % 2 ^ 31) xs k xs[k] (by simp))
      have hxk : xs[k] < 2 ^ 32 := HX.out _ (List.getElem_mem _)
      have HC := Lib.hid (fun w' => absX_any xs[k] w' (fin_at hfin hlt))
      clear hcc hxk
      generalize xs[k] = x at *
      obtain ⟨y, hy⟩ : ∃ y, (fun x => x % 2 ^ 31) x = y := ⟨_, rfl⟩
      have HY := Lib.hid hy
      clear hy
      go_wp2_with (first | (go_at_call 67; refine (HC.out _).mono ?_; rintro e w' ⟨rfl, n, rfl⟩; rw [show x % 2 ^ 31 = y from HY.out]) | (at_builtin; refine wpList_append_own _ rfl _ _ 28 rfl w.heap.size 22 i0 (.float .f32 0) 1 4 Try.underlying28 hi hz0 hz1 hz2 rfl (by decide) _ _ _ rfl ((rowDrewF HOW.out _).alloc _) ⟨wr.heap.size, 0, none⟩ 1 1 [.float .f32 y] rfl rfl (one_newF _ _ _) (cellsF [y]) (by unfold maxLen; omega) (by omega) (by simp; have := HB.out.size; omega) ?_; intro v' w1 hown' hgrow _))
      have hown2 : w1.ownsRow w.heap.size 22 1 v' (k + 1) (fl (mapK (fun x => x % 2 ^ 31) xs (k + 1))) := by rw [HK.out, HY.out, fl_app]; exact hown'
      have hb2 : Below w.heap.size w w1 := ((below_drawn HB.out _).alloc (by exact HB.out.size) _).grown hgrow (by simp; have := HB.out.size; omega) (fun j hj => (HOW.out.lt j hj).1)
      have HO2 := Lib.hid hown2
      have HB2 := Lib.hid hb2
      clear hown' hgrow hown2 hb2
      go_wp2
      go_roundw
      case rel => exact ⟨k + 1, by omega, by go_num, HO2.out, HB2.out⟩
      case measure => simp [intOf]; omega
    · obtain rfl : k = xs.length := by omega
      go_wp2
      go_ret
      exact ⟨_, rfl, Own.row HOW.out, HB.out⟩
theorem rkB_0 (xs : List Nat) (a : Nat) : rkB xs a 0 = (isL xs && psB a && finB .f32 (rkX xs a 0)) := by
  unfold rkB rkG; rw [ls_0, Bool.and_true]
theorem rkV_yes {xs : List Nat} {a l : Nat} (h : rkB xs a l = true) : rkV xs a l = rkX xs a l ∧ finB .f32 (rkX xs a l) = true := by
  unfold rkB at h
  rw [Bool.and_eq_true] at h
  unfold rkV fnV
  rw [h.1, h.2]
  exact ⟨rfl, rfl⟩
theorem mapK_get (g : Nat → Nat) (xs : List Nat) (n k : Nat) (hk : k < n) : (mapK g xs n)[k]? = some (g (xs.getD k 0)) := by simp [mapK, hk]
set_option maxRecDepth 100000 in
theorem blI_no (v : Value) (xs : List Nat) (a : Nat) (w : World) (hv : Rd w w.heap.size v (fl xs)) (hm : xs.length ≤ 1048576) (hx : ∀ x ∈ xs, x < 2 ^ 32) (ha : a < 2 ^ 32) (h0 : rkB xs a 0 = false) :
    Calls Try.prog 31 #[v, .float .f32 a] w (RetB2 (bl1 xs a) (bl2 xs a) (blG xs a) w) := by
  have H1 := Lib.hid (rkoI_any v xs a 0 w hv hm hx ha (by decide))
  obtain ⟨A, c, ev, q1, q2, q3⟩ := id hv
  rw [fl_len] at ev q1 q3
  subst ev
  have HG0 := Lib.hid (show blG xs a = false by rw [rkB_0] at h0; unfold blG; rw [h0]; rfl)
  have HT := Lib.hid h0
  clear h0 hx hv q3
  go_enter Try.func31, Try.ntmps31
  go_wp2_with (go_at_call 29; refine H1.out.mono ?_; rintro e w1 ⟨r1, rfl, h1, hb1⟩; rw [HT.out])
  go_ret3
  exact retB2_bl HG0.out hb1
set_option maxRecDepth 100000 in
set_option maxHeartbeats 4000000 in
theorem blI_ok (v : Value) (xs : List Nat) (a : Nat) (w : World) (hv : Rd w w.heap.size v (fl xs)) (hm : xs.length ≤ 1048576) (hx : ∀ x ∈ xs, x < 2 ^ 32) (ha : a < 2 ^ 32) (h0 : rkB xs a 0 = true) :
    Calls Try.prog 31 #[v, .float .f32 a] w (RetB2 (bl1 xs a) (bl2 xs a) (blG xs a) w) := by
  have H1 := Lib.hid (rkoI_any v xs a 0 w hv hm hx ha (by decide))
  have h00 := h0
  rw [rkB_0, Bool.and_eq_true, Bool.and_eq_true] at h00
  obtain ⟨⟨hlong, hpa⟩, hf0⟩ := h00
  have hfin := (isL_len hlong).2.2
  have hlen := (isL_len hlong).2.1
  obtain ⟨A, c, ev, q1, q2, q3⟩ := id hv
  rw [fl_len] at ev q1 q3
  subst ev
  have HX := Lib.hid hx
  have R0 := Lib.hid hv
  have HF := Lib.hid (fun (l : Nat) (hl : l < 2 ^ 32) (w' : World) (hr : Rd w' w'.heap.size (.slice A xs.length c) (fl xs)) => rkoI_any _ xs a l w' hr hm hx ha hl)
  have HAB := Lib.hid (fun (w' : World) (hr : Rd w' w'.heap.size (.slice A xs.length c) (fl xs)) => abI_any _ xs w' hfin hr hm hx)
  have HG := Lib.hid (show blG xs a = blA xs a by unfold blG; rw [hlong, hpa, hf0]; rfl)
  have HRG := Lib.hid (fun l (hls : lsB l = true) => (show rkB xs a l = finB .f32 (rkX xs a l) by unfold rkB rkG; rw [hlong, hpa, hls]; rfl))
  have HV0 := Lib.hid (rkV_yes h0)
  have HT := Lib.hid h0
  clear q3 hx hv hlong hpa h0 hf0
  go_enter Try.func31, Try.ntmps31
  go_wp2_with (go_at_call 29; refine H1.out.mono ?_; rintro e w1 ⟨r1, rfl, h1, hb1⟩; rw [HT.out])
  go_wp2_with fail
  rw [HV0.out.1] at h1
  obtain rfl := is_eq h1 (nan_fin HV0.out.2)
  have R1 := Lib.hid (R0.out.step hb1)
  have HB1 := Lib.hid hb1
  have HL1 := Lib.hid h1.2
  clear hb1 R0 H1 h1
  refine (HAB.out _ R1.out).mono ?_
  rintro e w2 ⟨u, rfl, ho, hb2⟩
  have R2 := Lib.hid (R1.out.step hb2)
  have HB2 := Lib.hid (HB1.out.trans (hb2.mono HB1.out.size))
  have RU := Lib.hid ho.rd
  clear hb2 ho R1 HB1 HAB
  obtain ⟨A2, c2, eu, u1, u2, u3⟩ := id RU.out
  rw [fl_len, mapK_len] at eu u1 u3
  subst eu
  have HU := Lib.hid u3
  clear u3
  go_wp2_with fail
  go_loopw [7, 8, 26] (BlRelI w2 xs a) (fun _ _ i _ => xs.length - (intOf i).toNat)
  case atStart => exact ⟨0, Nat.zero_le _, rfl, rfl, rfl, fun i hi => by omega, HV0.out.2, HL1.out, Below.refl _ _⟩
  case round =>
    obtain ⟨k, hk, rfl, rfl, rfl, hto, hfk, hlk, hbr⟩ := hrel
    have HTO := Lib.hid hto
    have HFK := Lib.hid hfk
    have HLK := Lib.hid hlk
    have HBR := Lib.hid hbr
    clear hto hfk hlk hbr
    by_cases hlt : k < xs.length
    · obtain ⟨b, off, rfl, hbl, hcc⟩ := HU.out (by omega)
      obtain ⟨y, hy⟩ : ∃ y, xs[k] % 2 ^ 31 = y := ⟨_, rfl⟩
      have hy2 : xs.getD k 0 % 2 ^ 31 = y := by rw [← hy]; simp [hlt]
      have h1 : wr.cell? ⟨b, off + k, none⟩ = some (.float .f32 y) := (HBR.out.cell (p := ⟨b, off + k, none⟩) hbl).trans (hcc k _ (by rw [← hy2]; unfold fl; rw [List.getElem?_map, mapK_get _ _ _ _ hlt]; rfl))
      have hbw : b < wr.heap.size := by have := HBR.out.size; omega
      have hfx := finA_out hfin k hlt
      have HY := Lib.hid hy2
      have hly : y < 2 ^ 32 := by rw [← hy]; exact abs_lt _
      have hsy : lsB y = true := by rw [← hy]; exact ls_abs hfx
      have R3 := Lib.hid (R2.out.step HBR.out)
      have HFY := Lib.hid (HF.out y hly wr R3.out)
      have HRF := Lib.hid (show rkFin xs a k = finB .f32 (rkX xs a y) by unfold rkFin; rw [hy2])
      have HRB := Lib.hid (HRG.out y hsy)
      clear hcc hfx hy hy2 hly hsy HF HRG
      cases hf : finB .f32 (rkX xs a y) with
      | false =>
        have HF1 := Lib.hid (HRB.out.trans hf)
        have HG0 := Lib.hid (show blG xs a = false by rw [HG.out, blA_no hlt (HRF.out.trans hf)])
        clear hf
        go_wp2_with (go_at_call 29; refine HFY.out.mono ?_; rintro e w3 ⟨r3, rfl, h3, hb3⟩; rw [HF1.out])
        go_ret3
        exact retB2_bl HG0.out (HB2.out.trans ((HBR.out.trans (hb3.mono HBR.out.size)).mono HB2.out.size))
      | true =>
        have HF1 := Lib.hid (HRB.out.trans hf)
        have HV1 := Lib.hid (rkV_yes HF1.out)
        obtain ⟨r, hr⟩ : ∃ r, rkX xs a y = r := ⟨_, rfl⟩
        have HR := Lib.hid hr
        have HFR := Lib.hid (show finB .f32 r = true by rw [← hr]; exact hf)
        clear hf hr
        obtain ⟨z, hz⟩ : ∃ z, (blK xs a k).2 = z := ⟨_, rfl⟩
        have HZ2 := Lib.hid hz
        rw [hz]
        clear hz
        cases hg : lt32 r z
        all_goals
          have hg' : (FloatKind.f32.format.order r z == some .lt) = _ := hg
          have HGG := Lib.hid hg
          clear hg
          go_wp2_with (go_at_call 29; refine HFY.out.mono ?_; rintro e w3 ⟨r3, rfl, h3, hb3⟩; (rw [HV1.out.1, HR.out] at h3); (have h3e := is_eq h3 (nan_fin HFR.out)); subst h3e; rw [HF1.out])
          go_roundw
          case rel =>
            first
              | exact ⟨k + 1, by omega, by go_num, by rw [blK_yes HY.out (by rw [HR.out, HZ2.out]; exact HGG.out)], by rw [blK_yes HY.out (by rw [HR.out, HZ2.out]; exact HGG.out), HR.out], blTo_succ HTO.out (HRF.out.trans (by rw [HR.out]; exact HFR.out)), by rw [blK_yes HY.out (by rw [HR.out, HZ2.out]; exact HGG.out)]; rw [HR.out]; exact HFR.out, by rw [blK_yes HY.out (by rw [HR.out, HZ2.out]; exact HGG.out)]; rw [HR.out]; exact h3.2, HBR.out.trans (hb3.mono HBR.out.size)⟩
              | exact ⟨k + 1, by omega, by go_num, by rw [blK_non HY.out (by rw [HR.out, HZ2.out]; exact HGG.out)], by rw [blK_non HY.out (by rw [HR.out, HZ2.out]; exact HGG.out), HZ2.out], blTo_succ HTO.out (HRF.out.trans (by rw [HR.out]; exact HFR.out)), by rw [blK_non HY.out (by rw [HR.out, HZ2.out]; exact HGG.out)]; exact HFK.out, by rw [blK_non HY.out (by rw [HR.out, HZ2.out]; exact HGG.out)]; exact HLK.out, HBR.out.trans (hb3.mono HBR.out.size)⟩
          case measure => simp [intOf]; omega
    · obtain rfl : k = xs.length := by omega
      have HG1 := Lib.hid (show blG xs a = true by rw [HG.out, blA_yes HTO.out])
      go_wp2_with fail
      go_ret3
      rw [(bl_yes HG1.out).1, (bl_yes HG1.out).2, HG1.out]
      exact ⟨_, _, rfl, is_fin2 (blK_fst_lt _ _ _) (blK_fst_fin a hfin _ (Nat.le_refl _)), is_fin2 HLK.out HFK.out, HB2.out.trans (HBR.out.mono HB2.out.size)⟩
theorem blI_any (v : Value) (xs : List Nat) (a : Nat) (w : World) (hv : Rd w w.heap.size v (fl xs)) (hm : xs.length ≤ 1048576) (hx : ∀ x ∈ xs, x < 2 ^ 32) (ha : a < 2 ^ 32) : Calls Try.prog 31 #[v, .float .f32 a] w (RetB2 (bl1 xs a) (bl2 xs a) (blG xs a) w) := by
  cases h0 : rkB xs a 0 with
  | false => exact blI_no v xs a w hv hm hx ha h0
  | true => exact blI_ok v xs a w hv hm hx ha h0
set_option maxRecDepth 100000 in
set_option maxHeartbeats 1000000 in
theorem blS_no (v : Value) (xs : List Nat) (a : Nat) (w : World) (hv : Rd w w.heap.size v (fl xs)) (hm : xs.length ≤ 1048576) (hx : ∀ x ∈ xs, x < 2 ^ 32) (ha : a < 2 ^ 32) (hno : (isL xs && psB a) = false) :
    Calls Try.prog 30 #[v, .float .f32 a] w (RetB2 (bl1 xs a) (bl2 xs a) (blG xs a) w) := by
  obtain ⟨Av, cv, ev, _, _, _⟩ := id hv
  rw [fl_len] at ev
  subst ev
  have hB0 : Below w.heap.size w w := Below.refl _ _
  have R0v := Lib.hid (show Rd w w.heap.size (.slice Av xs.length cv) (fl xs) from hv)
  have HX := Lib.hid hx
  clear hx
  have HNO := Lib.hid hno
  clear hno
  clear hv
  cases t1 : isL xs with
  | false =>
    have T1 := Lib.hid t1
    have HG := Lib.hid (show blG xs a = false by (unfold blG; rw [t1]; first | done | rfl | simp))
    clear t1
    go_enter Try.func30, Try.ntmps30
    go_wp2_with (first | (go_at_call 52; refine (lngS_any (.slice Av xs.length cv) xs w _ R0v.out hm HX.out).mono ?_; rintro e w1 ⟨rfl, n1, hw1⟩; have hb1 : Below w.heap.size w w1 := (by rw [hw1]; exact below_drawn (Below.refl _ _) _); have R1v := Lib.hid (show Rd w1 w1.heap.size (.slice Av xs.length cv) (fl xs) from R0v.out.step hb1); have hB1 : Below w.heap.size w w1 := hB0.trans (hb1.mono hB0.size); clear hw1 hb1; rw [T1.out]))
    go_ret3
    exact retB2_bl HG.out hB1
  | true =>
    cases t2 : psB a with
    | false =>
      have T1 := Lib.hid t1
      have T2 := Lib.hid t2
      have HG := Lib.hid (show blG xs a = false by (unfold blG; rw [t1, t2]; first | done | rfl | simp))
      clear t1 t2
      go_enter Try.func30, Try.ntmps30
      go_wp2_with (first | (go_at_call 52; refine (lngS_any (.slice Av xs.length cv) xs w _ R0v.out hm HX.out).mono ?_; rintro e w1 ⟨rfl, n1, hw1⟩; have hb1 : Below w.heap.size w w1 := (by rw [hw1]; exact below_drawn (Below.refl _ _) _); have R1v := Lib.hid (show Rd w1 w1.heap.size (.slice Av xs.length cv) (fl xs) from R0v.out.step hb1); have hB1 : Below w.heap.size w w1 := hB0.trans (hb1.mono hB0.size); clear hw1 hb1; rw [T1.out]) | (go_at_call 64; refine (psS_any a w1 ha).mono ?_; rintro e w2 ⟨rfl, n2, hw2⟩; have hb2 : Below w1.heap.size w1 w2 := (by rw [hw2]; exact below_drawn (Below.refl _ _) _); have R2v := Lib.hid (show Rd w2 w2.heap.size (.slice Av xs.length cv) (fl xs) from R1v.out.step hb2); have hB2 : Below w.heap.size w w2 := hB1.trans (hb2.mono hB1.size); clear hw2 hb2; rw [T2.out]))
      go_ret3
      exact retB2_bl HG.out hB2
    | true =>
      have T1 := Lib.hid t1
      have T2 := Lib.hid t2
      have HG := Lib.hid (show (isL xs && psB a) = true by rw [t1, t2]; rfl)
      exact absurd HG.out (by rw [HNO.out]; simp)
theorem blS_any (v : Value) (xs : List Nat) (a : Nat) (w : World) (hv : Rd w w.heap.size v (fl xs)) (hm : xs.length ≤ 1048576) (hx : ∀ x ∈ xs, x < 2 ^ 32) (ha : a < 2 ^ 32) : Calls Try.prog 30 #[v, .float .f32 a] w (RetB2 (bl1 xs a) (bl2 xs a) (blG xs a) w) := by
  cases h0 : (isL xs && psB a) with
  | false => exact blS_no v xs a w hv hm hx ha h0
  | true =>
    rw [Bool.and_eq_true] at h0
    exact blS_ok v xs a w hv hm hx ha h0.1 h0.2
end Go.Proofs.Ytpckljkhmaghmaa
