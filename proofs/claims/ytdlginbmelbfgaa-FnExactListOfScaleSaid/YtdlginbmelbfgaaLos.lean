/-
  Contracts: ListOfScale of both sides.
-/
import Derived.Test.YtdlginbmelbfgaaLst
import Derived.Test.YtdlginbmelbfgaaFloSc
namespace Go.Proofs.Ytdlginbmelbfgaa
open Go.RowKit Fl
set_option linter.unusedVariables false

theorem shS_any (h : Nat) (w : World) : Calls Try.prog 79 #[.float .f32 h] w (RetBo (shB h) w) := by
  cases g1 : geB' h 0 with
  | false =>
    have HN := Lib.hid (show shB h = false by unfold shB; rw [g1]; rfl)
    have g2 : (FloatKind.f32.format.order h 0 == some .gt || FloatKind.f32.format.order h 0 == some .eq) = false := g1
    clear g1
    go_enter Try.func79, Try.ntmps79
    go_wp2_with fail
    go_ret
    exact ⟨by rw [HN.out]; rfl, 0, rfl⟩
  | true =>
    have g2 : (FloatKind.f32.format.order h 0 == some .gt || FloatKind.f32.format.order h 0 == some .eq) = true := g1
    have HN := Lib.hid (show shB h = (FloatKind.f32.format.order h 1065353216 == some .lt || FloatKind.f32.format.order h 1065353216 == some .eq) by unfold shB; rw [g1]; rfl)
    clear g1
    go_enter Try.func79, Try.ntmps79
    go_wp2_with fail
    go_ret
    exact ⟨by rw [HN.out]; rfl, 0, rfl⟩
set_option maxHeartbeats 1000000 in
theorem usS_any (n : Int) (s h : Nat) (w : World) (hs : psB s = true) (hh : shB h = true) (hsl : s < 2 ^ 32) (hhl : h < 2 ^ 32) (h1 : -1000000 ≤ n) (h2 : n ≤ 1000000) :
    Calls Try.prog 80 #[.int .i64 n, .float .f32 s, .float .f32 h] w (RetX (usF n s h) w) := by
  by_cases hp : 0 < n
  · obtain ⟨u1, u2⟩ := us_add (n := n) hs hh
    rw [show usF n s h = ar .mul .f32 s (ar .add .f32 (floatOfInt .f32 n) h) by unfold usF; rw [if_pos hp]]
    obtain ⟨q, hq⟩ : ∃ q, floatOfInt .f32 n = q := ⟨_, rfl⟩
    rw [hq] at u1 u2 ⊢
    have H1 := Lib.hid u1
    have H2 := Lib.hid u2
    clear u1 u2 hs hh
    go_enter Try.func80, Try.ntmps80
    go_wp2_with (first | (refine up_ar rfl ?_; intro r n hr; have e := is_eq hr H1.out; clear hr; subst e) | (refine up_ar rfl ?_; intro r n hr; have e := is_eq hr H2.out; clear hr; subst e))
    go_ret
    exact ⟨rfl, _, rfl⟩
  · by_cases hm : n < 0
    · obtain ⟨u1, u2⟩ := us_sub (n := n) hs hh
      rw [show usF n s h = ar .mul .f32 s (ar .sub .f32 (floatOfInt .f32 n) h) by unfold usF; rw [if_neg hp, if_pos hm]]
      obtain ⟨q, hq⟩ : ∃ q, floatOfInt .f32 n = q := ⟨_, rfl⟩
      rw [hq] at u1 u2 ⊢
      have H1 := Lib.hid u1
      have H2 := Lib.hid u2
      clear u1 u2 hs hh hp
      go_enter Try.func80, Try.ntmps80
      go_wp2_with (first | (refine up_ar rfl ?_; intro r n hr; have e := is_eq hr H1.out; clear hr; subst e) | (refine up_ar rfl ?_; intro r n hr; have e := is_eq hr H2.out; clear hr; subst e))
      go_ret
      exact ⟨rfl, _, rfl⟩
    · obtain rfl : n = 0 := by omega
      rw [show usF 0 s h = 0 by unfold usF; rw [if_neg (by omega), if_neg (by omega)]]
      clear hp hm
      go_enter Try.func80, Try.ntmps80
      go_wp2_with fail
      go_ret
      exact ⟨rfl, 0, rfl⟩
set_option maxHeartbeats 1000000 in
theorem usI_any (n : Int) (s h : Nat) (w : World) (hs : psB s = true) (hh : shB h = true) (hsl : s < 2 ^ 32) (hhl : h < 2 ^ 32) (h1 : -1000000 ≤ n) (h2 : n ≤ 1000000) :
    Calls Try.prog 82 #[.int .i64 n, .float .f32 s, .float .f32 h] w (RetX (usF n s h) w) := by
  by_cases hp : 0 < n
  · obtain ⟨u1, u2⟩ := us_add (n := n) hs hh
    rw [show usF n s h = ar .mul .f32 s (ar .add .f32 (floatOfInt .f32 n) h) by unfold usF; rw [if_pos hp]]
    obtain ⟨q, hq⟩ : ∃ q, floatOfInt .f32 n = q := ⟨_, rfl⟩
    rw [hq] at u1 u2 ⊢
    have H1 := Lib.hid u1
    have H2 := Lib.hid u2
    clear u1 u2 hs hh
    go_enter Try.func82, Try.ntmps82
    go_wp2_with (first | (refine up_ar rfl ?_; intro r n hr; have e := is_eq hr H1.out; clear hr; subst e) | (refine up_ar rfl ?_; intro r n hr; have e := is_eq hr H2.out; clear hr; subst e))
    go_ret
    exact ⟨rfl, _, rfl⟩
  · by_cases hm : n < 0
    · obtain ⟨u1, u2⟩ := us_sub (n := n) hs hh
      rw [show usF n s h = ar .mul .f32 s (ar .sub .f32 (floatOfInt .f32 n) h) by unfold usF; rw [if_neg hp, if_pos hm]]
      obtain ⟨q, hq⟩ : ∃ q, floatOfInt .f32 n = q := ⟨_, rfl⟩
      rw [hq] at u1 u2 ⊢
      have H1 := Lib.hid u1
      have H2 := Lib.hid u2
      clear u1 u2 hs hh hp
      go_enter Try.func82, Try.ntmps82
      go_wp2_with (first | (refine up_ar rfl ?_; intro r n hr; have e := is_eq hr H1.out; clear hr; subst e) | (refine up_ar rfl ?_; intro r n hr; have e := is_eq hr H2.out; clear hr; subst e))
      go_ret
      exact ⟨rfl, _, rfl⟩
    · obtain rfl : n = 0 := by omega
      rw [show usF 0 s h = 0 by unfold usF; rw [if_neg (by omega), if_neg (by omega)]]
      clear hp hm
      go_enter Try.func82, Try.ntmps82
      go_wp2_with fail
      go_ret
      exact ⟨rfl, 0, rfl⟩
def usK (xs : List Int) (s h : Nat) (k : Nat) : List Nat := (List.range k).map fun i => usF (xs.getD i 0) s h
theorem usK_succ (xs : List Int) (s h k : Nat) (hk : k < xs.length) : usK xs s h (k + 1) = usK xs s h k ++ [usF xs[k] s h] := by
  unfold usK
  rw [List.range_succ, List.map_append]
  simp [List.getD, List.getElem?_eq_getElem hk]
theorem usK_len (xs : List Int) (s h k : Nat) : (usK xs s h k).length = k := by simp [usK]
theorem usK_lt (xs : List Int) (s h k : Nat) : ∀ x ∈ usK xs s h k, x < 2 ^ 32 := by
  intro x hx
  obtain ⟨i, _, rfl⟩ := List.mem_map.1 hx
  exact usF_lt _ _ _
def LsRel (w0 : World) (xs : List Int) (s h : Nat) (v i : Value) (wr : World) : Prop := ∃ j : Nat, j ≤ xs.length ∧ i = .int .i64 j ∧ RowF w0 v (usK xs s h j) wr
/-- A list if its numbers are finite. -/
def RetIf (v : Value) (b : Bool) (w : World) (e : Ending) (w' : World) : Prop := e = .returned (.tuple #[if b then v else .slice none 0 0, .bool b]) ∧ ∃ n, w' = w.drewN n
theorem liS2_any (v : Value) (L : List Nat) (w : World) (B : Nat) (h : Rd w B v (fl L)) (hm : L.length ≤ 1048576) (hx : ∀ x ∈ L, x < 2 ^ 32) :
    Calls Try.prog 81 #[v] w (RetIf v (finA L) w) := by
  have HF := Lib.hid (finS_any v L w B h hm hx)
  obtain ⟨A, c, hv, _, _, _⟩ := h
  rw [fl_len] at hv
  subst hv
  cases hf : finA L
  all_goals
    have HT := Lib.hid hf
    clear hf
    go_enter Try.func81, Try.ntmps81
    go_wp2_with (go_at_call 92; refine HF.out.mono ?_; rintro e w' ⟨rfl, n, rfl⟩; rw [HT.out])
    go_ret2
    exact ⟨rfl, _, rfl⟩
theorem liI2_any (v : Value) (L : List Nat) (w : World) (B : Nat) (h : Rd w B v (fl L)) (hm : L.length ≤ 1048576) (hx : ∀ x ∈ L, x < 2 ^ 32) :
    Calls Try.prog 83 #[v] w (RetIf v (finA L) w) := by
  have HF := Lib.hid (finI_any v L w B h hm hx)
  obtain ⟨A, c, hv, _, _, _⟩ := h
  rw [fl_len] at hv
  subst hv
  cases hf : finA L
  all_goals
    have HT := Lib.hid hf
    clear hf
    go_enter Try.func83, Try.ntmps83
    go_wp2_with (go_at_call 95; refine HF.out.mono ?_; rintro e w' ⟨rfl, n, rfl⟩; rw [HT.out])
    go_ret2
    exact ⟨rfl, _, rfl⟩
def loG (xs : List Int) (s h : Nat) : Bool := areB xs && psB s && shB h
def loB (xs : List Int) (s h : Nat) : Bool := loG xs s h && finA (usK xs s h xs.length)
def loV (xs : List Int) (s h : Nat) : List Nat := if loB xs s h then usK xs s h xs.length else []
theorem loG_out {xs : List Int} {s h : Nat} (hg : loG xs s h = true) : areB xs = true ∧ psB s = true ∧ shB h = true := by unfold loG at hg; simp at hg; exact ⟨hg.1.1, hg.1.2, hg.2⟩
theorem loB_no {xs : List Int} {s h : Nat} (hg : loG xs s h = false) : loB xs s h = false := by unfold loB; rw [hg]; rfl
theorem loV_no {xs : List Int} {s h : Nat} (hg : loB xs s h = false) : loV xs s h = [] := by unfold loV; rw [if_neg (by rw [hg]; simp)]
theorem loV_yes {xs : List Int} {s h : Nat} (hg : loB xs s h = true) : loV xs s h = usK xs s h xs.length := by unfold loV; rw [if_pos hg]
theorem loV_len (xs : List Int) (s h : Nat) : (loV xs s h).length ≤ 1048576 := by
  cases hg : loB xs s h with
  | false => rw [loV_no hg]; simp
  | true =>
    rw [loV_yes hg, usK_len]
    have : loG xs s h = true := by unfold loB at hg; rw [Bool.and_eq_true] at hg; exact hg.1
    have := (areB_len (loG_out this).1).2.1
    omega
set_option maxRecDepth 100000 in
set_option maxHeartbeats 4000000 in
theorem losS_any (v : Value) (xs : List Int) (s h : Nat) (w : World) (hr : Rd w w.heap.size v (il xs)) (hm : xs.length ≤ 1048576) (hsl : s < 2 ^ 32) (hhl : h < 2 ^ 32) :
    Calls Try.prog 48 #[v, .float .f32 s, .float .f32 h] w (RetLF (loV xs s h) (loB xs s h) w) := by
  obtain ⟨i0, hi, hz0, hz1, hz2⟩ := info_parts infoF
  have HA := Lib.hid (areS_any v xs w _ hr hm)
  have HP := Lib.hid (fun w' => psS_any s w' hsl)
  obtain ⟨A0, c, hv, hc1, hc2, hcell⟩ := hr
  rw [il_len] at hv hc1 hcell
  subst hv
  have HC := Lib.hid hcell
  clear hcell
  cases t1 : areB xs with
  | false =>
    have hb := loB_no (show loG xs s h = false by unfold loG; rw [t1]; rfl)
    rw [loV_no hb, hb]
    have T1 := Lib.hid t1
    clear t1 hb
    go_enter Try.func48, Try.ntmps48
    go_wp2_with (first | (go_at_call 63; refine HA.out.mono ?_; rintro e w' ⟨rfl, rfl⟩; rw [T1.out]))
    go_ret2
    exact retLFn (Below.refl _ _)
  | true =>
    cases t2 : psB s with
    | false =>
      have hb := loB_no (show loG xs s h = false by unfold loG; rw [t1, t2]; rfl)
      rw [loV_no hb, hb]
      have T1 := Lib.hid t1
      have T2 := Lib.hid t2
      clear t1 t2 hb
      go_enter Try.func48, Try.ntmps48
      go_wp2_with (first | (go_at_call 63; refine HA.out.mono ?_; rintro e w' ⟨rfl, rfl⟩; rw [T1.out]) | (go_at_call 74; refine (HP.out _).mono ?_; rintro e w' ⟨rfl, n1, rfl⟩; rw [T2.out]))
      go_ret2
      exact retLFn (below_drawn (Below.refl _ _) _)
    | true =>
      cases t3 : shB h with
      | false =>
        have hb := loB_no (show loG xs s h = false by unfold loG; rw [t1, t2, t3]; rfl)
        rw [loV_no hb, hb]
        have T1 := Lib.hid t1
        have T2 := Lib.hid t2
        have T3 := Lib.hid t3
        clear t1 t2 t3 hb
        go_enter Try.func48, Try.ntmps48
        go_wp2_with (first | (go_at_call 63; refine HA.out.mono ?_; rintro e w' ⟨rfl, rfl⟩; rw [T1.out]) | (go_at_call 74; refine (HP.out _).mono ?_; rintro e w' ⟨rfl, n1, rfl⟩; rw [T2.out]) | (go_at_call 79; refine (shS_any h _).mono ?_; rintro e w' ⟨rfl, n2, rfl⟩; rw [T3.out]))
        go_ret2
        exact retLFn (by first | exact Below.refl _ _ | exact below_drawn (Below.refl _ _) _ | exact below_drawn (below_drawn (Below.refl _ _) _) _)
      | true =>
        skip
        obtain ⟨hl1, hl2, hw⟩ := areB_len t1
        have HW := Lib.hid hw
        have HU := Lib.hid (fun n w' (h1 : -1000000 ≤ n) (h2 : n ≤ 1000000) => usS_any n s h w' t2 t3 hsl hhl h1 h2)
        have HB := Lib.hid (show loB xs s h = finA (usK xs s h xs.length) by unfold loB loG; rw [t1, t2, t3]; rfl)
        have T1 := Lib.hid t1
        have T2 := Lib.hid t2
        have T3 := Lib.hid t3
        clear t1 t2 t3 hw
        go_enter Try.func48, Try.ntmps48
        go_wp2_with (first | (go_at_call 63; refine HA.out.mono ?_; rintro e w' ⟨rfl, rfl⟩; rw [T1.out]) | (go_at_call 74; refine (HP.out _).mono ?_; rintro e w' ⟨rfl, n1, rfl⟩; rw [T2.out]) | (go_at_call 79; refine (shS_any h _).mono ?_; rintro e w' ⟨rfl, n2, rfl⟩; rw [T3.out]))
        go_loopw [8, 9] (LsRel w xs s h) (fun _ i _ => xs.length - (intOf i).toNat)
        case atStart => exact ⟨0, Nat.zero_le _, rfl, RowF.litD w _⟩
        case round =>
          skip
          obtain ⟨j, hj, rfl, hrr⟩ := hrel
          have HR := Lib.hid hrr
          clear hrr
          by_cases hlt : j < xs.length
          · obtain ⟨b, off, rfl, hbl, hcc⟩ := HC.out (by omega)
            have hsrc : wr.cell? ⟨b, off + j, none⟩ = some (.int .i64 xs[j]) := (HR.out.2.cell (p := ⟨b, off + j, none⟩) hbl).trans (hcc j _ (il_get xs j hlt))
            clear hcc HC
            obtain ⟨x0, x1⟩ := withB_out HW.out j hlt
            have HZ := Lib.hid (fun w' => HU.out xs[j] w' x0 x1)
            have HS := Lib.hid (usK_succ xs s h j hlt)
            have HN := Lib.hid (show (usK xs s h j).length ≤ 128 by rw [usK_len]; omega)
            clear HU
            generalize xs[j] = x at *
            generalize usF x s h = y at *
            generalize usK xs s h j = L at *
            go_wp2_with (first | (go_at_call 80; refine (HZ.out _).mono ?_; rintro e w' ⟨rfl, n3, rfl⟩) | (first | (at_builtin; refine wpList_append_own _ rfl _ _ 52 rfl w.heap.size 53 i0 (.float .f32 0) 1 4 Try.underlying52 hi hz0 hz1 hz2 rfl (by decide) _ _ _ rfl (HR.out.1.alloc _) ⟨wr.heap.size, 0, none⟩ 1 1 [.float .f32 y] rfl rfl (one_newF _ _ _) (cellsF [y]) (by unfold maxLen; have := HN.out; omega) (by have := HN.out; omega) (by simp; have := HR.out.2.size; omega) ?_; intro v' w1 hown' hgrow _) | (at_builtin; refine wpList_append_own _ rfl _ _ 52 rfl w.heap.size 53 i0 (.float .f32 0) 1 4 Try.underlying52 hi hz0 hz1 hz2 rfl (by decide) _ _ _ rfl ((rowDrewF HR.out.1 _).alloc _) ⟨wr.heap.size, 0, none⟩ 1 1 [.float .f32 y] rfl rfl (one_newF _ _ _) (cellsF [y]) (by unfold maxLen; have := HN.out; omega) (by have := HN.out; omega) (by simp; have := HR.out.2.size; omega) ?_; intro v' w1 hown' hgrow _)))
            have HR2 := Lib.hid (show RowF w v' (L ++ [y]) w1 from RowF.push hown' (by first | exact HR.out.2.alloc HR.out.2.size _ | exact (below_drawn HR.out.2 _).alloc HR.out.2.size _) hgrow (fun j hj => (HR.out.1.lt j hj).1))
            clear hown' hgrow
            go_wp2
            go_roundw
            case rel => exact ⟨j + 1, by omega, by go_num, by rw [HS.out]; exact HR2.out⟩
            case measure => simp [intOf]; omega
          · obtain rfl : j = xs.length := by omega
            have HX := Lib.hid (usK_lt xs s h xs.length)
            have HN := Lib.hid (show (usK xs s h xs.length).length ≤ 1048576 by rw [usK_len]; omega)
            have HO := Lib.hid HR.out.own
            have HD := Lib.hid HR.out.2
            clear HU HR
            cases hf : finA (usK xs s h xs.length)
            · have hb : loB xs s h = false := by rw [HB.out, hf]
              have HBB := Lib.hid hb
              have HF := Lib.hid hf
              clear hf hb HB
              obtain ⟨L, hL⟩ : ∃ L, usK xs s h xs.length = L := ⟨_, rfl⟩
              rw [hL] at HX HN HO HF
              have HL := Lib.hid hL
              clear hL
              go_wp2_with (go_at_call 81; refine (liS2_any _ L _ _ HO.out.rd HN.out HX.out).mono ?_; rintro e w9 ⟨rfl, n9, rfl⟩; rw [HF.out])
              go_ret2
              rw [loV_no HBB.out, HBB.out]
              exact retLFn (below_drawn HD.out _)
            · have hb : loB xs s h = true := by rw [HB.out, hf]
              have HBB := Lib.hid hb
              have HF := Lib.hid hf
              clear hf hb HB
              obtain ⟨L, hL⟩ : ∃ L, usK xs s h xs.length = L := ⟨_, rfl⟩
              rw [hL] at HX HN HO HF
              have HL := Lib.hid hL
              clear hL
              go_wp2_with (go_at_call 81; refine (liS2_any _ L _ _ HO.out.rd HN.out HX.out).mono ?_; rintro e w9 ⟨rfl, n9, rfl⟩; rw [HF.out])
              go_ret2
              rw [loV_yes HBB.out, HBB.out, HL.out]
              exact ⟨_, rfl, HO.out.drewN _, below_drawn HD.out _⟩
set_option maxRecDepth 100000 in
set_option maxHeartbeats 4000000 in
theorem losI_any (v : Value) (xs : List Int) (s h : Nat) (w : World) (hr : Rd w w.heap.size v (il xs)) (hm : xs.length ≤ 1048576) (hsl : s < 2 ^ 32) (hhl : h < 2 ^ 32) :
    Calls Try.prog 49 #[v, .float .f32 s, .float .f32 h] w (RetLF (loV xs s h) (loB xs s h) w) := by
  obtain ⟨i0, hi, hz0, hz1, hz2⟩ := info_parts infoF
  have HA := Lib.hid (areI_any v xs w _ hr hm)
  have HP := Lib.hid (fun w' => psI_any s w' hsl)
  obtain ⟨A0, c, hv, hc1, hc2, hcell⟩ := hr
  rw [il_len] at hv hc1 hcell
  subst hv
  have HC := Lib.hid hcell
  clear hcell
  cases t1 : areB xs with
  | false =>
    have hb := loB_no (show loG xs s h = false by unfold loG; rw [t1]; rfl)
    rw [loV_no hb, hb]
    have T1 := Lib.hid t1
    clear t1 hb
    go_enter Try.func49, Try.ntmps49
    go_wp2_with (first | (go_at_call 61; refine HA.out.mono ?_; rintro e w' ⟨rfl, rfl⟩; rw [T1.out]))
    go_ret2
    exact retLFn (Below.refl _ _)
  | true =>
    cases t2 : psB s with
    | false =>
      have hb := loB_no (show loG xs s h = false by unfold loG; rw [t1, t2]; rfl)
      rw [loV_no hb, hb]
      have T1 := Lib.hid t1
      have T2 := Lib.hid t2
      clear t1 t2 hb
      go_enter Try.func49, Try.ntmps49
      go_wp2_with (first | (go_at_call 61; refine HA.out.mono ?_; rintro e w' ⟨rfl, rfl⟩; rw [T1.out]) | (go_at_call 76; refine (HP.out _).mono ?_; rintro e w' ⟨rfl, n1, rfl⟩; rw [T2.out]))
      go_ret2
      exact retLFn (below_drawn (Below.refl _ _) _)
    | true =>
      cases g1 : geB' h 0 with
      | false =>
        have t3 : shB h = false := by unfold shB; rw [g1]; rfl
        have g1' : (FloatKind.f32.format.order h 0 == some .gt || FloatKind.f32.format.order h 0 == some .eq) = false := g1
        have hb := loB_no (show loG xs s h = false by unfold loG; rw [t1, t2, t3]; rfl)
        rw [loV_no hb, hb]
        have T1 := Lib.hid t1
        have T2 := Lib.hid t2
        have T3 := Lib.hid t3
        clear t1 t2 t3 hb
        clear g1
        go_enter Try.func49, Try.ntmps49
        go_wp2_with (first | (go_at_call 61; refine HA.out.mono ?_; rintro e w' ⟨rfl, rfl⟩; rw [T1.out]) | (go_at_call 76; refine (HP.out _).mono ?_; rintro e w' ⟨rfl, n1, rfl⟩; rw [T2.out]))
        go_ret2
        exact retLFn (by first | exact Below.refl _ _ | exact below_drawn (Below.refl _ _) _ | exact below_drawn (below_drawn (Below.refl _ _) _) _)
      | true =>
       have g1' : (FloatKind.f32.format.order h 0 == some .gt || FloatKind.f32.format.order h 0 == some .eq) = true := g1
       cases g2 : leB h 1065353216 with
       | false =>
        have t3 : shB h = false := by unfold shB; rw [g1, g2]; rfl
        have g2' : (FloatKind.f32.format.order h 1065353216 == some .lt || FloatKind.f32.format.order h 1065353216 == some .eq) = false := g2
        have hb := loB_no (show loG xs s h = false by unfold loG; rw [t1, t2, t3]; rfl)
        rw [loV_no hb, hb]
        have T1 := Lib.hid t1
        have T2 := Lib.hid t2
        have T3 := Lib.hid t3
        clear t1 t2 t3 hb
        clear g1 g2
        go_enter Try.func49, Try.ntmps49
        go_wp2_with (first | (go_at_call 61; refine HA.out.mono ?_; rintro e w' ⟨rfl, rfl⟩; rw [T1.out]) | (go_at_call 76; refine (HP.out _).mono ?_; rintro e w' ⟨rfl, n1, rfl⟩; rw [T2.out]))
        go_ret2
        exact retLFn (by first | exact Below.refl _ _ | exact below_drawn (Below.refl _ _) _ | exact below_drawn (below_drawn (Below.refl _ _) _) _)
       | true =>
        have t3 : shB h = true := by unfold shB; rw [g1, g2]; rfl
        have g2' : (FloatKind.f32.format.order h 1065353216 == some .lt || FloatKind.f32.format.order h 1065353216 == some .eq) = true := g2
        clear g1 g2
        obtain ⟨hl1, hl2, hw⟩ := areB_len t1
        have HW := Lib.hid hw
        have HU := Lib.hid (fun n w' (h1 : -1000000 ≤ n) (h2 : n ≤ 1000000) => usI_any n s h w' t2 t3 hsl hhl h1 h2)
        have HB := Lib.hid (show loB xs s h = finA (usK xs s h xs.length) by unfold loB loG; rw [t1, t2, t3]; rfl)
        have T1 := Lib.hid t1
        have T2 := Lib.hid t2
        have T3 := Lib.hid t3
        clear t1 t2 t3 hw
        go_enter Try.func49, Try.ntmps49
        go_wp2_with (first | (go_at_call 61; refine HA.out.mono ?_; rintro e w' ⟨rfl, rfl⟩; rw [T1.out]) | (go_at_call 76; refine (HP.out _).mono ?_; rintro e w' ⟨rfl, n1, rfl⟩; rw [T2.out]) | (at_make; refine wpList_make_own _ rfl _ _ 52 rfl w.heap.size 53 i0 (.float .f32 0) 1 Try.underlying52 hi hz0 hz1 .i64 .i64 _ xs.length rfl rfl (by omega) (by rw [hz2]; omega) (by unfold maxLen; omega) (Nat.le_refl _) ?_; intro w1 hown hgrow))
        go_loopw [8, 33] (LsRel w xs s h) (fun _ i _ => xs.length - (intOf i).toNat)
        case atStart => exact ⟨0, Nat.zero_le _, rfl, RowF.madeD hown hgrow⟩
        case round =>
          clear hown hgrow
          obtain ⟨j, hj, rfl, hrr⟩ := hrel
          have HR := Lib.hid hrr
          clear hrr
          by_cases hlt : j < xs.length
          · obtain ⟨b, off, rfl, hbl, hcc⟩ := HC.out (by omega)
            have hsrc : wr.cell? ⟨b, off + j, none⟩ = some (.int .i64 xs[j]) := (HR.out.2.cell (p := ⟨b, off + j, none⟩) hbl).trans (hcc j _ (il_get xs j hlt))
            clear hcc HC
            obtain ⟨x0, x1⟩ := withB_out HW.out j hlt
            have HZ := Lib.hid (fun w' => HU.out xs[j] w' x0 x1)
            have HS := Lib.hid (usK_succ xs s h j hlt)
            have HN := Lib.hid (show (usK xs s h j).length ≤ 128 by rw [usK_len]; omega)
            clear HU
            generalize xs[j] = x at *
            generalize usF x s h = y at *
            generalize usK xs s h j = L at *
            go_wp2_with (first | (go_at_call 82; refine (HZ.out _).mono ?_; rintro e w' ⟨rfl, n3, rfl⟩) | (first | (at_builtin; refine wpList_append_own _ rfl _ _ 52 rfl w.heap.size 53 i0 (.float .f32 0) 1 4 Try.underlying52 hi hz0 hz1 hz2 rfl (by decide) _ _ _ rfl (HR.out.1.alloc _) ⟨wr.heap.size, 0, none⟩ 1 1 [.float .f32 y] rfl rfl (one_newF _ _ _) (cellsF [y]) (by unfold maxLen; have := HN.out; omega) (by have := HN.out; omega) (by simp; have := HR.out.2.size; omega) ?_; intro v' w1 hown' hgrow _) | (at_builtin; refine wpList_append_own _ rfl _ _ 52 rfl w.heap.size 53 i0 (.float .f32 0) 1 4 Try.underlying52 hi hz0 hz1 hz2 rfl (by decide) _ _ _ rfl ((rowDrewF HR.out.1 _).alloc _) ⟨wr.heap.size, 0, none⟩ 1 1 [.float .f32 y] rfl rfl (one_newF _ _ _) (cellsF [y]) (by unfold maxLen; have := HN.out; omega) (by have := HN.out; omega) (by simp; have := HR.out.2.size; omega) ?_; intro v' w1 hown' hgrow _)))
            have HR2 := Lib.hid (show RowF w v' (L ++ [y]) w1 from RowF.push hown' (by first | exact HR.out.2.alloc HR.out.2.size _ | exact (below_drawn HR.out.2 _).alloc HR.out.2.size _) hgrow (fun j hj => (HR.out.1.lt j hj).1))
            clear hown' hgrow
            go_wp2
            go_roundw
            case rel => exact ⟨j + 1, by omega, by go_num, by rw [HS.out]; exact HR2.out⟩
            case measure => simp [intOf]; omega
          · obtain rfl : j = xs.length := by omega
            have HX := Lib.hid (usK_lt xs s h xs.length)
            have HN := Lib.hid (show (usK xs s h xs.length).length ≤ 1048576 by rw [usK_len]; omega)
            have HO := Lib.hid HR.out.own
            have HD := Lib.hid HR.out.2
            clear HU HR
            cases hf : finA (usK xs s h xs.length)
            · have hb : loB xs s h = false := by rw [HB.out, hf]
              have HBB := Lib.hid hb
              have HF := Lib.hid hf
              clear hf hb HB
              obtain ⟨L, hL⟩ : ∃ L, usK xs s h xs.length = L := ⟨_, rfl⟩
              rw [hL] at HX HN HO HF
              have HL := Lib.hid hL
              clear hL
              go_wp2_with (go_at_call 83; refine (liI2_any _ L _ _ HO.out.rd HN.out HX.out).mono ?_; rintro e w9 ⟨rfl, n9, rfl⟩; rw [HF.out])
              go_ret2
              rw [loV_no HBB.out, HBB.out]
              exact retLFn (below_drawn HD.out _)
            · have hb : loB xs s h = true := by rw [HB.out, hf]
              have HBB := Lib.hid hb
              have HF := Lib.hid hf
              clear hf hb HB
              obtain ⟨L, hL⟩ : ∃ L, usK xs s h xs.length = L := ⟨_, rfl⟩
              rw [hL] at HX HN HO HF
              have HL := Lib.hid hL
              clear hL
              go_wp2_with (go_at_call 83; refine (liI2_any _ L _ _ HO.out.rd HN.out HX.out).mono ?_; rintro e w9 ⟨rfl, n9, rfl⟩; rw [HF.out])
              go_ret2
              rw [loV_yes HBB.out, HBB.out, HL.out]
              exact ⟨_, rfl, HO.out.drewN _, below_drawn HD.out _⟩
end Go.Proofs.Ytdlginbmelbfgaa
