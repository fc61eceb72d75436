/-
  Contracts: codes by runs, of both sides.
-/
import Derived.Test.YtdlginbmelbfgaaDg
namespace Go.Proofs.Ytdlginbmelbfgaa
open Go.RowKit Fl
set_option linter.unusedVariables false

def dgT (z : Int) (k d : Nat) : List Bool := (List.range d).map fun i => dig z (k - 1 - i)
theorem dgT_succ (z : Int) (k d : Nat) : dgT z k (d + 1) = dgT z k d ++ [dig z (k - 1 - d)] := by simp [dgT, List.range_succ]
theorem dgT_len (z : Int) (k d : Nat) : (dgT z k d).length = d := by simp [dgT]
def rcO (z : Int) (k : Nat) : List Bool := List.replicate (z / 2 ^ k).toNat true ++ [false] ++ dgT z k k
def rcK (xs : List Int) (k : Nat) : Nat → List Bool
  | 0 => []
  | m + 1 => rcK xs k m ++ rcO (zig (xs.getD m 0)) k
theorem rcK_succ (xs : List Int) (k m : Nat) (h : m < xs.length) : rcK xs k (m + 1) = rcK xs k m ++ rcO (zig xs[m]) k := by
  show rcK xs k m ++ rcO (zig (xs.getD m 0)) k = _
  rw [show xs.getD m 0 = xs[m] by simp [List.getD, List.getElem?_eq_getElem h]]
theorem rep_succ (A : List Bool) (m : Nat) : (A ++ List.replicate m true) ++ [true] = A ++ List.replicate (m + 1) true := by rw [List.append_assoc, List.replicate_succ']
theorem rcK_len (xs : List Int) (k : Nat) (hw : withB 1000000 xs = true) (hk : k ≤ 20) (m : Nat) (hm : m ≤ xs.length) : ((rcK xs k m).length : Int) = rlK xs k m := by
  induction m with
  | zero => simp [rcK, rlK]
  | succ m ih =>
    have hb := withB_out hw m (by omega)
    have h0 := (rz_b xs[m] k hb.1 hb.2 (by omega) (by omega)).1
    rw [rcK_succ xs k m (by omega), rlK_succ xs k m (by omega)]
    simp only [Int.toNat_natCast] at h0 ⊢
    have := ih (by omega)
    simp [rcO, dgT_len]
    omega
theorem rlK_mono (xs : List Int) (k : Nat) (hw : withB 1000000 xs = true) (hk : k ≤ 20) (m d : Nat) (hm : m + d ≤ xs.length) : rlK xs k m ≤ rlK xs k (m + d) := by
  induction d with
  | zero => exact Int.le_refl _
  | succ d ih =>
    have hb := withB_out hw (m + d) (by omega)
    have h0 := (rz_b xs[m + d] k hb.1 hb.2 (by omega) (by omega)).1
    have := ih (by omega)
    rw [show m + (d + 1) = m + d + 1 by omega, rlK_succ xs k (m + d) (by omega)]
    omega
def RcRel (w0 : World) (xs : List Int) (k : Nat) (v i : Value) (wr : World) : Prop := ∃ j : Nat, j ≤ xs.length ∧ i = .int .i64 j ∧ RowB w0 v (rcK xs k j) wr
def RcU (w0 : World) (A : List Bool) (q : Nat) (v i : Value) (wr : World) : Prop := ∃ m : Nat, m ≤ q ∧ i = .int .i64 m ∧ RowB w0 v (A ++ List.replicate m true) wr
def RcV (w0 : World) (A : List Bool) (q : Nat) (v i : Value) (wr : World) : Prop := ∃ m : Nat, m ≤ q ∧ i = .int .i64 ((q : Int) - m) ∧ RowB w0 v (A ++ List.replicate m true) wr
def RcD (w0 : World) (A : List Bool) (z : Int) (k : Nat) (v i : Value) (wr : World) : Prop := ∃ d : Nat, d ≤ k ∧ i = .int .i64 d ∧ RowB w0 v (A ++ dgT z k d) wr
def RcE (w0 : World) (A : List Bool) (z : Int) (k : Nat) (v i : Value) (wr : World) : Prop := ∃ d : Nat, d ≤ k ∧ i = .int .i64 ((k : Int) - 1 - d) ∧ RowB w0 v (A ++ dgT z k d) wr
/-- All of one round's facts. -/
theorem rc_round (xs : List Int) (k j : Nat) (hw : withB 1000000 xs = true) (hk : k ≤ 20) (hL : rlK xs k xs.length ≤ 32768) (hj : j < xs.length) :
    ∃ q : Nat, zig xs[j] / 2 ^ k = (q : Int) ∧ 0 ≤ zig xs[j] ∧ zig xs[j] ≤ 2000000 ∧ (rcK xs k j).length + q + 1 + k ≤ 32768 ∧ rcK xs k (j + 1) = rcK xs k j ++ List.replicate q true ++ [false] ++ dgT (zig xs[j]) k k ∧ -1000000 ≤ xs[j] ∧ xs[j] ≤ 1000000 := by
  have hb := withB_out hw j hj
  have h0 := (rz_b xs[j] k hb.1 hb.2 (by omega) (by omega)).1
  simp only [Int.toNat_natCast] at h0
  have h1 := rlK_mono xs k hw hk (j + 1) (xs.length - (j + 1)) (by omega)
  rw [show j + 1 + (xs.length - (j + 1)) = xs.length by omega, rlK_succ xs k j hj] at h1
  simp only [Int.toNat_natCast] at h1
  have h2 := rcK_len xs k hw hk j (by omega)
  refine ⟨(zig xs[j] / 2 ^ k).toNat, by omega, zig_nn _, zig_le _ hb.1 hb.2, by omega, ?_, hb.1, hb.2⟩
  rw [rcK_succ xs k j hj]
  simp [rcO, List.append_assoc]
def rcG (xs : List Int) (k : Int) : Bool := rlG xs k && decide (rlV xs k ≤ 32768)
def rcV (xs : List Int) (k : Int) : List Bool := if rcG xs k then rcK xs k.toNat xs.length else []
theorem rcV_yes {xs : List Int} {k : Int} (h : rcG xs k = true) : rcV xs k = rcK xs k.toNat xs.length := by unfold rcV; rw [if_pos h]
theorem rcV_no {xs : List Int} {k : Int} (h : rcG xs k = false) : rcV xs k = [] := by unfold rcV; rw [if_neg (by rw [h]; simp)]
theorem rcG_out {xs : List Int} {k : Int} (h : rcG xs k = true) : rlG xs k = true ∧ rlV xs k ≤ 32768 := by unfold rcG at h; simpa using h
theorem rcV_len (xs : List Int) (k : Int) : (rcV xs k).length ≤ 1048576 := by
  cases hg : rcG xs k with
  | false => rw [rcV_no hg]; simp
  | true =>
    obtain ⟨h1, h2⟩ := rcG_out hg
    obtain ⟨ha, hk⟩ := rlG_out h1
    have hkb := ridB_out hk
    rw [rlV_yes h1] at h2
    rw [rcV_yes hg]
    have := rcK_len xs k.toNat (areB_len ha).2.2 (by omega) xs.length (Nat.le_refl _)
    rw [show ((k.toNat : Nat) : Int) = k by omega] at this
    omega
set_option maxRecDepth 100000 in
set_option maxHeartbeats 4000000 in
theorem rcS_any (v : Value) (xs : List Int) (k : Nat) (w : World) (h : Rd w w.heap.size v (il xs)) (hm : xs.length ≤ 128) (hw : withB 1000000 xs = true) (hk : k ≤ 20) (hL : rlK xs k xs.length ≤ 32768) :
    Calls Try.prog 64 #[v, .int .i64 k] w (RetBl1 (rcK xs k xs.length) w) := by
  obtain ⟨i0, hi, hz0, hz1, hz2⟩ := info_parts infoB
  obtain ⟨A0, c, hv, hc1, hc2, hcell⟩ := h
  rw [il_len] at hv hc1 hcell
  subst hv
  have HC := Lib.hid hcell
  have HW := Lib.hid hw
  have HL := Lib.hid hL
  clear hcell hw hL
  go_enter Try.func64, Try.ntmps64
  go_wp2
  go_loopw [5, 6] (RcRel w xs k) (fun _ i _ => xs.length - (intOf i).toNat)
  case atStart => exact ⟨0, Nat.zero_le _, rfl, RowB.lit w⟩
  case round =>
    obtain ⟨j, hj, rfl, hr⟩ := hrel
    have HR := Lib.hid hr
    clear hr
    by_cases hlt : j < xs.length
    · obtain ⟨b, off, rfl, hbl, hcc⟩ := HC.out (by omega)
      have hsrc : wr.cell? ⟨b, off + j, none⟩ = some (.int .i64 xs[j]) := (HR.out.2.cell (p := ⟨b, off + j, none⟩) hbl).trans (hcc j _ (il_get xs j hlt))
      clear hcc HC
      obtain ⟨q, hq, z0, z1, hn, hs, x0, x1⟩ := rc_round xs k j HW.out hk HL.out hlt
      have HZ := Lib.hid (fun w' => zigS_any xs[j] w' x0 x1)
      have HS := Lib.hid hs
      have HN0 := Lib.hid hn
      have hq2 : q ≤ 32768 := by omega
      have hmk : min k 64 = k := by omega
      clear hs hn
      generalize zig xs[j] = z at *
      generalize xs[j] = x at *
      generalize rcK xs k j = A at *
      go_wp2_with (go_at_call 56; refine (HZ.out _).mono ?_; rintro e w' ⟨rfl, rfl⟩)
      clear hsrc
      go_loopw [5, 8] (RcV w A q) (fun _ i _ => (intOf i).toNat)
      case atStart => exact ⟨0, Nat.zero_le _, by simp, by rw [List.replicate_zero, List.append_nil]; exact HR.out⟩
      case round =>
        clear HR
        obtain ⟨m, hm2, rfl, hr⟩ := hrel
        by_cases hmq : m < q
        · have HR := Lib.hid hr
          have HN := Lib.hid (show (A ++ List.replicate m true).length ≤ 32768 by simp; have := HN0.out; omega)
          have HP := Lib.hid (rep_succ A m)
          clear hr
          generalize A ++ List.replicate m true = L at *
          go_wp2_with (first | (at_builtin; refine wpList_append_own _ rfl _ _ 33 rfl w.heap.size 4 i0 (.bool false) 1 1 Try.underlying33 hi hz0 hz1 hz2 rfl (by decide) _ _ _ rfl (HR.out.1.alloc _) ⟨wr.heap.size, 0, none⟩ 1 1 [.bool true] rfl rfl (one_newF _ _ _) (cellsB [true]) (by unfold maxLen; have := HN.out; omega) (by have := HN.out; omega) (by simp; have := HR.out.2.size; omega) ?_; intro v' w1 hown' hgrow _) | (at_builtin; refine wpList_append_own _ rfl _ _ 33 rfl w.heap.size 4 i0 (.bool false) 1 1 Try.underlying33 hi hz0 hz1 hz2 rfl (by decide) _ _ _ rfl ((rowDrewF HR.out.1 _).alloc _) ⟨wr.heap.size, 0, none⟩ 1 1 [.bool true] rfl rfl (one_newF _ _ _) (cellsB [true]) (by unfold maxLen; have := HN.out; omega) (by have := HN.out; omega) (by simp; have := HR.out.2.size; omega) ?_; intro v' w1 hown' hgrow _))
          have HR2 := Lib.hid (show RowB w v' (L ++ [true]) w1 from RowB.push hown' (by first | exact HR.out.2.alloc HR.out.2.size _ | exact (below_drawn HR.out.2 _).alloc HR.out.2.size _) hgrow (fun j hj => (HR.out.1.lt j hj).1))
          clear hown' hgrow
          go_wp2
          go_roundw
          case rel => exact ⟨m + 1, by omega, by go_num, by rw [← HP.out]; exact HR2.out⟩
          case measure => simp [intOf]; omega
        · obtain rfl : m = q := by omega
          clear hmq hm2
          have HR := Lib.hid hr
          have HN := Lib.hid (show (A ++ List.replicate m true).length ≤ 32768 by simp; have := HN0.out; omega)
          have HN1 := Lib.hid (show (A ++ List.replicate m true ++ [false]).length + k ≤ 32768 by simp; have := HN0.out; omega)
          clear hr HN0
          generalize A ++ List.replicate m true = L at *
          rw [show ((m : Int) - m) = 0 by omega]
          go_wp2_with (first | (at_builtin; refine wpList_append_own _ rfl _ _ 33 rfl w.heap.size 4 i0 (.bool false) 1 1 Try.underlying33 hi hz0 hz1 hz2 rfl (by decide) _ _ _ rfl (HR.out.1.alloc _) ⟨wr.heap.size, 0, none⟩ 1 1 [.bool false] rfl rfl (one_newF _ _ _) (cellsB [false]) (by unfold maxLen; have := HN.out; omega) (by have := HN.out; omega) (by simp; have := HR.out.2.size; omega) ?_; intro v' w1 hown' hgrow _) | (at_builtin; refine wpList_append_own _ rfl _ _ 33 rfl w.heap.size 4 i0 (.bool false) 1 1 Try.underlying33 hi hz0 hz1 hz2 rfl (by decide) _ _ _ rfl ((rowDrewF HR.out.1 _).alloc _) ⟨wr.heap.size, 0, none⟩ 1 1 [.bool false] rfl rfl (one_newF _ _ _) (cellsB [false]) (by unfold maxLen; have := HN.out; omega) (by have := HN.out; omega) (by simp; have := HR.out.2.size; omega) ?_; intro v' w1 hown' hgrow _))
          have HR2 := Lib.hid (show RowB w v' (L ++ [false]) w1 from RowB.push hown' (by first | exact HR.out.2.alloc HR.out.2.size _ | exact (below_drawn HR.out.2 _).alloc HR.out.2.size _) hgrow (fun j hj => (HR.out.1.lt j hj).1))
          clear hown' hgrow
          clear HR HN
          generalize L ++ [false] = D at *
          go_loopw [5, 9] (RcE w D z k) (fun _ i _ => (intOf i + 1).toNat)
          case atStart => exact ⟨0, Nat.zero_le _, by simp, by rw [show dgT z k 0 = [] from rfl, List.append_nil]; exact HR2.out⟩
          case round =>
            clear HR2
            obtain ⟨d, hd, rfl, hr⟩ := hrel
            by_cases hdk : d < k
            · have HR := Lib.hid hr
              have HN := Lib.hid (show (D ++ dgT z k d).length ≤ 32768 by simp [dgT_len]; have := HN1.out; omega)
              have HP := Lib.hid (show (D ++ dgT z k d) ++ [dig z (k - 1 - d)] = D ++ dgT z k (d + 1) by rw [dgT_succ, List.append_assoc])
              clear hr
              have HD := Lib.hid (fun w' => digI_any z (k - 1 - d) w' z0 (by omega) (by omega))
              generalize D ++ dgT z k d = L2 at *
              have hpk : ((k : Int) - 1 - d).toNat = k - 1 - d := by omega
              have hmin : min (k - 1 - d) 64 = k - 1 - d := by omega
              obtain ⟨u, hu⟩ : ∃ u, z / 2 ^ (k - 1 - d) = u := ⟨_, rfl⟩
              have hand := i64_and1 u
              have HY := Lib.hid (show dig z (k - 1 - d) = (u % 2 == 1) by unfold dig; rw [hu])
              rw [HY.out] at HP
              have hu0 : 0 ≤ u := by rw [← hu]; exact Int.ediv_nonneg z0 (by have := pow_pos2 (k - 1 - d); omega)
              have hu1 : u ≤ 2000000 := by rw [← hu]; exact Int.le_trans (Int.ediv_le_self _ z0) z1
              go_wp2_with (first | (at_builtin; refine wpList_append_own _ rfl _ _ 33 rfl w.heap.size 4 i0 (.bool false) 1 1 Try.underlying33 hi hz0 hz1 hz2 rfl (by decide) _ _ _ rfl (HR.out.1.alloc _) ⟨wr.heap.size, 0, none⟩ 1 1 [.bool (u % 2 == 1)] rfl rfl (one_newF _ _ _) (cellsB [(u % 2 == 1)]) (by unfold maxLen; have := HN.out; omega) (by have := HN.out; omega) (by simp; have := HR.out.2.size; omega) ?_; intro v' w1 hown' hgrow _) | (at_builtin; refine wpList_append_own _ rfl _ _ 33 rfl w.heap.size 4 i0 (.bool false) 1 1 Try.underlying33 hi hz0 hz1 hz2 rfl (by decide) _ _ _ rfl ((rowDrewF HR.out.1 _).alloc _) ⟨wr.heap.size, 0, none⟩ 1 1 [.bool (u % 2 == 1)] rfl rfl (one_newF _ _ _) (cellsB [(u % 2 == 1)]) (by unfold maxLen; have := HN.out; omega) (by have := HN.out; omega) (by simp; have := HR.out.2.size; omega) ?_; intro v' w1 hown' hgrow _))
              have HR2 := Lib.hid (show RowB w v' (L2 ++ [(u % 2 == 1)]) w1 from RowB.push hown' (by first | exact HR.out.2.alloc HR.out.2.size _ | exact (below_drawn HR.out.2 _).alloc HR.out.2.size _) hgrow (fun j hj => (HR.out.1.lt j hj).1))
              clear hown' hgrow
              go_wp2
              go_roundw
              case rel => exact ⟨d + 1, by omega, by go_num, by rw [← HP.out]; exact HR2.out⟩
              case measure => simp [intOf]; omega
            · obtain rfl : d = k := by omega
              have HR := Lib.hid (show RowB w _ (rcK xs d (j + 1)) _ by rw [HS.out]; exact hr)
              clear hr
              go_wp2
              go_roundw
              case rel => exact ⟨j + 1, by omega, by go_num, HR.out⟩
              case measure => simp [intOf]; omega
    · obtain rfl : j = xs.length := by omega
      go_wp2
      go_ret
      exact ⟨_, rfl, HR.out.own, HR.out.2⟩
set_option maxRecDepth 100000 in
set_option maxHeartbeats 4000000 in
theorem rcI_yes (v : Value) (xs : List Int) (k : Nat) (w : World) (h : Rd w w.heap.size v (il xs)) (hm : xs.length ≤ 128) (hw : withB 1000000 xs = true) (hk : k ≤ 20) (hL : rlK xs k xs.length ≤ 32768) (hg : rlG xs k = true) :
    Calls Try.prog 26 #[v, .int .i64 k] w (RetBl (rcK xs k xs.length) true w) := by
  obtain ⟨i0, hi, hz0, hz1, hz2⟩ := info_parts infoB
  have HO := Lib.hid (by have := rloI_any v xs k w _ h (by omega); rw [rlV_yes hg, hg] at this; exact this : Calls Try.prog 21 #[v, .int .i64 k] w fun e w'' => e = .returned (.tuple #[.int .i64 (rlK xs k xs.length), .bool true]) ∧ w = w'')
  obtain ⟨A0, c, hv, hc1, hc2, hcell⟩ := h
  rw [il_len] at hv hc1 hcell
  subst hv
  have hr0 := rlK_b xs k hw (by omega) (by omega) xs.length (Nat.le_refl _)
  have HC := Lib.hid hcell
  have HW := Lib.hid hw
  have HL := Lib.hid hL
  clear hcell hw hg
  obtain ⟨r, hr⟩ : ∃ r, rlK xs k xs.length = r := ⟨_, rfl⟩
  rw [hr] at HO hr0 hL
  have HRe := Lib.hid hr
  clear hr
  obtain ⟨hr1, hr2⟩ := hr0
  go_enter Try.func26, Try.ntmps26
  go_wp2_with (first | (go_at_call 21; refine HO.out.mono ?_; rintro e w' ⟨rfl, rfl⟩) | (at_make; refine wpList_make_own _ rfl _ _ 33 rfl w.heap.size 4 i0 (.bool false) 1 Try.underlying33 hi hz0 hz1 .i64 .i64 _ r.toNat rfl rfl (by omega) (by rw [hz2]; omega) (by unfold maxLen; omega) (Nat.le_refl _) ?_; intro w1 hown hgrow))
  go_wp2
  go_loopw [8, 29] (RcRel w xs k) (fun _ i _ => xs.length - (intOf i).toNat)
  case atStart => exact ⟨0, Nat.zero_le _, rfl, RowB.made hown hgrow⟩
  case round =>
    clear hown hgrow HO
    obtain ⟨j, hj, rfl, hr⟩ := hrel
    have HR := Lib.hid hr
    clear hr
    by_cases hlt : j < xs.length
    · obtain ⟨b, off, rfl, hbl, hcc⟩ := HC.out (by omega)
      have hsrc : wr.cell? ⟨b, off + j, none⟩ = some (.int .i64 xs[j]) := (HR.out.2.cell (p := ⟨b, off + j, none⟩) hbl).trans (hcc j _ (il_get xs j hlt))
      clear hcc HC
      obtain ⟨q, hq, z0, z1, hn, hs, x0, x1⟩ := rc_round xs k j HW.out hk HL.out hlt
      have HZ := Lib.hid (fun w' => zigI_any xs[j] w' x0 x1)
      have HS := Lib.hid hs
      have HN0 := Lib.hid hn
      have hq2 : q ≤ 32768 := by omega
      have hmk : min k 64 = k := by omega
      clear hs hn
      generalize zig xs[j] = z at *
      generalize xs[j] = x at *
      generalize rcK xs k j = A at *
      go_wp2_with (go_at_call 57; refine (HZ.out _).mono ?_; rintro e w' ⟨rfl, rfl⟩)
      clear hsrc
      go_loopw [8, 38] (RcU w A q) (fun _ i _ => q - (intOf i).toNat)
      case atStart => exact ⟨0, Nat.zero_le _, rfl, by rw [List.replicate_zero, List.append_nil]; exact HR.out⟩
      case round =>
        clear HR
        obtain ⟨m, hm2, rfl, hr⟩ := hrel
        by_cases hmq : m < q
        · have HR := Lib.hid hr
          have HN := Lib.hid (show (A ++ List.replicate m true).length ≤ 32768 by simp; have := HN0.out; omega)
          have HP := Lib.hid (rep_succ A m)
          clear hr
          generalize A ++ List.replicate m true = L at *
          go_wp2_with (first | (at_builtin; refine wpList_append_own _ rfl _ _ 33 rfl w.heap.size 4 i0 (.bool false) 1 1 Try.underlying33 hi hz0 hz1 hz2 rfl (by decide) _ _ _ rfl (HR.out.1.alloc _) ⟨wr.heap.size, 0, none⟩ 1 1 [.bool true] rfl rfl (one_newF _ _ _) (cellsB [true]) (by unfold maxLen; have := HN.out; omega) (by have := HN.out; omega) (by simp; have := HR.out.2.size; omega) ?_; intro v' w1 hown' hgrow _) | (at_builtin; refine wpList_append_own _ rfl _ _ 33 rfl w.heap.size 4 i0 (.bool false) 1 1 Try.underlying33 hi hz0 hz1 hz2 rfl (by decide) _ _ _ rfl ((rowDrewF HR.out.1 _).alloc _) ⟨wr.heap.size, 0, none⟩ 1 1 [.bool true] rfl rfl (one_newF _ _ _) (cellsB [true]) (by unfold maxLen; have := HN.out; omega) (by have := HN.out; omega) (by simp; have := HR.out.2.size; omega) ?_; intro v' w1 hown' hgrow _))
          have HR2 := Lib.hid (show RowB w v' (L ++ [true]) w1 from RowB.push hown' (by first | exact HR.out.2.alloc HR.out.2.size _ | exact (below_drawn HR.out.2 _).alloc HR.out.2.size _) hgrow (fun j hj => (HR.out.1.lt j hj).1))
          clear hown' hgrow
          go_wp2
          go_roundw
          case rel => exact ⟨m + 1, by omega, by go_num, by rw [← HP.out]; exact HR2.out⟩
          case measure => simp [intOf]; omega
        · obtain rfl : m = q := by omega
          clear hmq hm2
          have HR := Lib.hid hr
          have HN := Lib.hid (show (A ++ List.replicate m true).length ≤ 32768 by simp; have := HN0.out; omega)
          have HN1 := Lib.hid (show (A ++ List.replicate m true ++ [false]).length + k ≤ 32768 by simp; have := HN0.out; omega)
          clear hr HN0
          generalize A ++ List.replicate m true = L at *
          skip
          go_wp2_with (first | (at_builtin; refine wpList_append_own _ rfl _ _ 33 rfl w.heap.size 4 i0 (.bool false) 1 1 Try.underlying33 hi hz0 hz1 hz2 rfl (by decide) _ _ _ rfl (HR.out.1.alloc _) ⟨wr.heap.size, 0, none⟩ 1 1 [.bool false] rfl rfl (one_newF _ _ _) (cellsB [false]) (by unfold maxLen; have := HN.out; omega) (by have := HN.out; omega) (by simp; have := HR.out.2.size; omega) ?_; intro v' w1 hown' hgrow _) | (at_builtin; refine wpList_append_own _ rfl _ _ 33 rfl w.heap.size 4 i0 (.bool false) 1 1 Try.underlying33 hi hz0 hz1 hz2 rfl (by decide) _ _ _ rfl ((rowDrewF HR.out.1 _).alloc _) ⟨wr.heap.size, 0, none⟩ 1 1 [.bool false] rfl rfl (one_newF _ _ _) (cellsB [false]) (by unfold maxLen; have := HN.out; omega) (by have := HN.out; omega) (by simp; have := HR.out.2.size; omega) ?_; intro v' w1 hown' hgrow _))
          have HR2 := Lib.hid (show RowB w v' (L ++ [false]) w1 from RowB.push hown' (by first | exact HR.out.2.alloc HR.out.2.size _ | exact (below_drawn HR.out.2 _).alloc HR.out.2.size _) hgrow (fun j hj => (HR.out.1.lt j hj).1))
          clear hown' hgrow
          clear HR HN
          generalize L ++ [false] = D at *
          go_loopw [8, 48] (RcD w D z k) (fun _ i _ => k - (intOf i).toNat)
          case atStart => exact ⟨0, Nat.zero_le _, rfl, by rw [show dgT z k 0 = [] from rfl, List.append_nil]; exact HR2.out⟩
          case round =>
            clear HR2
            obtain ⟨d, hd, rfl, hr⟩ := hrel
            by_cases hdk : d < k
            · have HR := Lib.hid hr
              have HN := Lib.hid (show (D ++ dgT z k d).length ≤ 32768 by simp [dgT_len]; have := HN1.out; omega)
              have HP := Lib.hid (show (D ++ dgT z k d) ++ [dig z (k - 1 - d)] = D ++ dgT z k (d + 1) by rw [dgT_succ, List.append_assoc])
              clear hr
              have HD := Lib.hid (fun w' => digI_any z (k - 1 - d) w' z0 (by omega) (by omega))
              generalize D ++ dgT z k d = L2 at *
              have hpk : (k : Int) - 1 - d = ((k - 1 - d : Nat) : Int) := by omega
              generalize dig z (k - 1 - d) = y at *
              generalize k - 1 - d = p at *
              go_wp2_with (first | (go_at_call 65; refine (HD.out _).mono ?_; rintro e w' ⟨rfl, rfl⟩) | (first | (at_builtin; refine wpList_append_own _ rfl _ _ 33 rfl w.heap.size 4 i0 (.bool false) 1 1 Try.underlying33 hi hz0 hz1 hz2 rfl (by decide) _ _ _ rfl (HR.out.1.alloc _) ⟨wr.heap.size, 0, none⟩ 1 1 [.bool y] rfl rfl (one_newF _ _ _) (cellsB [y]) (by unfold maxLen; have := HN.out; omega) (by have := HN.out; omega) (by simp; have := HR.out.2.size; omega) ?_; intro v' w1 hown' hgrow _) | (at_builtin; refine wpList_append_own _ rfl _ _ 33 rfl w.heap.size 4 i0 (.bool false) 1 1 Try.underlying33 hi hz0 hz1 hz2 rfl (by decide) _ _ _ rfl ((rowDrewF HR.out.1 _).alloc _) ⟨wr.heap.size, 0, none⟩ 1 1 [.bool y] rfl rfl (one_newF _ _ _) (cellsB [y]) (by unfold maxLen; have := HN.out; omega) (by have := HN.out; omega) (by simp; have := HR.out.2.size; omega) ?_; intro v' w1 hown' hgrow _)))
              have HR2 := Lib.hid (show RowB w v' (L2 ++ [y]) w1 from RowB.push hown' (by first | exact HR.out.2.alloc HR.out.2.size _ | exact (below_drawn HR.out.2 _).alloc HR.out.2.size _) hgrow (fun j hj => (HR.out.1.lt j hj).1))
              clear hown' hgrow
              go_wp2
              go_roundw
              case rel => exact ⟨d + 1, by omega, by go_num, by rw [← HP.out]; exact HR2.out⟩
              case measure => simp [intOf]; omega
            · obtain rfl : d = k := by omega
              have HR := Lib.hid (show RowB w _ (rcK xs d (j + 1)) _ by rw [HS.out]; exact hr)
              clear hr
              go_wp2
              go_roundw
              case rel => exact ⟨j + 1, by omega, by go_num, HR.out⟩
              case measure => simp [intOf]; omega
    · obtain rfl : j = xs.length := by omega
      go_wp2
      go_ret2
      exact ⟨_, rfl, HR.out.own, HR.out.2⟩
end Go.Proofs.Ytdlginbmelbfgaa
