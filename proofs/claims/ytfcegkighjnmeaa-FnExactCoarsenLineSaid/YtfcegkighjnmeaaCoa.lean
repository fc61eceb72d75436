/-
  Contracts: CoarsenLine, by the reference.
-/
import Derived.Test.YtfcegkighjnmeaaFloBd
import Derived.Test.YtfcegkighjnmeaaSfm
import Derived.Test.YtfcegkighjnmeaaSmi
namespace Go.Proofs.Ytfcegkighjnmeaa
open Go.RowKit Fl
set_option linter.unusedVariables false

/-- A number of the coarser line. -/
def coA (xs : List Nat) (k : Nat) : Nat := coN (xs.getD (2 * k) 0) (xs.getD (2 * k + 1) 0) (xs.getD (2 * k + 2) 0)
def coP (xs : List Nat) (k : Nat) : List Nat := (List.range k).map (coA xs)
def coF (xs : List Nat) : List Nat := coP xs (xs.length / 2)
theorem coP_len (xs : List Nat) (k : Nat) : (coP xs k).length = k := by simp [coP]
theorem coP_succ (xs : List Nat) (k : Nat) : coP xs (k + 1) = coP xs k ++ [coA xs k] := by simp [coP, List.range_succ]
theorem coF_len (xs : List Nat) : (coF xs).length = xs.length / 2 := coP_len _ _
theorem coF_fin {xs : List Nat} (hf : finA xs = true) : finA (coF xs) = true := by
  unfold finA
  rw [decide_eq_true_eq]
  intro i hi
  have : (coF xs)[i] = coA xs i := by simp [coF, coP]
  rw [this]
  exact coN_fin (fin_getD hf _) (fin_getD hf _) (fin_getD hf _)
def coB (xs : List Nat) : Bool := lnG xs && decide (3 ≤ xs.length)
def coV (xs : List Nat) : List Nat := if coB xs then coF xs else []
theorem coV_yes {xs : List Nat} (h : coB xs = true) : coV xs = coF xs := by unfold coV; rw [if_pos h]
theorem coV_no {xs : List Nat} (h : coB xs = false) : coV xs = [] := by unfold coV; rw [if_neg (by rw [h]; simp)]
theorem coV_len (xs : List Nat) : (coV xs).length ≤ 1048576 := by
  cases hb : coB xs with
  | false => rw [coV_no hb]; simp
  | true =>
    have : lnG xs = true := by unfold coB at hb; simp only [Bool.and_eq_true] at hb; exact hb.1
    have := (liB_bd (lnG_len this).1).2
    rw [coV_yes hb, coF_len]; omega
theorem co_guard {xs : List Nat} (hl : lnG xs = true) : coB xs = decide (3 ≤ xs.length) := by unfold coB; rw [hl, Bool.true_and]
def CoS (w0 : World) (xs : List Nat) (v iv : Value) (wr : World) : Prop := ∃ (k j : Nat) (cur : List Nat), j = 2 * k ∧ j ≤ xs.length ∧ iv = .int .i64 ((j + 1 : Nat) : Int) ∧ IsW cur (coP xs k) ∧ RowF w0 v cur wr
set_option maxRecDepth 100000 in
set_option maxHeartbeats 8000000 in
theorem coS_any (A : Option Addr) (n c : Nat) (xs : List Nat) (w : World) (h : Rd w w.heap.size (.slice A n c) (fl xs)) (hn : xs.length = n) (h3 : 3 ≤ n) (h63 : n ≤ 63) (hod : n % 2 = 1) (hf : finA xs = true) (hx : ∀ x ∈ xs, x < 2 ^ 32) :
    Calls Try.prog 62 #[.slice A n c] w (RetW (coF xs) w) := by
  obtain ⟨i0, hi, hz0, hz1, hz2⟩ := info_parts infoF
  obtain ⟨b, off, rfl, hb, hc⟩ := h.num (i := 0) (by omega)
  have HC := Lib.hid hc
  have HU := Lib.hid (IsW.self hf hx)
  have HL := Lib.hid hn
  clear h hc hn hf hx
  go_enter Try.func62, Try.ntmps62
  go_wp2
  go_loopw [3, 4] (CoS w xs) (fun _ i _ => n + 2 - (intOf i).toNat)
  case atStart => exact ⟨0, 0, [], rfl, Nat.zero_le _, rfl, IsW.nil, RowF.lit _⟩
  case round =>
    obtain ⟨k, j, cur, hjk, hj, rfl, hw, hr⟩ := hrel
    rw [HL.out] at hj
    by_cases hlt : j + 1 < n
    · have hj2 : j + 2 < n := by omega
      have hI : ((j + 1 : Nat) : Int) < n := by omega
      have HS := Lib.hid (coP_succ xs k)
      have HN := Lib.hid (show cur.length ≤ 64 by rw [hw.len, coP_len]; omega)
      have HD := Lib.hid (show coA xs k = coN (xs.getD j 0) (xs.getD (j + 1) 0) (xs.getD (j + 2) 0) by rw [hjk]; rfl)
      have c0 : wr.cell? ⟨b, off + j, none⟩ = some (.float .f32 (xs.getD j 0)) := (hr.2.cell (p := ⟨b, off + j, none⟩) hb).trans (HC.out j (by omega))
      have c1 : wr.cell? ⟨b, off + (j + 1), none⟩ = some (.float .f32 (xs.getD (j + 1) 0)) := (hr.2.cell (p := ⟨b, off + (j + 1), none⟩) hb).trans (HC.out (j + 1) (by omega))
      have c2 : wr.cell? ⟨b, off + (j + 2), none⟩ = some (.float .f32 (xs.getD (j + 2) 0)) := (hr.2.cell (p := ⟨b, off + (j + 2), none⟩) hb).trans (HC.out (j + 2) (by omega))
      have k0 := HU.out.at j
      have k1 := HU.out.at (j + 1)
      have k2 := HU.out.at (j + 2)
      have HR' := Lib.hid hr
      have HW := Lib.hid hw
      have HJ := Lib.hid hjk
      generalize xs.getD j 0 = x0 at *
      generalize xs.getD (j + 1) 0 = x1 at *
      generalize xs.getD (j + 2) 0 = x2 at *
      clear hr hw hjk
      go_wp2_with fail
      refine Sf.wp_softM [true, false, false, false, false, false, false, false, false, false, false, false, false, false, false, false, false, false, false, false, true, true, true] [true, true, true, true, true, true, true, true, true, true, true, true, true, true, true, true, true, true, true, true, false, false, false] (fun i => if i = 6 then 0 else if i = 11 then 0 else if i = 12 then 0 else if i = 18 then 0 else if i = 19 then 0 else 1) (fun _ => undef) _ (by kernel_rfl) (by kernel_rfl) (by kernel_rfl) (by kernel_rfl) (by kernel_rfl) (by kernel_rfl) (fun _ _ _ h => h) (.inl ⟨rfl, fun _ => rfl⟩) ?_
      simp only [Act.put, List.setIfInBounds_toArray, List.set_cons_zero, List.set_cons_succ]
      simp only [Sf.tl]
      refine Sf.lx_over ?_
      refine Sf.lx_one rfl rfl (fun K hK => Sf.dft_quiet rfl ?_)
      go_big_quiet_op
      refine hK _ ?_
      clear hK K
      refine Sf.lx_one rfl rfl (fun K hK => Sf.dft_quiet rfl ?_)
      go_big_quiet_op
      refine hK _ ?_
      clear hK K
      refine Sf.lx_one rfl rfl (fun K hK => Sf.dft_quiet rfl ?_)
      go_big_quiet_op
      refine hK _ ?_
      clear hK K
      refine Sf.lx_one rfl rfl (fun K hK => Sf.dft_quiet rfl ?_)
      go_big_quiet_op
      refine hK _ ?_
      clear hK K
      refine Sf.lx_one rfl rfl (fun K hK => Sf.dft_quiet rfl ?_)
      go_big_quiet_op
      refine hK _ ?_
      clear hK K
      refine Sf.lx_fl rfl rfl (fun K hK => Sf.sft_ar (k := .f32) rfl rfl rfl rfl (is_lit (by decide)) (k0) (fun r18 hr18 => hK _ ?_))
      clear hK K
      simp only [Act.put, List.setIfInBounds_toArray, List.set_cons_zero, List.set_cons_succ]
      refine Sf.lx_one rfl rfl (fun K hK => Sf.dft_quiet rfl ?_)
      go_big_quiet_op
      refine hK _ ?_
      clear hK K
      refine Sf.lx_one rfl rfl (fun K hK => Sf.dft_quiet rfl ?_)
      go_big_quiet_op
      refine hK _ ?_
      clear hK K
      refine Sf.lx_one rfl rfl (fun K hK => Sf.dft_quiet rfl ?_)
      go_big_quiet_op
      refine hK _ ?_
      clear hK K
      refine Sf.lx_one rfl rfl (fun K hK => Sf.dft_quiet rfl ?_)
      go_big_quiet_op
      refine hK _ ?_
      clear hK K
      refine Sf.lx_fl rfl rfl (fun K hK => Sf.sft_ar (k := .f32) rfl rfl rfl rfl (is_lit (by decide)) (k1) (fun r23 hr23 => hK _ ?_))
      clear hK K
      simp only [Act.put, List.setIfInBounds_toArray, List.set_cons_zero, List.set_cons_succ]
      refine Sf.lx_fl rfl rfl (fun K hK => Sf.sft_ar (k := .f32) rfl rfl rfl rfl (hr18) (hr23) (fun r24 hr24 => hK _ ?_))
      clear hK K
      simp only [Act.put, List.setIfInBounds_toArray, List.set_cons_zero, List.set_cons_succ]
      refine Sf.lx_one rfl rfl (fun K hK => Sf.dft_quiet rfl ?_)
      go_big_quiet_op
      refine hK _ ?_
      clear hK K
      refine Sf.lx_one rfl rfl (fun K hK => Sf.dft_quiet rfl ?_)
      go_big_quiet_op
      refine hK _ ?_
      clear hK K
      refine Sf.lx_one rfl rfl (fun K hK => Sf.dft_quiet rfl ?_)
      go_big_quiet_op
      refine hK _ ?_
      clear hK K
      refine Sf.lx_one rfl rfl (fun K hK => Sf.dft_quiet rfl ?_)
      go_big_quiet_op
      refine hK _ ?_
      clear hK K
      refine Sf.lx_one rfl rfl (fun K hK => Sf.dft_quiet rfl ?_)
      go_big_quiet_op
      refine hK _ ?_
      clear hK K
      refine Sf.lx_fl rfl rfl (fun K hK => Sf.sft_ar (k := .f32) rfl rfl rfl rfl (is_lit (by decide)) (k2) (fun r30 hr30 => hK _ ?_))
      clear hK K
      simp only [Act.put, List.setIfInBounds_toArray, List.set_cons_zero, List.set_cons_succ]
      refine Sf.lx_fl rfl rfl (fun K hK => Sf.sft_ar (k := .f32) rfl rfl rfl rfl (hr24) (hr30) (fun r31 hr31 => hK _ ?_))
      clear hK K
      simp only [Act.put, List.setIfInBounds_toArray, List.set_cons_zero, List.set_cons_succ]
      refine Sf.lx_over ?_
      refine Sf.lx_over ?_
      refine Sf.lx_over ?_
      refine Sf.lx_nil ?_
      rintro _ ⟨nq, rfl⟩
      go_wp2_with (first | (at_builtin; refine wpList_append_own _ rfl _ _ 35 rfl w.heap.size 47 i0 (.float .f32 0) 1 4 Try.underlying35 hi hz0 hz1 hz2 rfl (by decide) _ _ _ rfl (HR'.out.1.alloc _) ⟨wr.heap.size, 0, none⟩ 1 1 [.float .f32 r31] rfl rfl (one_newF _ _ _) (cellsF [r31]) (by unfold maxLen; have := HN.out; omega) (by have := HN.out; omega) (by simp; have := HR'.out.2.size; omega) ?_; intro v' w1 hown' hgrow _) | (at_builtin; refine wpList_append_own _ rfl _ _ 35 rfl w.heap.size 47 i0 (.float .f32 0) 1 4 Try.underlying35 hi hz0 hz1 hz2 rfl (by decide) _ _ _ rfl ((rowDrewF HR'.out.1 _).alloc _) ⟨wr.heap.size, 0, none⟩ 1 1 [.float .f32 r31] rfl rfl (one_newF _ _ _) (cellsF [r31]) (by unfold maxLen; have := HN.out; omega) (by have := HN.out; omega) (by simp; have := HR'.out.2.size; omega) ?_; intro v' w1 hown' hgrow _))
      have HR2 := Lib.hid (show RowF w v' (cur ++ [r31]) w1 from RowF.push hown' (by first | exact HR'.out.2.alloc HR'.out.2.size _ | exact (below_drawn HR'.out.2 _).alloc HR'.out.2.size _) hgrow (fun j hj => (HR'.out.1.lt j hj).1))
      clear hown' hgrow
      go_wp2
      go_roundw
      case rel => exact ⟨k + 1, j + 2, cur ++ [r31], by have := HJ.out; omega, by rw [HL.out]; omega, by go_num, by rw [HS.out]; exact HW.out.app (by rw [HD.out]; exact hr31), HR2.out⟩
      case measure => simp [intOf]; omega
    · have hI : ¬ ((j + 1 : Nat) : Int) < n := by omega
      have hF : coP xs k = coF xs := by unfold coF; rw [HL.out, show n / 2 = k by omega]
      rw [hF] at hw
      have HW := Lib.hid hw
      have HR' := Lib.hid hr
      clear hw hr hF
      go_wp2
      go_ret
      exact ⟨_, cur, rfl, HW.out, HR'.out.own, HR'.out.2⟩
end Go.Proofs.Ytfcegkighjnmeaa
