/-
  Contracts: what is left to solve, by both sides.
-/
import Derived.Test.YtfcegkighjnmeaaLin
import Derived.Test.YtfcegkighjnmeaaSui
namespace Go.Proofs.Ytfcegkighjnmeaa
open Go.RowKit Fl
set_option linter.unusedVariables false

def sqF2 (s : Nat) : Nat := ar .mul .f32 s s
theorem ps_fin {s : Nat} (h : psB s = true) : finB .f32 s = true := by unfold psB at h; rw [Bool.and_eq_true] at h; exact h.1
theorem sq_not {s : Nat} (h : psB s = true) : isN .f32 (sqF2 s) = false := mul_pn h (nan_fin (ps_fin h))
theorem sq_is {s : Nat} (h : psB s = true) : Is .f32 (sqF2 s) (sqF2 s) := ⟨cn_of_not (sq_not h), ar_ltS _ _ _⟩
def boxO (fv : Value) (s : Nat) : Obj := .cells #[fv, .float .f32 s] 75
set_option maxRecDepth 100000 in
set_option maxHeartbeats 2000000 in
theorem sqI_any (A : Option Addr) (n c s : Nat) (w : World) (hs : s < 2 ^ 32) (hp : psB s = true) :
    Calls Try.prog 96 #[.agg #[.slice A n c, .float .f32 s]] w fun e w' => e = .returned (.float .f32 (sqF2 s)) ∧ ∃ n1, w' = (w.alloc (boxO (.slice A n c) s)).drewN n1 := by
  have his : Is .f32 s s := ⟨cn_fin (ps_fin hp), hs⟩
  have hn := sq_not hp
  go_enter Try.func96, Try.ntmps96
  go_wp2_with (refine up_ar2 rfl his his ?_; intro r n1 hr)
  go_ret
  exact ⟨by rw [is_eq hr hn]; rfl, _, rfl⟩
def reA (us fs : List Nat) (s i : Nat) : Nat := ar .sub .f32 (fs.getD i 0) (ar .quo .f32 (ar .sub .f32 (ar .sub .f32 (ar .mul .f32 1073741824 (us.getD i 0)) ((0 :: us).getD i 0)) ((0 :: us).getD (i + 2) 0)) (sqF2 s))
def reP (us fs : List Nat) (s k : Nat) : List Nat := (List.range k).map (reA us fs s)
def reK (us fs : List Nat) (s k : Nat) : List Nat := (List.range fs.length).map fun i => if i < k then reA us fs s i else fs.getD i 0
def reF (us fs : List Nat) (s : Nat) : List Nat := reP us fs s fs.length
theorem reP_succ (us fs : List Nat) (s k : Nat) : reP us fs s (k + 1) = reP us fs s k ++ [reA us fs s k] := by simp [reP, List.range_succ]
theorem reP_len (us fs : List Nat) (s k : Nat) : (reP us fs s k).length = k := by simp [reP]
theorem reF_len (us fs : List Nat) (s : Nat) : (reF us fs s).length = fs.length := reP_len _ _ _ _
theorem reK_zero (us fs : List Nat) (s : Nat) : reK us fs s 0 = fs := by
  conv => rhs; rw [← list_range fs]
  exact map_congr' fun i hi => by rw [if_neg (by omega)]
theorem reK_all (us fs : List Nat) (s : Nat) : reK us fs s fs.length = reF us fs s := map_congr' fun i hi => by rw [if_pos hi]
theorem reK_set (us fs : List Nat) (s k : Nat) (h : k < fs.length) : (reK us fs s k).set k (reA us fs s k) = reK us fs s (k + 1) := by
  refine rsetN h (by rw [if_pos (by omega)]) fun i hi hne => ?_
  by_cases h0 : i < k
  · rw [if_pos h0, if_pos (by omega)]
  · rw [if_neg h0, if_neg (by omega)]
theorem reK_at (us fs : List Nat) (s k : Nat) (h : k < fs.length) : (reK us fs s k).getD k 0 = fs.getD k 0 := by
  unfold reK; rw [range_getD _ h, if_neg (by omega)]
theorem cons_is {xs : List Nat} (hf : finA xs = true) (hx : ∀ x ∈ xs, x < 2 ^ 32) (j : Nat) : Is .f32 ((0 :: xs).getD j 0) ((0 :: xs).getD j 0) := by
  rcases j with _ | i
  · exact is_0
  · exact is_getD hf hx i
def ReS (w0 : World) (us fs : List Nat) (s : Nat) (v iv : Value) (wr : World) : Prop := ∃ (k : Nat) (cur : List Nat), k ≤ fs.length ∧ iv = .int .i64 k ∧ IsW cur (reP us fs s k) ∧ RowF w0 v cur wr
set_option maxRecDepth 100000 in
set_option maxHeartbeats 4000000 in
theorem reS_any (A A' : Option Addr) (n c c' s : Nat) (us fs : List Nat) (w : World) (h : Rd w w.heap.size (.slice A n c) (fl us)) (h' : Rd w w.heap.size (.slice A' n c') (fl fs)) (hn : us.length = n) (hn' : fs.length = n) (hl : liB n = true)
    (hf : finA us = true) (hf' : finA fs = true) (hx : ∀ x ∈ us, x < 2 ^ 32) (hx' : ∀ x ∈ fs, x < 2 ^ 32) (hs : s < 2 ^ 32) (hp : psB s = true) :
    Calls Try.prog 71 #[.slice A n c, .slice A' n c', .float .f32 s] w (RetW (reF us fs s) w) := by
  obtain ⟨i0, hi, hz0, hz1, hz2⟩ := info_parts infoF
  obtain ⟨h1, h63⟩ := liB_bd hl
  obtain ⟨b, off, rfl, hb, hc⟩ := h.num (i := 0) (by omega)
  obtain ⟨b', off', rfl, hb', hc'⟩ := h'.num (i := 0) (by omega)
  have hst : Is .f32 s s := ⟨cn_fin (ps_fin hp), hs⟩
  have HC := Lib.hid hc
  have HC' := Lib.hid hc'
  have HU := Lib.hid (IsW.self hf hx)
  have HF := Lib.hid (IsW.self hf' hx')
  have HE := Lib.hid (cons_is hf hx)
  have HA := Lib.hid (fun (W : World) (hW : Rd W w.heap.size (.slice (some ⟨b, off, none⟩) n c) (fl us)) (j : Nat) (hj : j ≤ n + 1) (z : Int) (hz : z = (j : Int) - 1) => atS_any (some ⟨b, off, none⟩) n c us W _ hW (by omega) (by omega) j hj z hz)
  have HR := Lib.hid h
  have HL := Lib.hid hn'
  have hsq : ∀ r, Is .f32 r (ar .mul .f32 s s) → Is .f32 r (sqF2 s) := fun r h => h
  clear h h' hc hc' hn hn' hl hf hf' hx hx'
  go_enter Try.func71, Try.ntmps71
  go_wp2
  go_loopw [7, 13] (ReS w us fs s) (fun _ i _ => n - (intOf i).toNat)
  case atStart => exact ⟨0, [], Nat.zero_le _, rfl, IsW.nil, RowF.lit _⟩
  case round =>
    obtain ⟨k, cur, hk, rfl, hw, hr⟩ := hrel
    rw [HL.out] at hk
    by_cases hlt : k < n
    · have c0 : wr.cell? ⟨b, off + k, none⟩ = some (.float .f32 (us.getD k 0)) := (hr.2.cell (p := ⟨b, off + k, none⟩) hb).trans (HC.out k hlt)
      have c1 : wr.cell? ⟨b', off' + k, none⟩ = some (.float .f32 (fs.getD k 0)) := (hr.2.cell (p := ⟨b', off' + k, none⟩) hb').trans (HC'.out k hlt)
      have k0 := HU.out.at k
      have kf := HF.out.at k
      have ke1 := HE.out k
      have ke2 := HE.out (k + 2)
      have HRr := Lib.hid (HR.out.below hr.2)
      have HA1 := Lib.hid (fun q => HA.out (wr.drewN q) (HRr.out.drewN q) k (by omega) ((k : Int) - 1) rfl)
      have HA2 := Lib.hid (fun q => HA.out (wr.drewN q) (HRr.out.drewN q) (k + 2) (by omega) ((k : Int) + 1) (by omega))
      have HS := Lib.hid (reP_succ us fs s k)
      have HD := Lib.hid (show reA us fs s k = ar .sub .f32 (fs.getD k 0) (ar .quo .f32 (ar .sub .f32 (ar .sub .f32 (ar .mul .f32 1073741824 (us.getD k 0)) ((0 :: us).getD k 0)) ((0 :: us).getD (k + 2) 0)) (ar .mul .f32 s s)) from rfl)
      have HR' := Lib.hid hr
      have HW := Lib.hid hw
      have HN := Lib.hid (show cur.length ≤ 64 by rw [hw.len, reP_len]; omega)
      generalize us.getD k 0 = x0 at *
      generalize fs.getD k 0 = y0 at *
      generalize (0 :: us).getD k 0 = xb at *
      generalize (0 :: us).getD (k + 2) 0 = xa at *
      clear hr hw
      go_wp2_with fail
      refine Sf.wp_soft [false, false, false, false, false, false, false, false, false, false, false, false, false, false, false, false] [true, true, true, true, true, true, true, true, true, true, true, true, true, true, true, true] (fun i => if i = 4 then 0 else if i = 9 then 0 else if i = 14 then 0 else 1) (fun i => if i = 8 then .float .f32 xb else if i = 13 then .float .f32 xa else undef) (by kernel_rfl) (by kernel_rfl) (by kernel_rfl) ?_
      simp only [Sf.tl]
      refine Sf.lx_one rfl rfl (fun K hK => Sf.dft_quiet rfl ?_)
      go_big_quiet_op
      refine hK _ ?_
      clear hK K
      refine Sf.lx_one rfl rfl (fun K hK => Sf.dft_quiet rfl ?_)
      go_big_quiet_op
      refine hK _ ?_
      clear hK K
      refine Sf.lx_one rfl rfl (fun K hK => Sf.dft_quiet rfl ?_)
      go_big_quiet_op
      refine hK _ ?_
      clear hK K
      refine Sf.lx_one rfl rfl (fun K hK => Sf.dft_quiet rfl ?_)
      go_big_quiet_op
      refine hK _ ?_
      clear hK K
      refine Sf.lx_fl rfl rfl (fun K hK => Sf.sft_ar (k := .f32) rfl rfl rfl rfl (is_lit (by decide)) (k0) (fun r20 hr20 => hK _ ?_))
      clear hK K
      simp only [Act.put, List.setIfInBounds_toArray, List.set_cons_zero, List.set_cons_succ]
      refine Sf.lx_one rfl rfl (fun K hK => Sf.dft_quiet rfl ?_)
      go_big_quiet_op
      refine hK _ ?_
      clear hK K
      refine Sf.lx_one rfl rfl (fun K hK => Sf.dft_quiet rfl ?_)
      go_big_quiet_op
      refine hK _ ?_
      clear hK K
      refine Sf.lx_one rfl rfl (fun K hK => Sf.dft_quiet rfl ?_)
      go_big_quiet_op
      refine hK _ ?_
      clear hK K
      refine Sf.lx_one rfl rfl (fun K hK => Sf.dft_call ?_ (hK _ ?_))
      · clear hK K; rintro _ ⟨nc, rfl⟩; go_simp; exact quiet_leftW (HA1.out _)
      clear hK K
      simp only [Act.put, List.setIfInBounds_toArray, List.set_cons_zero, List.set_cons_succ, if_true, if_false, reduceIte, Nat.reduceEqDiff]
      refine Sf.lx_fl rfl rfl (fun K hK => Sf.sft_ar (k := .f32) rfl rfl rfl rfl (hr20) (ke1) (fun r25 hr25 => hK _ ?_))
      clear hK K
      simp only [Act.put, List.setIfInBounds_toArray, List.set_cons_zero, List.set_cons_succ]
      refine Sf.lx_one rfl rfl (fun K hK => Sf.dft_quiet rfl ?_)
      go_big_quiet_op
      refine hK _ ?_
      clear hK K
      refine Sf.lx_one rfl rfl (fun K hK => Sf.dft_quiet rfl ?_)
      go_big_quiet_op
      refine hK _ ?_
      clear hK K
      refine Sf.lx_one rfl rfl (fun K hK => Sf.dft_quiet rfl ?_)
      go_big_quiet_op
      refine hK _ ?_
      clear hK K
      refine Sf.lx_one rfl rfl (fun K hK => Sf.dft_call ?_ (hK _ ?_))
      · clear hK K; rintro _ ⟨nc, rfl⟩; go_simp; exact quiet_leftW (HA2.out _)
      clear hK K
      simp only [Act.put, List.setIfInBounds_toArray, List.set_cons_zero, List.set_cons_succ, if_true, if_false, reduceIte, Nat.reduceEqDiff]
      refine Sf.lx_fl rfl rfl (fun K hK => Sf.sft_ar (k := .f32) rfl rfl rfl rfl (hr25) (ke2) (fun r30 hr30 => hK _ ?_))
      clear hK K
      simp only [Act.put, List.setIfInBounds_toArray, List.set_cons_zero, List.set_cons_succ]
      refine Sf.lx_one rfl rfl (fun K hK => Sf.dft_quiet rfl ?_)
      go_big_quiet_op
      refine hK _ ?_
      clear hK K
      refine Sf.lx_nil ?_
      rintro _ ⟨nq, rfl⟩
      go_wp2_with (first | (refine up_ar2 (op := .mul) rfl hst hst ?_; intro r1 n1 hr1) | (refine up_ar2 (op := .quo) rfl hr30 hr1 ?_; intro r2 n2 hr2) | (refine up_ar2 (op := .sub) rfl kf hr2 ?_; intro r3 n3 hr3) | (first | (at_builtin; refine wpList_append_own _ rfl _ _ 35 rfl w.heap.size 47 i0 (.float .f32 0) 1 4 Try.underlying35 hi hz0 hz1 hz2 rfl (by decide) _ _ _ rfl (HR'.out.1.alloc _) ⟨wr.heap.size, 0, none⟩ 1 1 [.float .f32 r3] rfl rfl (one_newF _ _ _) (cellsF [r3]) (by unfold maxLen; have := HN.out; omega) (by have := HN.out; omega) (by simp; have := HR'.out.2.size; omega) ?_; intro v' w1 hown' hgrow _) | (at_builtin; refine wpList_append_own _ rfl _ _ 35 rfl w.heap.size 47 i0 (.float .f32 0) 1 4 Try.underlying35 hi hz0 hz1 hz2 rfl (by decide) _ _ _ rfl ((rowDrewF HR'.out.1 _).alloc _) ⟨wr.heap.size, 0, none⟩ 1 1 [.float .f32 r3] rfl rfl (one_newF _ _ _) (cellsF [r3]) (by unfold maxLen; have := HN.out; omega) (by have := HN.out; omega) (by simp; have := HR'.out.2.size; omega) ?_; intro v' w1 hown' hgrow _)))
      have HR2 := Lib.hid (show RowF w v' (cur ++ [r3]) w1 from RowF.push hown' (by first | exact HR'.out.2.alloc HR'.out.2.size _ | exact (below_drawn HR'.out.2 _).alloc HR'.out.2.size _) hgrow (fun j hj => (HR'.out.1.lt j hj).1))
      clear hown' hgrow
      go_wp2
      go_roundw
      case rel => exact ⟨k + 1, cur ++ [r3], by rw [HL.out]; omega, by go_num, by rw [HS.out]; exact HW.out.app (by rw [HD.out]; exact hr3), HR2.out⟩
      case measure => simp [intOf]; omega
    · obtain rfl : k = n := by omega
      have hF : reP us fs s k = reF us fs s := by unfold reF; rw [HL.out]
      rw [hF] at hw
      have HW := Lib.hid hw
      have HR' := Lib.hid hr
      clear hw hr hF
      go_wp2
      go_ret
      exact ⟨_, cur, rfl, HW.out, HR'.out.own, HR'.out.2⟩
end Go.Proofs.Ytfcegkighjnmeaa
