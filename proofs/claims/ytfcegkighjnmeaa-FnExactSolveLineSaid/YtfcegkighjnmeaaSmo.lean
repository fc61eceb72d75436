/-
  Contracts: lines that are smoothed, by both sides.
-/
import Derived.Test.YtfcegkighjnmeaaChg
namespace Go.Proofs.Ytfcegkighjnmeaa
open Go.RowKit Fl
set_option linter.unusedVariables false

def wfA (fs : List Nat) (s i : Nat) : Nat := ar .mul .f32 (sqF2 s) (fs.getD i 0)
def smS (fs : List Nat) (s : Nat) (c : List Nat) (i : Nat) : List Nat := c.set i (ar .quo .f32 (ar .add .f32 (ar .add .f32 (wfA fs s i) ((0 :: c).getD i 0)) ((0 :: c).getD (i + 2) 0)) 1073741824)
def smK (c fs : List Nat) (s : Nat) : Nat → List Nat
  | 0 => c
  | k + 1 => smS fs s (smK c fs s k) k
def smF (c fs : List Nat) (s : Nat) : List Nat := smK c fs s c.length
theorem smK_len (c fs : List Nat) (s : Nat) : ∀ k, (smK c fs s k).length = c.length
  | 0 => rfl
  | k + 1 => by show (smS _ _ _ _).length = _; unfold smS; rw [List.length_set]; exact smK_len c fs s k
theorem smF_len (c fs : List Nat) (s : Nat) : (smF c fs s).length = c.length := smK_len _ _ _ _
/-! ### the reference -/
def SmO (w0 : World) (lo : Nat) (v : Value) (us fs : List Nat) (s t : Nat) (tv : Value) (wr : World) : Prop := ∃ (k : Nat) (cur : List Nat), k ≤ t ∧ tv = .int .i64 ((t : Int) - k) ∧ IsW cur (itG (fun c => smF c fs s) k us) ∧ Own wr lo v (fl cur) ∧ Below lo w0 wr
def SmN (w0 : World) (lo : Nat) (v : Value) (c fs : List Nat) (s : Nat) (iv : Value) (wr : World) : Prop := ∃ (i : Nat) (cur : List Nat), i ≤ c.length ∧ iv = .int .i64 i ∧ IsW cur (smK c fs s i) ∧ Own wr lo v (fl cur) ∧ Below lo w0 wr
set_option maxRecDepth 100000 in
set_option maxHeartbeats 8000000 in
theorem smS_any (A A' : Option Addr) (n c c' s t : Nat) (us fs : List Nat) (w : World) (h : Rd w w.heap.size (.slice A n c) (fl us)) (h' : Rd w w.heap.size (.slice A' n c') (fl fs)) (hn : us.length = n) (hn' : fs.length = n) (hl : liB n = true)
    (hf : finA us = true) (hf' : finA fs = true) (hx : ∀ x ∈ us, x < 2 ^ 32) (hx' : ∀ x ∈ fs, x < 2 ^ 32) (hs : s < 2 ^ 32) (hp : psB s = true) (ht : t ≤ 64) :
    Calls Try.prog 75 #[.slice A n c, .slice A' n c', .float .f32 s, .int .i64 t] w (RetW (itG (fun c => smF c fs s) t us) w) := by
  obtain ⟨i0, hi, hz0, hz1, hz2⟩ := info_parts infoF
  obtain ⟨h1, h63⟩ := liB_bd hl
  obtain ⟨b, off, rfl, hb, hc⟩ := h.num (i := 0) (by omega)
  obtain ⟨b', off', rfl, hb', hc'⟩ := h'.num (i := 0) (by omega)
  have hst : Is .f32 s s := ⟨cn_fin (ps_fin hp), hs⟩
  have hcl : ∀ j u, (fl us)[j]? = some u → (w.alloc (Obj.cells #[] 47)).cell? ((⟨b, off, none⟩ : Addr).add j) = some u := by
    intro j u hu
    have hj := (List.getElem?_eq_some_iff.1 hu).1
    rw [fl_len] at hj
    rw [fl_getD us j hj] at hu
    cases hu
    rw [Go.WideShapes.add_plain]
    exact (((Below.refl _ _).alloc (Nat.le_refl _) _).cell (p := ⟨b, off + j, none⟩) hb).trans (hc j (by omega))
  have hown : (w.alloc (Obj.cells #[] 47)).ownsRow w.heap.size 47 1 (.slice (some ⟨w.heap.size, 0, none⟩) 0 0) 0 (fl []) := World.ownsRow_made w #[] 0 (Nat.le_refl _) (Nat.zero_le _) rfl
  have hb0 : Below w.heap.size w (w.alloc (Obj.cells #[] 47)) := (Below.refl _ _).alloc (Nat.le_refl _) _
  have HU := Lib.hid (IsW.self hf hx)
  have HF := Lib.hid (IsW.self hf' hx')
  have HC' := Lib.hid hc'
  have HL := Lib.hid hn
  have HGL := Lib.hid (fun k => itG_len (G := fun c => smF c fs s) (c := us) (fun c' _ => by rw [smF_len]; assumption) k)
  have hxl : (fl us).length = n := by rw [fl_len]; exact hn
  clear h h' hc hc' hn hn' hl hf hf' hx hx'
  have hsf : ∀ (a : Addr) (x : Nat) (w : World), (store a (.float .f32 x)).run Try.prog w = stored Try.prog w a (.float .f32 x) .plain := fun a x w => run_store _ w a _ _ rfl
  go_enter Try.func75, Try.ntmps75
  go_wp2_with (at_builtin; refine wpList_append_own _ rfl _ _ 35 rfl w.heap.size 47 i0 (.float .f32 0) 1 4 Try.underlying35 hi hz0 hz1 hz2 rfl (by decide) _ _ _ rfl hown ⟨b, off, none⟩ n c (fl us) rfl (by rw [hxl]; omega) hcl (cellsF us) (by unfold maxLen; omega) (by omega) (by simp) ?_; intro v' w1 hown' hgrow _)
  have hb1 : Below w.heap.size w w1 := hb0.grown hgrow (by simp) (fun j hj => (hown.lt j hj).1)
  have ho1 : Own w1 w.heap.size v' (fl us) := by have := Own.row hown'; simpa [fl] using this
  obtain ⟨g, go, d, hv'⟩ := ho1.openF (by have := HL.out; omega)
  rw [HL.out] at hv'
  subst hv'
  have HO1 := Lib.hid ho1
  have HB1 := Lib.hid hb1
  clear hcl hown hb0 hown' hgrow hb1 ho1 hxl i0 hi hz0 hz1 hz2
  go_wp2_with fail
  go_loopw [3] (SmO w w.heap.size (.slice (some ⟨g, go, none⟩) n d) us fs s t) (fun tv _ => (intOf tv).toNat)
  case atStart => exact ⟨0, us, Nat.zero_le _, by first | rfl | (congr 1 <;> omega), HU.out, HO1.out, HB1.out⟩
  case round =>
    clear HO1 HB1
    obtain ⟨k, cur, hk, rfl, hw, ho, hbl⟩ := hrel
    obtain ⟨C, hC⟩ : ∃ C, itG (fun c => smF c fs s) k us = C := ⟨_, rfl⟩
    have hCl : C.length = n := by rw [← hC, HGL.out, HL.out]
    rw [hC] at hw
    by_cases hlt : k < t
    · have HCe := Lib.hid (show itG (fun c => smF c fs s) (k + 1) us = smF C fs s by rw [← hC]; rfl)
      have HCL := Lib.hid hCl
      have HW := Lib.hid hw
      have HO := Lib.hid ho
      have HB := Lib.hid hbl
      have hI : (0 : Int) < (t : Int) - k := by omega
      clear hw ho hbl hC hCl
      go_wp2_with fail
      go_loopw [21] (SmN w w.heap.size (.slice (some ⟨g, go, none⟩) n d) C fs s) (fun i _ => n - (intOf i).toNat)
      case atStart => exact ⟨0, cur, Nat.zero_le _, rfl, HW.out, HO.out, HB.out⟩
      case round =>
        clear HW HO HB
        obtain ⟨i, cur, hi, rfl, hw, ho, hbl⟩ := hrel
        rw [HCL.out] at hi
        by_cases hlt2 : i < n
        · obtain ⟨hcl, hg1, hg2, hcc, hfz⟩ := ho.nums (by omega)
          have c1 : wr.cell? ⟨b', off' + i, none⟩ = some (.float .f32 (fs.getD i 0)) := (hbl.cell (p := ⟨b', off' + i, none⟩) hb').trans (HC'.out i hlt2)
          have d0 := hcc i hlt2
          have z0 := hfz i hlt2
          have kf := HF.out.at i
          have k1 := cons_isW hw i
          have k2 := cons_isW hw (i + 2)
          have HA1 := Lib.hid (fun q => atS_any (some ⟨g, go, none⟩) n d cur (wr.drewN q) _ (ho.drewN q).rd (by omega) (by omega) i (by omega) ((i : Int) - 1) rfl)
          have HA2 := Lib.hid (fun q => atS_any (some ⟨g, go, none⟩) n d cur (wr.drewN q) _ (ho.drewN q).rd (by omega) (by omega) (i + 2) (by omega) ((i : Int) + 1) (by omega))
          have HD := Lib.hid (show smK C fs s (i + 1) = (smK C fs s i).set i (ar .quo .f32 (ar .add .f32 (ar .add .f32 (ar .mul .f32 (ar .mul .f32 s s) (fs.getD i 0)) ((0 :: smK C fs s i).getD i 0)) ((0 :: smK C fs s i).getD (i + 2) 0)) 1073741824) from rfl)
          have HW := Lib.hid hw
          have HO := Lib.hid ho
          have HB := Lib.hid hbl
          generalize fs.getD i 0 = y0 at *
          generalize (0 :: cur).getD i 0 = xb at *
          generalize (0 :: cur).getD (i + 2) 0 = xa at *
          generalize cur.getD i 0 = x0 at *
          clear hw ho hbl hcl hcc hfz
          go_wp2_with fail
          refine Sf.wp_soft [false, false, false, false, false, false, false, false, false, false, false, false, false, false, false, false, false, false, false] [true, true, true, true, true, true, true, true, true, true, true, true, true, true, true, true, true, true, true] (fun i => if i = 2 then 0 else if i = 7 then 0 else if i = 12 then 0 else if i = 17 then 0 else 1) (fun i => if i = 11 then .float .f32 xb else if i = 16 then .float .f32 xa else undef) (by kernel_rfl) (by kernel_rfl) (by kernel_rfl) ?_
          simp only [Sf.tl]
          refine Sf.lx_one rfl rfl (fun K hK => Sf.dft_quiet rfl ?_)
          go_big_quiet_op
          refine hK _ ?_
          clear hK K
          refine Sf.lx_one rfl rfl (fun K hK => Sf.dft_quiet rfl ?_)
          go_big_quiet_op
          refine hK _ ?_
          clear hK K
          refine Sf.lx_fl rfl rfl (fun K hK => Sf.sft_ar (k := .f32) rfl rfl rfl rfl (hst) (hst) (fun r26 hr26 => hK _ ?_))
          clear hK K
          simp only [Act.put, List.setIfInBounds_toArray, List.set_cons_zero, List.set_cons_succ]
          refine Sf.lx_one rfl rfl (fun K hK => Sf.dft_quiet rfl ?_)
          go_big_quiet_op
          refine hK _ ?_
          clear hK K
          refine Sf.lx_one rfl rfl (fun K hK => Sf.dft_quiet rfl ?_)
          go_big_quiet_op
          refine hK _ ?_
          clear hK K
          refine Sf.lx_one rfl rfl (fun K hK => Sf.dft_quiet rfl ?_)
          go_big_quiet_op
          refine hK _ ?_
          clear hK K
          refine Sf.lx_one rfl rfl (fun K hK => Sf.dft_quiet rfl ?_)
          go_big_quiet_op
          refine hK _ ?_
          clear hK K
          refine Sf.lx_fl rfl rfl (fun K hK => Sf.sft_ar (k := .f32) rfl rfl rfl rfl (hr26) (kf) (fun r31 hr31 => hK _ ?_))
          clear hK K
          simp only [Act.put, List.setIfInBounds_toArray, List.set_cons_zero, List.set_cons_succ]
          refine Sf.lx_one rfl rfl (fun K hK => Sf.dft_quiet rfl ?_)
          go_big_quiet_op
          refine hK _ ?_
          clear hK K
          refine Sf.lx_one rfl rfl (fun K hK => Sf.dft_quiet rfl ?_)
          go_big_quiet_op
          refine hK _ ?_
          clear hK K
          refine Sf.lx_one rfl rfl (fun K hK => Sf.dft_quiet rfl ?_)
          go_big_quiet_op
          refine hK _ ?_
          clear hK K
          refine Sf.lx_one rfl rfl (fun K hK => Sf.dft_call ?_ (hK _ ?_))
          · clear hK K; rintro _ ⟨nc, rfl⟩; go_simp; exact quiet_leftW (HA1.out _)
          clear hK K
          simp only [Act.put, List.setIfInBounds_toArray, List.set_cons_zero, List.set_cons_succ, if_true, if_false, reduceIte, Nat.reduceEqDiff]
          refine Sf.lx_fl rfl rfl (fun K hK => Sf.sft_ar (k := .f32) rfl rfl rfl rfl (hr31) (k1) (fun r36 hr36 => hK _ ?_))
          clear hK K
          simp only [Act.put, List.setIfInBounds_toArray, List.set_cons_zero, List.set_cons_succ]
          refine Sf.lx_one rfl rfl (fun K hK => Sf.dft_quiet rfl ?_)
          go_big_quiet_op
          refine hK _ ?_
          clear hK K
          refine Sf.lx_one rfl rfl (fun K hK => Sf.dft_quiet rfl ?_)
          go_big_quiet_op
          refine hK _ ?_
          clear hK K
          refine Sf.lx_one rfl rfl (fun K hK => Sf.dft_quiet rfl ?_)
          go_big_quiet_op
          refine hK _ ?_
          clear hK K
          refine Sf.lx_one rfl rfl (fun K hK => Sf.dft_call ?_ (hK _ ?_))
          · clear hK K; rintro _ ⟨nc, rfl⟩; go_simp; exact quiet_leftW (HA2.out _)
          clear hK K
          simp only [Act.put, List.setIfInBounds_toArray, List.set_cons_zero, List.set_cons_succ, if_true, if_false, reduceIte, Nat.reduceEqDiff]
          refine Sf.lx_fl rfl rfl (fun K hK => Sf.sft_ar (k := .f32) rfl rfl rfl rfl (hr36) (k2) (fun r41 hr41 => hK _ ?_))
          clear hK K
          simp only [Act.put, List.setIfInBounds_toArray, List.set_cons_zero, List.set_cons_succ]
          refine Sf.lx_one rfl rfl (fun K hK => Sf.dft_quiet rfl ?_)
          go_big_quiet_op
          refine hK _ ?_
          clear hK K
          refine Sf.lx_nil ?_
          rintro _ ⟨nq, rfl⟩
          go_wp2_with (refine up_ar2 (op := .mul) rfl (is_lit (by decide) : Is .f32 1056964608 1056964608) hr41 ?_; intro r1 n1 hr1)
          rw [half_two] at hr1
          go_roundw
          case rel =>
            refine ⟨i + 1, cur.set i r1, by rw [HCL.out]; omega, by go_num, ?_, (HO.out.drewN _).putF i hlt2 r1, (below_drawn HB.out _).setCell hg1 _⟩
            rw [HD.out]; exact HW.out.set i hr1
          case measure => simp [intOf]; omega
        · obtain rfl : i = n := by omega
          have hF : smK C fs s i = smF C fs s := by unfold smF; rw [HCL.out]
          rw [hF, ← HCe.out] at hw
          have HW := Lib.hid hw
          have HO := Lib.hid ho
          have HB := Lib.hid hbl
          clear hw ho hbl hF
          go_wp2_with fail
          go_roundw
          case rel => exact ⟨k + 1, cur, by omega, by first | rfl | (congr 1 <;> omega), HW.out, HO.out, HB.out⟩
          case measure => simp [intOf]; omega
    · obtain rfl : k = t := by omega
      rw [← hC] at hw
      have HW := Lib.hid hw
      have HO := Lib.hid ho
      have HB := Lib.hid hbl
      have hI : ¬ (0 : Int) < (k : Int) - k := by omega
      clear hw ho hbl hC hCl
      go_wp2_with fail
      go_ret
      exact ⟨_, cur, rfl, HW.out, HO.out, HB.out⟩
end Go.Proofs.Ytfcegkighjnmeaa
