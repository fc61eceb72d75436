/-
  Contracts: grids made again from their surpluses, by both sides.
-/
import Derived.Test.YtfcegkighjnmeaaSui
namespace Go.Proofs.Ytfcegkighjnmeaa
open Go.RowKit Fl
set_option linter.unusedVariables false

def hbP (n h : Nat) : Prop := h = 0 ∨ ((n - 1) % (2 * h) = 0 ∧ (h = 1 ∨ h = 2 ∨ h = 4 ∨ h = 8 ∨ h = 16 ∨ h = 32))
theorem hb_start {n : Nat} (h : gdB n = true) : hbP n ((n - 1) / 2) := by
  rcases gdB_out h with rfl | rfl | rfl | rfl | rfl | rfl | rfl <;> unfold hbP <;> omega
theorem hb_next {n h : Nat} (hp : hbP n h) : hbP n (h / 2) := by
  unfold hbP at hp ⊢
  rcases hp with rfl | ⟨h1, rfl | rfl | rfl | rfl | rfl | rfl⟩ <;> omega
theorem hb_bd {n h : Nat} (hp : hbP n h) : h ≤ 32 := by unfold hbP at hp; omega
theorem hb_in {n h i : Nat} (hp : hbP n h) (h1 : 1 ≤ h) (him : i % (2 * h) = h) (hlt : i + 1 < n) : h ≤ i ∧ i + h < n := by
  unfold hbP at hp
  rcases hp with rfl | ⟨h2, rfl | rfl | rfl | rfl | rfl | rfl⟩ <;> omega
def FsO (w0 : World) (lo : Nat) (v : Value) (n : Nat) (R : List Nat) (hv : Value) (wr : World) : Prop := ∃ (h f : Nat) (cur c : List Nat), hbP n h ∧ h ≤ f ∧ hv = .int .i64 h ∧ IsW cur c ∧ c.length = n ∧ fsOut n f h c = R ∧ Own wr lo v (fl cur) ∧ Below lo w0 wr
def FsI (w0 : World) (lo : Nat) (v : Value) (n h : Nat) (R : List Nat) (iv : Value) (wr : World) : Prop := ∃ (i f : Nat) (cur c : List Nat), n ≤ f + i ∧ i % (2 * h) = h ∧ i ≤ 256 ∧ iv = .int .i64 i ∧ IsW cur c ∧ c.length = n ∧ fsIn n h f i c = R ∧ Own wr lo v (fl cur) ∧ Below lo w0 wr
theorem fs_cast {n h f i : Nat} {c R : List Nat} (e : fsIn n h f i c = R) (hf : n ≤ f + i) (h1 : 1 ≤ h) (hlt : i + 1 < n) : ∃ f', n ≤ f' + (i + 2 * h) ∧ fsIn n h f' (i + 2 * h) (fsS h i c) = R := by
  obtain ⟨f', rfl, e'⟩ := fsIn_go (h := h) (c := c) hf hlt
  exact ⟨f', by omega, by rw [← e']; exact e⟩
theorem fso_cast {n h f : Nat} {c R : List Nat} (e : fsOut n f h c = R) (hf : h ≤ f) (h1 : 1 ≤ h) : ∃ f', h / 2 ≤ f' ∧ fsOut n f' (h / 2) (fsIn n h n h c) = R := by
  obtain ⟨f', rfl, e'⟩ := fsOut_go (n := n) (c := c) hf h1
  exact ⟨f', by omega, by rw [← e']; exact e⟩
set_option maxRecDepth 100000 in
set_option maxHeartbeats 4000000 in
theorem fsS_any (A : Option Addr) (n c : Nat) (xs : List Nat) (w : World) (h : Rd w w.heap.size (.slice A n c) (fl xs)) (hn : xs.length = n) (hg : gdB n = true) (hf : finA xs = true) (hx : ∀ x ∈ xs, x < 2 ^ 32) :
    Calls Try.prog 87 #[.slice A n c] w (RetW (fsF xs) w) := by
  have hg0 := gdB_bd hg
  have e0 : ((n : Int) - 1) / 2 = (((n - 1) / 2 : Nat) : Int) := by omega
  obtain ⟨i0, hi, hz0, hz1, hz2⟩ := info_parts infoF
  obtain ⟨b, off, rfl, hb, hc⟩ := h.num (i := 0) (by omega)
  have hcl : ∀ j u, (fl xs)[j]? = some u → (w.alloc (Obj.cells #[] 47)).cell? ((⟨b, off, none⟩ : Addr).add j) = some u := by
    intro j u hu
    have hj := (List.getElem?_eq_some_iff.1 hu).1
    rw [fl_len] at hj
    rw [fl_getD xs j hj] at hu
    cases hu
    rw [Go.WideShapes.add_plain]
    exact (((Below.refl _ _).alloc (Nat.le_refl _) _).cell (p := ⟨b, off + j, none⟩) hb).trans (hc j (by omega))
  have hown : (w.alloc (Obj.cells #[] 47)).ownsRow w.heap.size 47 1 (.slice (some ⟨w.heap.size, 0, none⟩) 0 0) 0 (fl []) := World.ownsRow_made w #[] 0 (Nat.le_refl _) (Nat.zero_le _) rfl
  have hb0 : Below w.heap.size w (w.alloc (Obj.cells #[] 47)) := (Below.refl _ _).alloc (Nat.le_refl _) _
  have HX := Lib.hid (IsW.self hf hx)
  have HL := Lib.hid hn
  have HG := Lib.hid hg
  have hn65 := (gdB_bd hg).2
  have hn2 := (gdB_bd hg).1
  have hxl : (fl xs).length = n := by rw [fl_len]; exact hn
  clear hf hx hn hg h
  have hsf : ∀ (a : Addr) (x : Nat) (w : World), (store a (.float .f32 x)).run Try.prog w = stored Try.prog w a (.float .f32 x) .plain := fun a x w => run_store _ w a _ _ rfl
  go_enter Try.func87, Try.ntmps87
  go_wp2_with (at_builtin; refine wpList_append_own _ rfl _ _ 35 rfl w.heap.size 47 i0 (.float .f32 0) 1 4 Try.underlying35 hi hz0 hz1 hz2 rfl (by decide) _ _ _ rfl hown ⟨b, off, none⟩ n c (fl xs) rfl (by rw [hxl]; omega) hcl (cellsF xs) (by unfold maxLen; omega) (by omega) (by simp) ?_; intro v' w1 hown' hgrow _)
  have hb1 : Below w.heap.size w w1 := hb0.grown hgrow (by simp) (fun j hj => (hown.lt j hj).1)
  have ho1 : Own w1 w.heap.size v' (fl xs) := by have := Own.row hown'; simpa [fl] using this
  obtain ⟨g, go, c', hv'⟩ := ho1.openF (by have := HL.out; omega)
  rw [HL.out] at hv'
  subst hv'
  have HC := Lib.hid hc
  have HO1 := Lib.hid ho1
  have HB1 := Lib.hid hb1
  clear hcl hown hb0 hown' hgrow hc hb1 ho1 hxl i0 hi hz0 hz1 hz2
  go_wp2_with fail
  go_loopw [5] (FsO w w.heap.size (.slice (some ⟨g, go, none⟩) n c') n (fsF xs)) (fun h _ => (intOf h).toNat)
  case atStart => exact ⟨(n - 1) / 2, n, xs, xs, hb_start HG.out, by omega, by first | rfl | (congr 1 <;> omega), HX.out, HL.out, by unfold fsF; rw [HL.out], HO1.out, HB1.out⟩
  case round =>
    clear HO1 HB1
    obtain ⟨h, fu, cur, c0, hp, hfu, rfl, hw, hcl0, hR, ho, hbl⟩ := hrel
    have hb32 := hb_bd hp
    have HP := Lib.hid hp
    by_cases hlt : 1 ≤ h
    · obtain ⟨fu', hfu', hR'⟩ := fso_cast hR hfu hlt
      have HR := Lib.hid hR'
      have HW := Lib.hid hw
      have HO := Lib.hid ho
      have HB := Lib.hid hbl
      have HC0 := Lib.hid hcl0
      clear hp hw ho hbl hR hR' hcl0 hfu
      go_wp2_with fail
      go_loopw [6] (FsI w w.heap.size (.slice (some ⟨g, go, none⟩) n c') n h (fsIn n h n h c0)) (fun i _ => 512 - (intOf i).toNat)
      case atStart => exact ⟨h, n, cur, c0, by omega, by rw [Nat.mod_eq_of_lt (by omega)], by omega, rfl, HW.out, HC0.out, rfl, HO.out, HB.out⟩
      case round =>
        clear HW HO HB
        obtain ⟨i, fi, cur, cc, hfi, him, hi256, rfl, hw, hccl, hRi, ho, hbl⟩ := hrel
        by_cases hlt2 : i + 1 < n
        · obtain ⟨hih, hq0⟩ := hb_in HP.out hlt him hlt2
          obtain ⟨fi', hfi', hRi'⟩ := fs_cast hRi hfi hlt hlt2
          have hI2 : (i : Int) < (n : Int) - 1 := by omega
          obtain ⟨hcl, hg1, hg2, hcc, hfz⟩ := ho.nums (by omega)
          obtain ⟨p, hp⟩ : ∃ p, i - h = p := ⟨_, rfl⟩
          obtain ⟨q, hq⟩ : ∃ q, i + h = q := ⟨_, rfl⟩
          have HS := Lib.hid (show fsS h i cc = cc.set i (ar .add .f32 (cc.getD i 0) (h2F (cc.getD (i - h) 0) (cc.getD (i + h) 0))) from rfl)
          rw [hp, hq] at HS
          have e1 : (i : Int) - h = p := by omega
          have e2 : (i : Int) + h = q := by omega
          have b0 : i < n := by omega
          have b1 : p < n := by omega
          have b2 : q < n := by omega
          have d0 := hcc i b0
          have d1 := hcc p b1
          have d2 := hcc q b2
          have z0 := hfz i b0
          have k0 := hw.at i
          have k1 := hw.at p
          have k2 := hw.at q
          have HW := Lib.hid hw
          have HO := Lib.hid ho
          have HB := Lib.hid hbl
          have HM := Lib.hid him
          have HRi := Lib.hid hRi'
          have HCC := Lib.hid hccl
          have HFi := Lib.hid hfi'
          clear hw ho hbl hcl hcc hfz him hRi hRi' hccl hfi hfi'
          generalize cur.getD i 0 = x0 at *
          generalize cur.getD p 0 = x1 at *
          generalize cur.getD q 0 = x2 at *
          clear hp hq
          go_wp2_with fail
          refine Sf.wp_soft [false, false, false, false, false, false, false, false, false, false, false, false, false, false, false, false, false, false, false, false, false, false, true] [true, true, true, true, true, true, true, true, true, true, true, true, true, true, true, true, true, true, true, true, true, true, false] (fun i => if i = 18 then 0 else if i = 19 then 0 else if i = 20 then 0 else 1) (fun _ => undef) (by kernel_rfl) (by kernel_rfl) (by kernel_rfl) ?_
          simp only [Sf.tl]
          refine Sf.lx_one rfl rfl (fun K hK => Sf.dft_quiet rfl ?_)
          go_big_quiet_op
          refine hK _ ?_
          clear hK K
          refine Sf.lx_one rfl rfl (fun K hK => Sf.dft_quiet rfl ?_)
          go_big_quiet_op
          refine hK _ ?_
          clear hK K
          refine Sf.lx_one rfl rfl (fun K hK => Sf.dft_quiet rfl ?_)
          go_big_quiet_op
          refine hK _ ?_
          clear hK K
          refine Sf.lx_one rfl rfl (fun K hK => Sf.dft_quiet rfl ?_)
          go_big_quiet_op
          refine hK _ ?_
          clear hK K
          refine Sf.lx_one rfl rfl (fun K hK => Sf.dft_quiet rfl ?_)
          go_big_quiet_op
          refine hK _ ?_
          clear hK K
          refine Sf.lx_one rfl rfl (fun K hK => Sf.dft_quiet rfl ?_)
          go_big_quiet_op
          refine hK _ ?_
          clear hK K
          refine Sf.lx_one rfl rfl (fun K hK => Sf.dft_quiet rfl ?_)
          go_big_quiet_op
          refine hK _ ?_
          clear hK K
          refine Sf.lx_one rfl rfl (fun K hK => Sf.dft_quiet rfl ?_)
          go_big_quiet_op
          refine hK _ ?_
          clear hK K
          refine Sf.lx_one rfl rfl (fun K hK => Sf.dft_quiet rfl ?_)
          go_big_quiet_op
          refine hK _ ?_
          clear hK K
          refine Sf.lx_one rfl rfl (fun K hK => Sf.dft_quiet rfl ?_)
          go_big_quiet_op
          refine hK _ ?_
          clear hK K
          refine Sf.lx_one rfl rfl (fun K hK => Sf.dft_quiet rfl ?_)
          go_big_quiet_op
          refine hK _ ?_
          clear hK K
          refine Sf.lx_one rfl rfl (fun K hK => Sf.dft_quiet rfl ?_)
          go_big_quiet_op
          refine hK _ ?_
          clear hK K
          refine Sf.lx_one rfl rfl (fun K hK => Sf.dft_quiet rfl ?_)
          go_big_quiet_op
          refine hK _ ?_
          clear hK K
          refine Sf.lx_one rfl rfl (fun K hK => Sf.dft_quiet rfl ?_)
          go_big_quiet_op
          refine hK _ ?_
          clear hK K
          refine Sf.lx_one rfl rfl (fun K hK => Sf.dft_quiet rfl ?_)
          go_big_quiet_op
          refine hK _ ?_
          clear hK K
          refine Sf.lx_one rfl rfl (fun K hK => Sf.dft_quiet rfl ?_)
          go_big_quiet_op
          refine hK _ ?_
          clear hK K
          refine Sf.lx_one rfl rfl (fun K hK => Sf.dft_quiet rfl ?_)
          go_big_quiet_op
          refine hK _ ?_
          clear hK K
          refine Sf.lx_one rfl rfl (fun K hK => Sf.dft_quiet rfl ?_)
          go_big_quiet_op
          refine hK _ ?_
          clear hK K
          refine Sf.lx_fl rfl rfl (fun K hK => Sf.sft_ar (k := .f32) rfl rfl rfl rfl (k1) (k2) (fun r46 hr46 => hK _ ?_))
          clear hK K
          simp only [Act.put, List.setIfInBounds_toArray, List.set_cons_zero, List.set_cons_succ]
          refine Sf.lx_fl rfl rfl (fun K hK => Sf.sft_ar (k := .f32) rfl rfl rfl rfl (is_lit (by decide)) (hr46) (fun r47 hr47 => hK _ ?_))
          clear hK K
          simp only [Act.put, List.setIfInBounds_toArray, List.set_cons_zero, List.set_cons_succ]
          refine Sf.lx_fl rfl rfl (fun K hK => Sf.sft_ar (k := .f32) rfl rfl rfl rfl (k0) (hr47) (fun r48 hr48 => hK _ ?_))
          clear hK K
          simp only [Act.put, List.setIfInBounds_toArray, List.set_cons_zero, List.set_cons_succ]
          refine Sf.lx_one rfl rfl (fun K hK => Sf.dft_quiet rfl ?_)
          go_big_quiet_op
          refine hK _ ?_
          clear hK K
          refine Sf.lx_over ?_
          refine Sf.lx_nil ?_
          rintro _ ⟨nq, rfl⟩
          have hres := hr48
          rw [half_two] at hres
          clear hr46 hr47 hr48
          go_wp2_with fail
          go_roundw
          case rel =>
            refine ⟨i + 2 * h, fi', cur.set i r48, fsS h i cc, HFi.out, by rw [Nat.add_mod_right]; exact HM.out, by omega, by go_num, ?_, by rw [fsS_len]; exact HCC.out, HRi.out, ?_, ?_⟩
            · rw [HS.out]; exact HW.out.set i hres
            · exact (HO.out.drewN _).putF i b0 r48
            · exact (below_drawn HB.out _).setCell hg1 _
          case measure => simp [intOf]; omega
        · have hI2 : ¬ (i : Int) < (n : Int) - 1 := by omega
          have hS := fsIn_stop (h := h) (f := fi) (c := cc) (show n ≤ i + 1 by omega)
          rw [hS] at hRi
          have HRi := Lib.hid hRi
          have HW := Lib.hid hw
          have HO := Lib.hid ho
          have HB := Lib.hid hbl
          have HCC := Lib.hid hccl
          clear hw ho hbl him hRi hS hccl hfi
          go_wp2_with fail
          go_roundw
          case rel => exact ⟨h / 2, fu', cur, cc, hb_next HP.out, hfu', by go_num, HW.out, HCC.out, by rw [HRi.out]; exact HR.out, HO.out, HB.out⟩
          case measure => simp [intOf]; omega
    · obtain rfl : h = 0 := by omega
      rw [fsOut_stop] at hR
      have HR := Lib.hid hR
      have HW := Lib.hid hw
      have HO := Lib.hid ho
      have HB := Lib.hid hbl
      clear hp hw ho hbl hR hcl0
      go_wp2_with fail
      go_ret
      exact ⟨_, cur, rfl, by rw [← HR.out]; exact HW.out, HO.out, HB.out⟩
def fsB (xs : List Nat) : Bool := grB xs && finA (fsF xs)
def fsV (xs : List Nat) : List Nat := if fsB xs then fsF xs else []
theorem fsV_yes {xs : List Nat} (h : fsB xs = true) : fsV xs = fsF xs := by unfold fsV; rw [if_pos h]
theorem fsV_no {xs : List Nat} (h : fsB xs = false) : fsV xs = [] := by unfold fsV; rw [if_neg (by rw [h]; simp)]
theorem fsV_len (xs : List Nat) (h : xs.length ≤ 1048576) : (fsV xs).length ≤ 1048576 := by
  cases hb : fsB xs with
  | false => rw [fsV_no hb]; simp
  | true => rw [fsV_yes hb, fsF_len]; exact h
set_option maxRecDepth 100000 in
set_option maxHeartbeats 2000000 in
theorem fsfS_any (v : Value) (xs : List Nat) (w : World) (h : Rd w w.heap.size v (fl xs)) (hm : xs.length ≤ 1048576) (hx : ∀ x ∈ xs, x < 2 ^ 32) :
    Calls Try.prog 47 #[v] w (RetLF (fsV xs) (fsB xs) w) := by
  have HT := Lib.hid (isgS_any v xs w _ h hm hx)
  obtain ⟨A, c, hv, _, _, _⟩ := id h
  rw [fl_len] at hv
  subst hv
  cases hg : grB xs with
  | false =>
    have hb : fsB xs = false := by unfold fsB; rw [hg, Bool.false_and]
    rw [fsV_no hb, hb]
    have HG := Lib.hid hg
    clear hg hb h
    go_enter Try.func47, Try.ntmps47
    go_wp2_with (go_at_call 82; refine HT.out.mono ?_; rintro e w' ⟨rfl, n1, rfl⟩; rw [HG.out])
    go_ret2
    exact retLF_none (below_drawn (Below.refl _ _) _)
  | true =>
    obtain ⟨g1, g2⟩ := grB_len hg
    have HW := Lib.hid (fun q => fsS_any _ _ _ xs (w.drewN q) (h.drewN q) rfl g1 g2 hx)
    have HL := Lib.hid (show (fsF xs).length ≤ 1048576 by rw [fsF_len]; exact hm)
    have HB := Lib.hid (show fsB xs = finA (fsF xs) by unfold fsB; rw [hg, Bool.true_and])
    have HG := Lib.hid hg
    clear hg g1 g2 h hx
    cases hf : finA (fsF xs) with
    | false =>
      rw [hf] at HB
      have HF := Lib.hid hf
      clear hf
      go_enter Try.func47, Try.ntmps47
      go_wp2_with (first | (go_at_call 82; refine HT.out.mono ?_; rintro e w' ⟨rfl, n1, rfl⟩; rw [HG.out]) | (go_at_call 87; refine (HW.out _).mono ?_; rintro e w2 ⟨u, ys, rfl, hw, ho, hb2⟩; have HI := Lib.hid hw; have HO := Lib.hid ho; have HD := Lib.hid hb2; clear hw ho hb2) | (go_at_call 63; refine (finS_any _ ys _ _ HO.out.rd (by rw [HI.out.len]; exact HL.out) HI.out.lt).mono ?_; rintro e w3 ⟨rfl, n3, rfl⟩; rw [HI.out.fin, HF.out]))
      go_ret2
      rw [fsV_no HB.out, HB.out]
      exact retLF_none (below_drawn ((below_drawn (Below.refl w.heap.size w) _).trans HD.out) _)
    | true =>
      rw [hf] at HB
      have HF := Lib.hid hf
      clear hf
      go_enter Try.func47, Try.ntmps47
      go_wp2_with (first | (go_at_call 82; refine HT.out.mono ?_; rintro e w' ⟨rfl, n1, rfl⟩; rw [HG.out]) | (go_at_call 87; refine (HW.out _).mono ?_; rintro e w2 ⟨u, ys, rfl, hw, ho, hb2⟩; have HI := Lib.hid hw; have HO := Lib.hid ho; have HD := Lib.hid hb2; clear hw ho hb2) | (go_at_call 63; refine (finS_any _ ys _ _ HO.out.rd (by rw [HI.out.len]; exact HL.out) HI.out.lt).mono ?_; rintro e w3 ⟨rfl, n3, rfl⟩; rw [HI.out.fin, HF.out]))
      go_ret2
      rw [fsV_yes HB.out, HB.out, ← HI.out.eq HF.out]
      exact ⟨_, rfl, HO.out.drewN _, below_drawn ((below_drawn (Below.refl w.heap.size w) _).trans HD.out) _⟩
set_option maxRecDepth 100000 in
set_option maxHeartbeats 4000000 in
theorem fsfI_any (v : Value) (xs : List Nat) (w : World) (h : Rd w w.heap.size v (fl xs)) (hm : xs.length ≤ 1048576) (hx : ∀ x ∈ xs, x < 2 ^ 32) :
    Calls Try.prog 48 #[v] w (RetLF (fsV xs) (fsB xs) w) := by
  have HT := Lib.hid (isgI_any v xs w _ h hm hx)
  obtain ⟨A, c, hv, _, _, _⟩ := id h
  rw [fl_len] at hv
  subst hv
  cases hg : grB xs with
  | false =>
    have hb : fsB xs = false := by unfold fsB; rw [hg, Bool.false_and]
    rw [fsV_no hb, hb]
    have HG := Lib.hid hg
    clear hg hb h
    go_enter Try.func48, Try.ntmps48
    go_wp2_with (go_at_call 84; refine HT.out.mono ?_; rintro e w' ⟨rfl, n1, rfl⟩; rw [HG.out])
    go_ret2
    exact retLF_none (below_drawn (Below.refl _ _) _)
  | true =>
    obtain ⟨g1, g2⟩ := grB_len hg
    obtain ⟨b2, b65⟩ := gdB_bd g1
    have HBB := Lib.hid (show fsB xs = finA (fsF xs) by unfold fsB; rw [hg, Bool.true_and])
    have HGG := Lib.hid hg
    have HX := Lib.hid (IsW.self g2 hx)
    obtain ⟨n, hn⟩ : ∃ n, xs.length = n := ⟨_, rfl⟩
    have HL := Lib.hid hn
    rw [hn] at h g1 b2 b65 hm HT ⊢
    have HG := Lib.hid g1
    have HC := Lib.hid (fun q => clnF_any A n c xs (w.drewN q) (h.drewN q) hn (by omega) hm)
    have e0 : ((n : Int) - 1) / 2 = (((n - 1) / 2 : Nat) : Int) := by omega
    clear hg g1 g2 h hx hn hm
    have hsf : ∀ (a : Addr) (x : Nat) (w : World), (store a (.float .f32 x)).run Try.prog w = stored Try.prog w a (.float .f32 x) .plain := fun a x w => run_store _ w a _ _ rfl
    go_enter Try.func48, Try.ntmps48
    go_wp2_with (first | (go_at_call 84; refine HT.out.mono ?_; rintro e w' ⟨rfl, n1, rfl⟩; rw [HGG.out]) | (go_at_call 85; refine (HC.out _).mono ?_; rintro e w1 ⟨v', rfl, ho, hb1⟩; obtain ⟨g, go, c', hv'⟩ := ho.openF (by have := HL.out; omega); rw [HL.out] at hv'; subst hv'))
    have HO1 := Lib.hid ho
    have HB1 := Lib.hid ((below_drawn (Below.refl w.heap.size w) n1).trans hb1)
    clear ho hb1 HC HT
    go_loopw [6] (FsO w w.heap.size (.slice (some ⟨g, go, none⟩) n c') n (fsF xs)) (fun h _ => (intOf h).toNat)
    case atStart => exact ⟨(n - 1) / 2, n, xs, xs, hb_start HG.out, by omega, by first | rfl | (congr 1 <;> omega), HX.out, HL.out, by unfold fsF; rw [HL.out], HO1.out, HB1.out⟩
    case round =>
      clear HO1 HB1
      obtain ⟨h, fu, cur, c0, hp, hfu, rfl, hw, hcl0, hR, ho, hbl⟩ := hrel
      have hb32 := hb_bd hp
      have HP := Lib.hid hp
      by_cases hlt : 1 ≤ h
      · obtain ⟨fu', hfu', hR'⟩ := fso_cast hR hfu hlt
        have HR := Lib.hid hR'
        have HW := Lib.hid hw
        have HO := Lib.hid ho
        have HB := Lib.hid hbl
        have HC0 := Lib.hid hcl0
        clear hp hw ho hbl hR hR' hcl0 hfu
        go_wp2_with fail
        go_loopw [7] (FsI w w.heap.size (.slice (some ⟨g, go, none⟩) n c') n h (fsIn n h n h c0)) (fun i _ => 512 - (intOf i).toNat)
        case atStart => exact ⟨h, n, cur, c0, by omega, by rw [Nat.mod_eq_of_lt (by omega)], by omega, rfl, HW.out, HC0.out, rfl, HO.out, HB.out⟩
        case round =>
          clear HW HO HB
          obtain ⟨i, fi, cur, cc, hfi, him, hi256, rfl, hw, hccl, hRi, ho, hbl⟩ := hrel
          by_cases hlt2 : i + 1 < n
          · obtain ⟨hih, hq0⟩ := hb_in HP.out hlt him hlt2
            obtain ⟨fi', hfi', hRi'⟩ := fs_cast hRi hfi hlt hlt2
            have hI2 : (i : Int) < (n : Int) - 1 := by omega
            obtain ⟨hcl, hg1, hg2, hcc, hfz⟩ := ho.nums (by omega)
            obtain ⟨p, hp⟩ : ∃ p, i - h = p := ⟨_, rfl⟩
            obtain ⟨q, hq⟩ : ∃ q, i + h = q := ⟨_, rfl⟩
            have HS := Lib.hid (show fsS h i cc = cc.set i (ar .add .f32 (cc.getD i 0) (h2F (cc.getD (i - h) 0) (cc.getD (i + h) 0))) from rfl)
            rw [hp, hq] at HS
            have e1 : (i : Int) - h = p := by omega
            have e2 : (i : Int) + h = q := by omega
            have b0 : i < n := by omega
            have b1 : p < n := by omega
            have b2 : q < n := by omega
            have d0 := hcc i b0
            have d1 := hcc p b1
            have d2 := hcc q b2
            have z0 := hfz i b0
            have k0 := hw.at i
            have k1 := hw.at p
            have k2 := hw.at q
            have HW := Lib.hid hw
            have HO := Lib.hid ho
            have HB := Lib.hid hbl
            have HM := Lib.hid him
            have HRi := Lib.hid hRi'
            have HCC := Lib.hid hccl
            have HFi := Lib.hid hfi'
            have HMD := Lib.hid (fun m => show Calls Try.prog 86 #[.slice (some ⟨g, go, none⟩) n c', .int .i64 i, .int .i64 h] (wr.drewN m) (RetF .f32 (h2F (cc.getD p 0) (cc.getD q 0)) (wr.drewN m)) by rw [← hp, ← hq]; exact midI_any _ n c' i h cur cc _ _ (ho.drewN m).rd (by omega) hw hih hq0)
            clear hw ho hbl hcl hcc hfz him hRi hRi' hccl hfi hfi'
            generalize cur.getD i 0 = x0 at *
            clear hp hq d1 d2 k1 k2
            go_wp2_with fail
            refine Sf.wp_soft [false, false, false, false, false, false, false, false, false, false, true] [true, true, true, true, true, true, true, true, true, true, false] (fun i => if i = 8 then 0 else if i = 7 then 2 else 1) (fun _ => undef) (by kernel_rfl) (by kernel_rfl) (by kernel_rfl) ?_
            simp only [Sf.tl]
            refine Sf.lx_one rfl rfl (fun K hK => Sf.dft_quiet rfl ?_)
            go_big_quiet_op
            refine hK _ ?_
            clear hK K
            refine Sf.lx_one rfl rfl (fun K hK => Sf.dft_quiet rfl ?_)
            go_big_quiet_op
            refine hK _ ?_
            clear hK K
            refine Sf.lx_one rfl rfl (fun K hK => Sf.dft_quiet rfl ?_)
            go_big_quiet_op
            refine hK _ ?_
            clear hK K
            refine Sf.lx_one rfl rfl (fun K hK => Sf.dft_quiet rfl ?_)
            go_big_quiet_op
            refine hK _ ?_
            clear hK K
            refine Sf.lx_one rfl rfl (fun K hK => Sf.dft_quiet rfl ?_)
            go_big_quiet_op
            refine hK _ ?_
            clear hK K
            refine Sf.lx_one rfl rfl (fun K hK => Sf.dft_quiet rfl ?_)
            go_big_quiet_op
            refine hK _ ?_
            clear hK K
            refine Sf.lx_one rfl rfl (fun K hK => Sf.dft_quiet rfl ?_)
            go_big_quiet_op
            refine hK _ ?_
            clear hK K
            refine Sf.lx_call rfl rfl ?_
            intro K hK
            apply Sf.cft_of (R := fun u => ∃ r, u = .float .f32 r ∧ Is .f32 r (h2F (cc.getD p 0) (cc.getD q 0)))
            · intro w; go_simp; exact ⟨rfl, rfl⟩
            · intro nc; clear hK K; exact ret_nc (HMD.out nc)
            intro um hum
            refine hK _ ?_
            clear hK K
            simp only [Act.put, List.setIfInBounds_toArray, List.set_cons_zero, List.set_cons_succ]
            obtain ⟨rm, rfl, hrm⟩ := hum
            refine Sf.lx_fl rfl rfl (fun K hK => Sf.sft_ar (k := .f32) rfl rfl rfl rfl (k0) (hrm) (fun r38 hr38 => hK _ ?_))
            clear hK K
            simp only [Act.put, List.setIfInBounds_toArray, List.set_cons_zero, List.set_cons_succ]
            refine Sf.lx_one rfl rfl (fun K hK => Sf.dft_quiet rfl ?_)
            go_big_quiet_op
            refine hK _ ?_
            clear hK K
            refine Sf.lx_over ?_
            refine Sf.lx_nil ?_
            rintro _ ⟨nq, rfl⟩
            have hres := hr38
            clear hr38
            go_wp2_with fail
            go_roundw
            case rel =>
              refine ⟨i + 2 * h, fi', cur.set i r38, fsS h i cc, HFi.out, by rw [Nat.add_mod_right]; exact HM.out, by omega, by go_num, ?_, by rw [fsS_len]; exact HCC.out, HRi.out, ?_, ?_⟩
              · rw [HS.out]; exact HW.out.set i hres
              · exact (HO.out.drewN _).putF i b0 r38
              · exact (below_drawn HB.out _).setCell hg1 _
            case measure => simp [intOf]; omega
          · have hI2 : ¬ (i : Int) < (n : Int) - 1 := by omega
            have hS := fsIn_stop (h := h) (f := fi) (c := cc) (show n ≤ i + 1 by omega)
            rw [hS] at hRi
            have HRi := Lib.hid hRi
            have HW := Lib.hid hw
            have HO := Lib.hid ho
            have HB := Lib.hid hbl
            have HCC := Lib.hid hccl
            clear hw ho hbl him hRi hS hccl hfi
            go_wp2_with fail
            go_roundw
            case rel => exact ⟨h / 2, fu', cur, cc, hb_next HP.out, hfu', by go_num, HW.out, HCC.out, by rw [HRi.out]; exact HR.out, HO.out, HB.out⟩
            case measure => simp [intOf]; omega
      · obtain rfl : h = 0 := by omega
        rw [fsOut_stop] at hR
        have HR := Lib.hid hR
        have HW := Lib.hid hw
        have HO := Lib.hid ho
        have HB := Lib.hid hbl
        clear hp hw ho hbl hR hcl0
        cases hf : finA (fsF xs) with
        | false =>
          rw [hf] at HBB
          have HF := Lib.hid hf
          clear hf
          go_wp2_with (go_at_call 68; refine (iflI_any _ cur _ _ HO.out.rd (by rw [HW.out.len, HR.out, fsF_len, HL.out]; omega) HW.out.lt).mono ?_; rintro e w' ⟨rfl, nf, rfl⟩; rw [HW.out.fin, HR.out, HF.out])
          go_ret2
          rw [fsV_no HBB.out, HBB.out]
          exact retLF_none (below_drawn HB.out _)
        | true =>
          rw [hf] at HBB
          have HF := Lib.hid hf
          clear hf
          go_wp2_with (go_at_call 68; refine (iflI_any _ cur _ _ HO.out.rd (by rw [HW.out.len, HR.out, fsF_len, HL.out]; omega) HW.out.lt).mono ?_; rintro e w' ⟨rfl, nf, rfl⟩; rw [HW.out.fin, HR.out, HF.out])
          go_ret2
          rw [fsV_yes HBB.out, HBB.out, ← HR.out, ← HW.out.eq (by rw [HR.out]; exact HF.out)]
          exact ⟨_, rfl, HO.out.drewN _, below_drawn HB.out _⟩
end Go.Proofs.Ytfcegkighjnmeaa
