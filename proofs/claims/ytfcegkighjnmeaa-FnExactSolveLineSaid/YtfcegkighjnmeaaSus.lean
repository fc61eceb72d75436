/-
  Contracts: surpluses, by the reference.
-/
import Derived.Test.YtfcegkighjnmeaaGrd
namespace Go.Proofs.Ytfcegkighjnmeaa
open Go.RowKit Fl
set_option linter.unusedVariables false

def SuO (w0 : World) (lo : Nat) (v : Value) (xs : List Nat) (hv : Value) (wr : World) : Prop := ∃ (h : Nat) (cur : List Nat), pwB h ∧ hv = .int .i64 h ∧ IsW cur (suM xs h h) ∧ Own wr lo v (fl cur) ∧ Below lo w0 wr
def SuI (w0 : World) (lo : Nat) (v : Value) (xs : List Nat) (h : Nat) (iv : Value) (wr : World) : Prop := ∃ (i : Nat) (cur : List Nat), i % (2 * h) = h ∧ i ≤ 256 ∧ iv = .int .i64 i ∧ IsW cur (suM xs h i) ∧ Own wr lo v (fl cur) ∧ Below lo w0 wr
theorem pw6 {h n : Nat} (hp : pwB h) (h1 : 2 * h < n) (h2 : n ≤ 65) : h = 1 ∨ h = 2 ∨ h = 4 ∨ h = 8 ∨ h = 16 ∨ h = 32 := by unfold pwB at hp; omega
theorem pw_next {h : Nat} (hp : h = 1 ∨ h = 2 ∨ h = 4 ∨ h = 8 ∨ h = 16 ∨ h = 32) : pwB (2 * h) := by unfold pwB; omega
set_option maxRecDepth 100000 in
set_option maxHeartbeats 4000000 in
theorem suS_any (A : Option Addr) (n c : Nat) (xs : List Nat) (w : World) (h : Rd w w.heap.size (.slice A n c) (fl xs)) (hn : xs.length = n) (hg : gdB n = true) (hf : finA xs = true) (hx : ∀ x ∈ xs, x < 2 ^ 32) :
    Calls Try.prog 83 #[.slice A n c] w (RetW (suF xs) w) := by
  have hg0 := gdB_bd hg
  obtain ⟨i0, hi, hz0, hz1, hz2⟩ := info_parts infoF
  obtain ⟨b, off, rfl, hb, hc⟩ := h.num (i := 0) (by omega)
  have hcl : ∀ j u, (fl xs)[j]? = some u → (w.alloc (Obj.cells #[] 47)).cell? ((⟨b, off, none⟩ : Addr).add j) = some u := by
    intro j u hu
    have hj := (List.getElem?_eq_some_iff.1 hu).1
    rw [fl_len] at hj
    rw [fl_getD xs j hj] at hu
    cases hu
    rw [Go.WideShapes.add_plain]
    exact (((Below.refl _ _).alloc (Nat.le_refl _) _).cell (p := ⟨b, off + j, none⟩) hb).trans (hc j (by omega))
  have hown : (w.alloc (Obj.cells #[] 47)).ownsRow w.heap.size 47 1 (.slice (some ⟨w.heap.size, 0, none⟩) 0 0) 0 (fl []) := World.ownsRow_made w #[] 0 (Nat.le_refl _) (Nat.zero_le _) rfl
  have hb0 : Below w.heap.size w (w.alloc (Obj.cells #[] 47)) := (Below.refl _ _).alloc (Nat.le_refl _) _
  have HX := Lib.hid (IsW.self hf hx)
  have HL := Lib.hid hn
  have HG := Lib.hid hg
  have hn65 := (gdB_bd hg).2
  have hn2 := (gdB_bd hg).1
  have hxl : (fl xs).length = n := by rw [fl_len]; exact hn
  clear hf hx hn hg h
  have hsf : ∀ (a : Addr) (x : Nat) (w : World), (store a (.float .f32 x)).run Try.prog w = stored Try.prog w a (.float .f32 x) .plain := fun a x w => run_store _ w a _ _ rfl
  go_enter Try.func83, Try.ntmps83
  go_wp2_with (at_builtin; refine wpList_append_own _ rfl _ _ 35 rfl w.heap.size 47 i0 (.float .f32 0) 1 4 Try.underlying35 hi hz0 hz1 hz2 rfl (by decide) _ _ _ rfl hown ⟨b, off, none⟩ n c (fl xs) rfl (by rw [hxl]; omega) hcl (cellsF xs) (by unfold maxLen; omega) (by omega) (by simp) ?_; intro v' w1 hown' hgrow _)
  have hb1 : Below w.heap.size w w1 := hb0.grown hgrow (by simp) (fun j hj => (hown.lt j hj).1)
  have ho1 : Own w1 w.heap.size v' (fl xs) := by have := Own.row hown'; simpa [fl] using this
  obtain ⟨g, go, c', hv'⟩ := ho1.openF (by have := HL.out; omega)
  rw [HL.out] at hv'
  subst hv'
  have HC := Lib.hid hc
  have HO1 := Lib.hid ho1
  have HB1 := Lib.hid hb1
  clear hcl hown hb0 hown' hgrow hc hb1 ho1 hxl i0 hi hz0 hz1 hz2
  go_wp2_with fail
  go_loopw [5] (SuO w w.heap.size (.slice (some ⟨g, go, none⟩) n c') xs) (fun h _ => 128 - (intOf h).toNat)
  case atStart => exact ⟨1, xs, .inl rfl, rfl, by rw [suM_start]; exact HX.out, HO1.out, HB1.out⟩
  case round =>
    clear HO1 HB1
    obtain ⟨h, cur, hp, rfl, hw, ho, hbl⟩ := hrel
    have HP := Lib.hid hp
    by_cases hlt : 2 * h < n
    · have h6 := pw6 hp hlt (by omega)
      have H6 := Lib.hid h6
      have hI : (2 : Int) * h < n := by omega
      have hh1 : 1 ≤ h := by omega
      have hh2 : h ≤ 32 := by omega
      have HW := Lib.hid hw
      have HO := Lib.hid ho
      have HB := Lib.hid hbl
      clear hp h6 hw ho hbl
      go_wp2_with fail
      go_loopw [6] (SuI w w.heap.size (.slice (some ⟨g, go, none⟩) n c') xs h) (fun i _ => 512 - (intOf i).toNat)
      case atStart => exact ⟨h, cur, by rw [Nat.mod_eq_of_lt (by omega)], by omega, rfl, HW.out, HO.out, HB.out⟩
      case round =>
        clear HW HO HB
        obtain ⟨i, cur, him, hi256, rfl, hw, ho, hbl⟩ := hrel
        have hih : h ≤ i := by have := Nat.mod_le i (2 * h); omega
        by_cases hlt2 : i + 1 < n
        · have hI2 : (i : Int) < (n : Int) - 1 := by omega
          obtain ⟨hcl, hg1, hg2, hcc, hfz⟩ := ho.nums (by omega)
          obtain ⟨p, hp⟩ : ∃ p, i - h = p := ⟨_, rfl⟩
          obtain ⟨q, hq⟩ : ∃ q, i + h = q := ⟨_, rfl⟩
          have HS := Lib.hid (suM_set xs h i H6.out (by rw [HL.out]; omega) him (by rw [HL.out]; exact hlt2))
          have HA := Lib.hid (suM_at xs h i H6.out (by rw [HL.out]; omega) him (by rw [HL.out]; exact hlt2))
          rw [hp, hq] at HA
          have e1 : (i : Int) - h = p := by omega
          have e2 : (i : Int) + h = q := by omega
          have b0 : i < n := by omega
          have b1 : p < n := by omega
          have b2 : q < n := by have := low_bd ⟨n, by omega⟩ HG.out ⟨i, by omega⟩ (by simp only; omega) (by simp only; omega); simp only at this; have l := (low_at H6.out (by omega : i < 64) him (by omega)).2 him; rw [l] at this; omega
          have c0 : wr.cell? ⟨b, off + i, none⟩ = some (.float .f32 (xs.getD i 0)) := (hbl.cell (p := ⟨b, off + i, none⟩) hb).trans (HC.out i b0)
          have c1 : wr.cell? ⟨b, off + p, none⟩ = some (.float .f32 (xs.getD p 0)) := (hbl.cell (p := ⟨b, off + p, none⟩) hb).trans (HC.out p b1)
          have c2 : wr.cell? ⟨b, off + q, none⟩ = some (.float .f32 (xs.getD q 0)) := (hbl.cell (p := ⟨b, off + q, none⟩) hb).trans (HC.out q b2)
          have d0 := hcc i b0
          have z0 := hfz i b0
          have k0 := HX.out.at i
          have k1 := HX.out.at p
          have k2 := HX.out.at q
          have HW := Lib.hid hw
          have HO := Lib.hid ho
          have HB := Lib.hid hbl
          have HM := Lib.hid him
          generalize xs.getD i 0 = x0 at *
          generalize xs.getD p 0 = x1 at *
          generalize xs.getD q 0 = x2 at *
          clear hw ho hbl hcl hcc hfz hp hq him
          go_wp2_with fail
          refine Sf.wp_soft [false, false, false, false, false, false, false, false, false, false, false, false, false, false, false, false, false, false, false, false, false, false, true] [true, true, true, true, true, true, true, true, true, true, true, true, true, true, true, true, true, true, true, true, true, true, false] (fun i => if i = 18 then 0 else if i = 19 then 0 else if i = 20 then 0 else 1) (fun _ => undef) (by kernel_rfl) (by kernel_rfl) (by kernel_rfl) ?_
          simp only [Sf.tl]
          refine Sf.lx_one rfl rfl (fun K hK => Sf.dft_quiet rfl ?_)
          go_big_quiet_op
          refine hK _ ?_
          clear hK K
          refine Sf.lx_one rfl rfl (fun K hK => Sf.dft_quiet rfl ?_)
          go_big_quiet_op
          refine hK _ ?_
          clear hK K
          refine Sf.lx_one rfl rfl (fun K hK => Sf.dft_quiet rfl ?_)
          go_big_quiet_op
          refine hK _ ?_
          clear hK K
          refine Sf.lx_one rfl rfl (fun K hK => Sf.dft_quiet rfl ?_)
          go_big_quiet_op
          refine hK _ ?_
          clear hK K
          refine Sf.lx_one rfl rfl (fun K hK => Sf.dft_quiet rfl ?_)
          go_big_quiet_op
          refine hK _ ?_
          clear hK K
          refine Sf.lx_one rfl rfl (fun K hK => Sf.dft_quiet rfl ?_)
          go_big_quiet_op
          refine hK _ ?_
          clear hK K
          refine Sf.lx_one rfl rfl (fun K hK => Sf.dft_quiet rfl ?_)
          go_big_quiet_op
          refine hK _ ?_
          clear hK K
          refine Sf.lx_one rfl rfl (fun K hK => Sf.dft_quiet rfl ?_)
          go_big_quiet_op
          refine hK _ ?_
          clear hK K
          refine Sf.lx_one rfl rfl (fun K hK => Sf.dft_quiet rfl ?_)
          go_big_quiet_op
          refine hK _ ?_
          clear hK K
          refine Sf.lx_one rfl rfl (fun K hK => Sf.dft_quiet rfl ?_)
          go_big_quiet_op
          refine hK _ ?_
          clear hK K
          refine Sf.lx_one rfl rfl (fun K hK => Sf.dft_quiet rfl ?_)
          go_big_quiet_op
          refine hK _ ?_
          clear hK K
          refine Sf.lx_one rfl rfl (fun K hK => Sf.dft_quiet rfl ?_)
          go_big_quiet_op
          refine hK _ ?_
          clear hK K
          refine Sf.lx_one rfl rfl (fun K hK => Sf.dft_quiet rfl ?_)
          go_big_quiet_op
          refine hK _ ?_
          clear hK K
          refine Sf.lx_one rfl rfl (fun K hK => Sf.dft_quiet rfl ?_)
          go_big_quiet_op
          refine hK _ ?_
          clear hK K
          refine Sf.lx_one rfl rfl (fun K hK => Sf.dft_quiet rfl ?_)
          go_big_quiet_op
          refine hK _ ?_
          clear hK K
          refine Sf.lx_one rfl rfl (fun K hK => Sf.dft_quiet rfl ?_)
          go_big_quiet_op
          refine hK _ ?_
          clear hK K
          refine Sf.lx_one rfl rfl (fun K hK => Sf.dft_quiet rfl ?_)
          go_big_quiet_op
          refine hK _ ?_
          clear hK K
          refine Sf.lx_one rfl rfl (fun K hK => Sf.dft_quiet rfl ?_)
          go_big_quiet_op
          refine hK _ ?_
          clear hK K
          refine Sf.lx_fl rfl rfl (fun K hK => Sf.sft_ar (k := .f32) rfl rfl rfl rfl (k1) (k2) (fun r45 hr45 => hK _ ?_))
          clear hK K
          simp only [Act.put, List.setIfInBounds_toArray, List.set_cons_zero, List.set_cons_succ]
          refine Sf.lx_fl rfl rfl (fun K hK => Sf.sft_ar (k := .f32) rfl rfl rfl rfl (is_lit (by decide)) (hr45) (fun r46 hr46 => hK _ ?_))
          clear hK K
          simp only [Act.put, List.setIfInBounds_toArray, List.set_cons_zero, List.set_cons_succ]
          refine Sf.lx_fl rfl rfl (fun K hK => Sf.sft_ar (k := .f32) rfl rfl rfl rfl (k0) (hr46) (fun r47 hr47 => hK _ ?_))
          clear hK K
          simp only [Act.put, List.setIfInBounds_toArray, List.set_cons_zero, List.set_cons_succ]
          refine Sf.lx_one rfl rfl (fun K hK => Sf.dft_quiet rfl ?_)
          go_big_quiet_op
          refine hK _ ?_
          clear hK K
          refine Sf.lx_over ?_
          refine Sf.lx_nil ?_
          rintro _ ⟨nq, rfl⟩
          go_wp2_with fail
          go_roundw
          case rel =>
            refine ⟨i + 2 * h, cur.set i r47, by rw [Nat.add_mod_right]; exact HM.out, by omega, by go_num, ?_, (HO.out.drewN _).putF i b0 r47, (below_drawn HB.out _).setCell hg1 _⟩
            rw [← HS.out]
            exact HW.out.set i (by rw [HA.out]; exact hr47)
          case measure => simp [intOf]; omega
        · have HS := Lib.hid (suM_next xs h i H6.out (by rw [HL.out]; omega) (by rw [HL.out]; omega))
          have hI2 : ¬ (i : Int) < (n : Int) - 1 := by omega
          have HW := Lib.hid hw
          have HO := Lib.hid ho
          have HB := Lib.hid hbl
          clear hw ho hbl him
          go_wp2_with fail
          go_roundw
          case rel => exact ⟨2 * h, cur, pw_next H6.out, by go_num, by rw [← HS.out]; exact HW.out, HO.out, HB.out⟩
          case measure => simp [intOf]; omega
    · have HS := Lib.hid (suM_all xs h hp (by rw [HL.out]; exact HG.out) (by rw [HL.out]; omega))
      have hI : ¬ (2 : Int) * h < n := by omega
      have hh1 : 1 ≤ h := by unfold pwB at hp; omega
      have hh2 : h ≤ 64 := by unfold pwB at hp; omega
      have HW := Lib.hid hw
      have HO := Lib.hid ho
      have HB := Lib.hid hbl
      clear hp hw ho hbl
      go_wp2_with fail
      go_ret
      exact ⟨_, cur, rfl, by rw [← HS.out]; exact HW.out, HO.out, HB.out⟩
end Go.Proofs.Ytfcegkighjnmeaa
