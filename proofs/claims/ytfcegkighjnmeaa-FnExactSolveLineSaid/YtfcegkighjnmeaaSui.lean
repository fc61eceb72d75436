/-
  Contracts: surpluses, by both sides.
-/
import Derived.Test.YtfcegkighjnmeaaSus
import Derived.Lib.SliceRun
namespace Go.Proofs.Ytfcegkighjnmeaa
open Go.RowKit Fl
set_option linter.unusedVariables false

set_option maxHeartbeats 1000000 in
theorem clnF_any (A : Option Addr) (n c : Nat) (xs : List Nat) (w : World) (h : Rd w w.heap.size (.slice A n c) (fl xs)) (hn : xs.length = n) (h0 : 0 < n) (hm : n ≤ 1048576) :
    Calls Try.prog 85 #[.slice A n c] w (RetF1 xs w) := by
  obtain ⟨i0, hi, hz0, hz1, hz2⟩ := info_parts infoF
  obtain ⟨b, off, rfl, hb, hc⟩ := h.num (i := 0) h0
  have hcl : ∀ j u, (fl xs)[j]? = some u → (w.alloc (Obj.cells #[] 47)).cell? ((⟨b, off, none⟩ : Addr).add j) = some u := by
    intro j u hu
    have hj := (List.getElem?_eq_some_iff.1 hu).1
    rw [fl_len] at hj
    rw [fl_getD xs j hj] at hu
    cases hu
    rw [Go.WideShapes.add_plain]
    exact (((Below.refl _ _).alloc (Nat.le_refl _) _).cell (p := ⟨b, off + j, none⟩) hb).trans (hc j (by omega))
  have hown : (w.alloc (Obj.cells #[] 47)).ownsRow w.heap.size 47 1 (.slice (some ⟨w.heap.size, 0, none⟩) 0 0) 0 (fl []) := World.ownsRow_made w #[] 0 (Nat.le_refl _) (Nat.zero_le _) rfl
  have hb0 : Below w.heap.size w (w.alloc (Obj.cells #[] 47)) := (Below.refl _ _).alloc (Nat.le_refl _) _
  have hnil : ∀ (W : World), (binOp .eql 35 (.slice (some ⟨b, off, none⟩) n c) (.slice none 0 0)).run Try.prog W = .ok (.bool false) W := fun W => Lib.run_eql_slice_nil W _ _ (some ⟨b, off, none⟩) _ _ _ _ Try.underlying35
  have hxl : (fl xs).length = n := by rw [fl_len]; exact hn
  clear hn hc h
  go_enter Try.func85, Try.ntmps85
  go_wp2_with (at_builtin; refine wpList_append_own _ rfl _ _ 35 rfl w.heap.size 47 i0 (.float .f32 0) 1 4 Try.underlying35 hi hz0 hz1 hz2 rfl (by decide) _ _ _ rfl hown ⟨b, off, none⟩ n c (fl xs) rfl (by rw [hxl]; omega) hcl (cellsF xs) (by unfold maxLen; omega) (by omega) (by simp) ?_; intro v' w1 hown' hgrow _)
  go_ret
  refine ⟨_, rfl, ?_, hb0.grown hgrow (by simp) (fun j hj => (hown.lt j hj).1)⟩
  have := Own.row hown'
  simpa [fl] using this

def suB (xs : List Nat) : Bool := grB xs && finA (suF xs)
def suV (xs : List Nat) : List Nat := if suB xs then suF xs else []
theorem suV_yes {xs : List Nat} (h : suB xs = true) : suV xs = suF xs := by unfold suV; rw [if_pos h]
theorem suV_no {xs : List Nat} (h : suB xs = false) : suV xs = [] := by unfold suV; rw [if_neg (by rw [h]; simp)]
theorem suV_len (xs : List Nat) (h : xs.length ≤ 1048576) : (suV xs).length ≤ 1048576 := by
  cases hb : suB xs with
  | false => rw [suV_no hb]; simp
  | true => rw [suV_yes hb, suF_len]; exact h
theorem retLF_none {w w' : World} (h : Below w.heap.size w w') : RetLF [] false w (.returned (.tuple #[.slice none 0 0, .bool false])) w' := ⟨_, rfl, own_nilF _ _, h⟩
set_option maxRecDepth 100000 in
set_option maxHeartbeats 2000000 in
theorem sufS_any (v : Value) (xs : List Nat) (w : World) (h : Rd w w.heap.size v (fl xs)) (hm : xs.length ≤ 1048576) (hx : ∀ x ∈ xs, x < 2 ^ 32) :
    Calls Try.prog 45 #[v] w (RetLF (suV xs) (suB xs) w) := by
  have HT := Lib.hid (isgS_any v xs w _ h hm hx)
  obtain ⟨A, c, hv, _, _, _⟩ := id h
  rw [fl_len] at hv
  subst hv
  cases hg : grB xs with
  | false =>
    have hb : suB xs = false := by unfold suB; rw [hg, Bool.false_and]
    rw [suV_no hb, hb]
    have HG := Lib.hid hg
    clear hg hb h
    go_enter Try.func45, Try.ntmps45
    go_wp2_with (go_at_call 82; refine HT.out.mono ?_; rintro e w' ⟨rfl, n1, rfl⟩; rw [HG.out])
    go_ret2
    exact retLF_none (below_drawn (Below.refl _ _) _)
  | true =>
    obtain ⟨g1, g2⟩ := grB_len hg
    have HW := Lib.hid (fun q => suS_any _ _ _ xs (w.drewN q) (h.drewN q) rfl g1 g2 hx)
    have HL := Lib.hid (show (suF xs).length ≤ 1048576 by rw [suF_len]; exact hm)
    have HB := Lib.hid (show suB xs = finA (suF xs) by unfold suB; rw [hg, Bool.true_and])
    have HG := Lib.hid hg
    clear hg g1 g2 h hx
    cases hf : finA (suF xs) with
    | false =>
      rw [hf] at HB
      have HF := Lib.hid hf
      clear hf
      go_enter Try.func45, Try.ntmps45
      go_wp2_with (first | (go_at_call 82; refine HT.out.mono ?_; rintro e w' ⟨rfl, n1, rfl⟩; rw [HG.out]) | (go_at_call 83; refine (HW.out _).mono ?_; rintro e w2 ⟨u, ys, rfl, hw, ho, hb2⟩; have HI := Lib.hid hw; have HO := Lib.hid ho; have HD := Lib.hid hb2; clear hw ho hb2) | (go_at_call 63; refine (finS_any _ ys _ _ HO.out.rd (by rw [HI.out.len]; exact HL.out) HI.out.lt).mono ?_; rintro e w3 ⟨rfl, n3, rfl⟩; rw [HI.out.fin, HF.out]))
      go_ret2
      rw [suV_no HB.out, HB.out]
      exact retLF_none (below_drawn ((below_drawn (Below.refl w.heap.size w) _).trans HD.out) _)
    | true =>
      rw [hf] at HB
      have HF := Lib.hid hf
      clear hf
      go_enter Try.func45, Try.ntmps45
      go_wp2_with (first | (go_at_call 82; refine HT.out.mono ?_; rintro e w' ⟨rfl, n1, rfl⟩; rw [HG.out]) | (go_at_call 83; refine (HW.out _).mono ?_; rintro e w2 ⟨u, ys, rfl, hw, ho, hb2⟩; have HI := Lib.hid hw; have HO := Lib.hid ho; have HD := Lib.hid hb2; clear hw ho hb2) | (go_at_call 63; refine (finS_any _ ys _ _ HO.out.rd (by rw [HI.out.len]; exact HL.out) HI.out.lt).mono ?_; rintro e w3 ⟨rfl, n3, rfl⟩; rw [HI.out.fin, HF.out]))
      go_ret2
      rw [suV_yes HB.out, HB.out, ← HI.out.eq HF.out]
      exact ⟨_, rfl, HO.out.drewN _, below_drawn ((below_drawn (Below.refl w.heap.size w) _).trans HD.out) _⟩
theorem h2F_not {a b : Nat} (ha : finB .f32 a = true) (hb : finB .f32 b = true) : isN .f32 (h2F a b) = false := quo_ps (sum_nums ha hb) (by decide)
theorem h2F_lt (a b : Nat) : h2F a b < 2 ^ 32 := ar_ltS _ _ _
def SuP (w0 : World) (lo : Nat) (v : Value) (xs : List Nat) (iv : Value) (wr : World) : Prop := ∃ (k : Nat) (cur : List Nat), 1 ≤ k ∧ k + 1 ≤ xs.length ∧ iv = .int .i64 k ∧ IsW cur (suK xs k) ∧ Own wr lo v (fl cur) ∧ Below lo w0 wr
theorem suA_in {xs : List Nat} {k : Nat} (h1 : 1 ≤ k) (h2 : k + 1 < xs.length) : suA xs k = ar .sub .f32 (xs.getD k 0) (h2F (xs.getD (k - lowb k) 0) (xs.getD (k + lowb k) 0)) := by unfold suA; rw [if_pos ⟨h1, h2⟩]
set_option maxRecDepth 100000 in
set_option maxHeartbeats 4000000 in
theorem sufI_any (v : Value) (xs : List Nat) (w : World) (h : Rd w w.heap.size v (fl xs)) (hm : xs.length ≤ 1048576) (hx : ∀ x ∈ xs, x < 2 ^ 32) :
    Calls Try.prog 46 #[v] w (RetLF (suV xs) (suB xs) w) := by
  have HT := Lib.hid (isgI_any v xs w _ h hm hx)
  obtain ⟨A, c, hv, _, _, _⟩ := id h
  rw [fl_len] at hv
  subst hv
  cases hg : grB xs with
  | false =>
    have hb : suB xs = false := by unfold suB; rw [hg, Bool.false_and]
    rw [suV_no hb, hb]
    have HG := Lib.hid hg
    clear hg hb h
    go_enter Try.func46, Try.ntmps46
    go_wp2_with (go_at_call 84; refine HT.out.mono ?_; rintro e w' ⟨rfl, n1, rfl⟩; rw [HG.out])
    go_ret2
    exact retLF_none (below_drawn (Below.refl _ _) _)
  | true =>
    obtain ⟨g1, g2⟩ := grB_len hg
    obtain ⟨b2, b65⟩ := gdB_bd g1
    have HB := Lib.hid (show suB xs = finA (suF xs) by unfold suB; rw [hg, Bool.true_and])
    have HG := Lib.hid hg
    have HGD := Lib.hid g1
    have HX := Lib.hid (IsW.self g2 hx)
    have HFN := Lib.hid g2
    obtain ⟨n, hn⟩ : ∃ n, xs.length = n := ⟨_, rfl⟩
    have HL := Lib.hid hn
    rw [hn] at h HGD b2 b65 hm HT ⊢
    have HC := Lib.hid (fun q => clnF_any A n c xs (w.drewN q) (h.drewN q) hn (by omega) hm)
    have HR := Lib.hid h
    clear hg g1 g2 h hx hn hm
    have hsf : ∀ (a : Addr) (x : Nat) (w : World), (store a (.float .f32 x)).run Try.prog w = stored Try.prog w a (.float .f32 x) .plain := fun a x w => run_store _ w a _ _ rfl
    go_enter Try.func46, Try.ntmps46
    go_wp2_with (first | (go_at_call 84; refine HT.out.mono ?_; rintro e w' ⟨rfl, n1, rfl⟩; rw [HG.out]) | (go_at_call 85; refine (HC.out _).mono ?_; rintro e w1 ⟨v', rfl, ho, hb1⟩))
    obtain ⟨g, go, c', hv'⟩ := ho.openF (by have := HL.out; omega)
    rw [HL.out] at hv'
    subst hv'
    have HO1 := Lib.hid ho
    have HB1 := Lib.hid ((below_drawn (Below.refl w.heap.size w) n1).trans hb1)
    clear ho hb1 HC HT
    go_loopw [5] (SuP w w.heap.size (.slice (some ⟨g, go, none⟩) n c') xs) (fun i _ => n - (intOf i).toNat)
    case atStart => exact ⟨1, xs, by omega, by rw [HL.out]; omega, rfl, by rw [suK_one xs (by rw [HL.out]; omega)]; exact HX.out, HO1.out, HB1.out⟩
    case round =>
      clear HO1 HB1
      obtain ⟨k, cur, hk1, hkn, rfl, hw, ho, hbl⟩ := hrel
      rw [HL.out] at hkn
      by_cases hlt : k + 1 < n
      · have hI : (k : Int) < (n : Int) - 1 := by omega
        obtain ⟨hcl, hg1, hg2, hcc, hfz⟩ := ho.nums (by omega)
        have lb := low_bd ⟨n, by omega⟩ HGD.out ⟨k, by omega⟩ hk1 hlt
        have la := low_and ⟨k, by omega⟩ hk1
        simp only at lb la
        have HS := Lib.hid (suK_set xs k (by rw [HL.out]; omega))
        have HA := Lib.hid (suA_in (xs := xs) hk1 (by rw [HL.out]; exact hlt))
        have hkk := hw.at k
        rw [suK_at xs k k (by rw [HL.out]; omega) (Nat.le_refl _)] at hkk
        obtain ⟨q, hq⟩ : ∃ q, lowb k = q := ⟨_, rfl⟩
        rw [hq] at lb la HA
        have d0 := hcc k (by omega)
        have z0 := hfz k (by omega)
        have hmn : isN .f32 (h2F (xs.getD (k - q) 0) (xs.getD (k + q) 0)) = false := h2F_not (by have := HX.out; exact fin_getD HFN.out _) (fin_getD HFN.out _)
        obtain ⟨mv, hmv⟩ : ∃ mv, h2F (xs.getD (k - q) 0) (xs.getD (k + q) 0) = mv := ⟨_, rfl⟩
        have HM := Lib.hid (fun W (hW : Rd W w.heap.size (.slice A n c) (fl xs)) => show Calls Try.prog 86 #[.slice A n c, .int .i64 k, .int .i64 q] W (fun e w' => e = .returned (.float .f32 mv) ∧ ∃ n, w' = W.drewN n) from (midI_any A n c k q xs xs W _ hW (by omega) HX.out lb.2.1 lb.2.2).mono fun e w' hh => by rw [← hmv]; exact retX_of hh hmn)
        have hmm : Is .f32 mv mv := by rw [← hmv]; exact ⟨cn_of_not hmn, h2F_lt _ _⟩
        rw [hmv] at HA
        clear hmn hmv
        have HRr := Lib.hid (HR.out.below hbl)
        have HW := Lib.hid hw
        have HO := Lib.hid ho
        have HB' := Lib.hid hbl
        have hk0 : k < n := by omega
        generalize cur.getD k 0 = x0 at *
        generalize xs.getD k 0 = y0 at *
        clear hw ho hbl hcl hcc hfz hq lb
        go_wp2_with fail
        refine Sf.wp_soft [false, false, false, false, false, false, false, false, false, false, false, false, false, true] [true, true, true, true, true, true, true, true, true, true, true, true, true, false] (fun i => if i = 11 then 0 else 1) (fun i => if i = 10 then .float .f32 mv else undef) (by kernel_rfl) (by kernel_rfl) (by kernel_rfl) ?_
        simp only [Sf.tl]
        refine Sf.lx_one rfl rfl (fun K hK => Sf.dft_quiet rfl ?_)
        go_big_quiet_op
        refine hK _ ?_
        clear hK K
        refine Sf.lx_one rfl rfl (fun K hK => Sf.dft_quiet rfl ?_)
        go_big_quiet_op
        refine hK _ ?_
        clear hK K
        refine Sf.lx_one rfl rfl (fun K hK => Sf.dft_quiet rfl ?_)
        go_big_quiet_op
        refine hK _ ?_
        clear hK K
        refine Sf.lx_one rfl rfl (fun K hK => Sf.dft_quiet rfl ?_)
        go_big_quiet_op
        refine hK _ ?_
        clear hK K
        refine Sf.lx_one rfl rfl (fun K hK => Sf.dft_quiet rfl ?_)
        go_big_quiet_op
        refine hK _ ?_
        clear hK K
        refine Sf.lx_one rfl rfl (fun K hK => Sf.dft_quiet rfl ?_)
        go_big_quiet_op
        refine hK _ ?_
        clear hK K
        refine Sf.lx_one rfl rfl (fun K hK => Sf.dft_quiet rfl ?_)
        go_big_quiet_op
        refine hK _ ?_
        clear hK K
        refine Sf.lx_one rfl rfl (fun K hK => Sf.dft_quiet rfl ?_)
        go_big_quiet_op
        refine hK _ ?_
        clear hK K
        refine Sf.lx_one rfl rfl (fun K hK => Sf.dft_quiet rfl ?_)
        go_big_quiet_op
        refine hK _ ?_
        clear hK K
        refine Sf.lx_one rfl rfl (fun K hK => Sf.dft_quiet rfl ?_)
        go_big_quiet_op
        refine hK _ ?_
        clear hK K
        refine Sf.lx_one rfl rfl (fun K hK => Sf.dft_call ?_ (hK _ ?_))
        · clear hK K; rintro _ ⟨nc, rfl⟩; go_simp; exact Calls.quiet_of (HM.out _ (HRr.out.drewN _))
        clear hK K
        simp only [Act.put, List.setIfInBounds_toArray, List.set_cons_zero, List.set_cons_succ, if_true, if_false, reduceIte, Nat.reduceEqDiff]
        refine Sf.lx_fl rfl rfl (fun K hK => Sf.sft_ar (k := .f32) rfl rfl rfl rfl (hkk) (hmm) (fun r29 hr29 => hK _ ?_))
        clear hK K
        simp only [Act.put, List.setIfInBounds_toArray, List.set_cons_zero, List.set_cons_succ]
        refine Sf.lx_one rfl rfl (fun K hK => Sf.dft_quiet rfl ?_)
        go_big_quiet_op
        refine hK _ ?_
        clear hK K
        refine Sf.lx_over ?_
        refine Sf.lx_nil ?_
        rintro _ ⟨nq, rfl⟩
        go_wp2_with fail
        go_roundw
        case rel =>
          refine ⟨k + 1, cur.set k r29, by omega, by rw [HL.out]; omega, by go_num, ?_, ?_, ?_⟩
          · rw [← HS.out]; exact HW.out.set k (by rw [HA.out]; exact hr29)
          · exact (HO.out.drewN _).putF k hk0 r29
          · exact (below_drawn HB'.out _).setCell hg1 _
        case measure => simp [intOf]; omega
      · have hI : ¬ (k : Int) < (n : Int) - 1 := by omega
        have HS := Lib.hid (suK_all xs k (by rw [HL.out]; omega) hk1)
        rw [HS.out] at hw
        have HW := Lib.hid hw
        have HO := Lib.hid ho
        have HB' := Lib.hid hbl
        have hk65 : k ≤ 65 := by omega
        clear hw ho hbl
        cases hf : finA (suF xs) with
        | false =>
          rw [hf] at HB
          have HF := Lib.hid hf
          clear hf
          go_wp2_with (go_at_call 68; refine (iflI_any _ cur _ _ HO.out.rd (by rw [HW.out.len, suF_len, HL.out]; omega) HW.out.lt).mono ?_; rintro e w' ⟨rfl, nf, rfl⟩; rw [HW.out.fin, HF.out])
          go_ret2
          rw [suV_no HB.out, HB.out]
          exact retLF_none (below_drawn HB'.out _)
        | true =>
          rw [hf] at HB
          have HF := Lib.hid hf
          clear hf
          go_wp2_with (go_at_call 68; refine (iflI_any _ cur _ _ HO.out.rd (by rw [HW.out.len, suF_len, HL.out]; omega) HW.out.lt).mono ?_; rintro e w' ⟨rfl, nf, rfl⟩; rw [HW.out.fin, HF.out])
          go_ret2
          rw [suV_yes HB.out, HB.out, ← HW.out.eq HF.out]
          exact ⟨_, rfl, HO.out.drewN _, below_drawn HB'.out _⟩
end Go.Proofs.Ytfcegkighjnmeaa
