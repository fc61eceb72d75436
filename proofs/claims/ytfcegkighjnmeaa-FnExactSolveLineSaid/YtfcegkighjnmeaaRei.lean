/-
  Contracts: what is left to solve, by the program.
-/
import Derived.Test.YtfcegkighjnmeaaRes
import Derived.Test.YtfcegkighjnmeaaSfw
namespace Go.Proofs.Ytfcegkighjnmeaa
open Go.RowKit Fl
set_option linter.unusedVariables false

theorem box_cells (w : World) (fv : Value) (s : Nat) : (w.alloc (boxO fv s)).cell? ⟨w.heap.size, 0, none⟩ = some fv ∧ (w.alloc (boxO fv s)).cell? ⟨w.heap.size, 1, none⟩ = some (.float .f32 s) := by
  unfold boxO; constructor <;> (rw [cell_of_row _ _ _ _ _ _ (heap_alloc_new w _)]; rfl)
theorem box_size (w : World) (o : Obj) : (w.alloc o).heap.size = w.heap.size + 1 := by show (w.heap.push o).size = _; exact Array.size_push ..
theorem cons_isW {xs cs : List Nat} (h : IsW xs cs) (j : Nat) : Is .f32 ((0 :: xs).getD j 0) ((0 :: cs).getD j 0) := by
  rcases j with _ | i
  · exact is_0
  · exact h.at i
/-- The cells of a line between its ends. -/
theorem ex_cells {w : World} {lo g n : Nat} {us : List Nat} (h : Own w lo (.slice (some ⟨g, 0, none⟩) (n + 2) (n + 2)) (fl (exL us))) (j : Nat) (hj : j < n + 2) : w.cell? ⟨g, j, none⟩ = some (.float .f32 ((0 :: us).getD j 0)) := by
  obtain ⟨_, _, _, hc, _⟩ := h.nums (by omega)
  have := hc j hj
  rw [Nat.zero_add, exL_getD] at this
  exact this
def ReI (w0 : World) (lo : Nat) (us fs : List Nat) (s : Nat) (v iv : Value) (wr : World) : Prop := ∃ (k : Nat) (cur : List Nat), k ≤ fs.length ∧ iv = .int .i64 k ∧ IsW cur (reK us fs s k) ∧ Own wr lo v (fl cur) ∧ Below lo w0 wr
set_option maxRecDepth 100000 in
set_option maxHeartbeats 8000000 in
theorem reI_any (A A' : Option Addr) (n c c' s : Nat) (us cu fs : List Nat) (w : World) (h : Rd w w.heap.size (.slice A n c) (fl fs)) (h' : Rd w w.heap.size (.slice A' n c') (fl us)) (hn : us.length = n) (hn' : fs.length = n) (hl : liB n = true)
    (hu : IsW us cu) (hf' : finA fs = true) (hx' : ∀ x ∈ fs, x < 2 ^ 32) (hs : s < 2 ^ 32) (hp : psB s = true) :
    Calls Try.prog 73 #[.agg #[.slice A n c, .float .f32 s], .slice A' n c'] w (RetW (reF cu fs s) w) := by
  obtain ⟨h1, h63⟩ := liB_bd hl
  have HEn := Lib.hid (endI_any A' n c' us (w.alloc (boxO (.slice A n c) s)) (h'.step ((Below.refl _ _).alloc (Nat.le_refl _) _)) hn h1 h63)
  have HCl := Lib.hid (fun W (hW : Rd W W.heap.size (.slice A n c) (fl fs)) => clnF_any A n c fs W hW hn' (by omega) (by omega))
  have HSq := Lib.hid (fun W => sqI_any A n c s W hs hp)
  have HR := Lib.hid h
  have HF := Lib.hid (IsW.self hf' hx')
  have HU := Lib.hid hu
  have HL := Lib.hid hn'
  have HLU := Lib.hid hn
  have HP := Lib.hid hp
  have hb0 : Below w.heap.size w (w.alloc (boxO (.slice A n c) s)) := (Below.refl _ _).alloc (Nat.le_refl _) _
  obtain ⟨bx0, bx1⟩ := box_cells w (.slice A n c) s
  have hbs := box_size w (boxO (.slice A n c) s)
  have HB0 := Lib.hid hb0
  have HX := Lib.hid (And.intro bx0 bx1)
  have HBS := Lib.hid hbs
  clear h h' hn hn' hl hu hf' hx' hb0 bx0 bx1 hbs
  obtain ⟨W0, hW0⟩ : ∃ W0, w.alloc (boxO (.slice A n c) s) = W0 := ⟨_, rfl⟩
  have hW0' : w.alloc (.cells #[.slice A n c, .float .f32 s] 75) = W0 := hW0
  rw [hW0] at HEn HB0 HX HBS
  have hsf : ∀ (a : Addr) (x : Nat) (w : World), (store a (.float .f32 x)).run Try.prog w = stored Try.prog w a (.float .f32 x) .plain := fun a x w => run_store _ w a _ _ rfl
  go_enter Try.func73, Try.ntmps73
  go_wp2_with (first | (go_at_call 67; (try rw [hW0']); refine HEn.out.mono ?_; rintro e w1 ⟨g, rfl, hg, ho, hb1⟩; rw [HLU.out] at ho; rw [HLU.out]; have xc0 : w1.cell? ⟨w.heap.size, 0, none⟩ = some (.slice A n c) := (hb1.cell (p := ⟨w.heap.size, 0, none⟩) (by rw [HBS.out]; exact Nat.lt_succ_self _)).trans HX.out.1; have xc1 : w1.cell? ⟨w.heap.size, 1, none⟩ = some (.float .f32 s) := (hb1.cell (p := ⟨w.heap.size, 1, none⟩) (by rw [HBS.out]; exact Nat.lt_succ_self _)).trans HX.out.2; have HO1 := Lib.hid ho; have HB1 := Lib.hid hb1; have HR1 := Lib.hid (HR.out.step (HB0.out.trans (hb1.mono HB0.out.size))); clear ho hb1) | (go_at_call 85; refine (HCl.out _ HR1.out).mono ?_; rintro e w2 ⟨v', rfl, ho2, hb2⟩; obtain ⟨g2, go, cc', hv'⟩ := ho2.openF (by have := HL.out; omega); rw [HL.out] at hv'; subst hv'; have HO2 := Lib.hid ho2; have HB2 := Lib.hid hb2; clear ho2 hb2))
  have hgw1 : g < w1.heap.size := (HO1.out.nums (by omega)).2.2.1
  have hxw1 : w.heap.size < w1.heap.size := by have := HB1.out.size; have := HBS.out; omega
  go_loopw [22] (ReI w1 w1.heap.size cu fs s (.slice (some ⟨g2, go, none⟩) n cc')) (fun i _ => n - (intOf i).toNat)
  case atStart => exact ⟨0, fs, Nat.zero_le _, rfl, by rw [reK_zero]; exact HF.out, HO2.out, HB2.out⟩
  case round =>
    clear HO2 HB2
    obtain ⟨k, cur, hk, rfl, hw, ho, hbl⟩ := hrel
    rw [HL.out] at hk
    by_cases hlt : k < n
    · have cB : wr.cell? ⟨g, k, none⟩ = some (.float .f32 ((0 :: us).getD k 0)) := (hbl.cell (p := ⟨g, k, none⟩) hgw1).trans (ex_cells HO1.out k (by omega))
      have cX : wr.cell? ⟨g, 1 + k, none⟩ = some (.float .f32 (us.getD k 0)) := (hbl.cell (p := ⟨g, 1 + k, none⟩) hgw1).trans (by rw [show 1 + k = k + 1 by omega]; exact ex_cells HO1.out (k + 1) (by omega))
      have cA : wr.cell? ⟨g, k + 2, none⟩ = some (.float .f32 ((0 :: us).getD (k + 2) 0)) := (hbl.cell (p := ⟨g, k + 2, none⟩) hgw1).trans (ex_cells HO1.out (k + 2) (by omega))
      have cp0 : wr.cell? ⟨w.heap.size, 0, none⟩ = some (.slice A n c) := (hbl.cell (p := ⟨w.heap.size, 0, none⟩) hxw1).trans xc0
      have cp1 : wr.cell? ⟨w.heap.size, 1, none⟩ = some (.float .f32 s) := (hbl.cell (p := ⟨w.heap.size, 1, none⟩) hxw1).trans xc1
      obtain ⟨hcl, hg1, hg2, hcc, hfz⟩ := ho.nums (by omega)
      have d0 := hcc k hlt
      have kd := hw.at k
      rw [reK_at cu fs s k (by rw [HL.out]; omega)] at kd
      have k0 := HU.out.at k
      have kb := cons_isW HU.out k
      have ka := cons_isW HU.out (k + 2)
      have HS := Lib.hid (reK_set cu fs s k (by rw [HL.out]; omega))
      have HD := Lib.hid (show reA cu fs s k = ar .sub .f32 (fs.getD k 0) (ar .quo .f32 (ar .sub .f32 (ar .sub .f32 (ar .mul .f32 1073741824 (cu.getD k 0)) ((0 :: cu).getD k 0)) ((0 :: cu).getD (k + 2) 0)) (sqF2 s)) from rfl)
      have ksq := sq_is HP.out
      have HW := Lib.hid hw
      have HO := Lib.hid ho
      have HB := Lib.hid hbl
      have hk2 : k + 2 < n + 2 := by omega
      have hk1 : k < n + 2 := by omega
      generalize us.getD k 0 = x0 at *
      generalize (0 :: us).getD k 0 = xb at *
      generalize (0 :: us).getD (k + 2) 0 = xa at *
      generalize cur.getD k 0 = y0 at *
      clear hw ho hbl hcl hcc hfz
      go_wp2_with fail
      refine Sf.wp_soft [false, false, false, false, false, false, false, false, false, false, false] [true, true, true, true, true, true, true, true, true, true, true] (fun i =>  1) (fun _ => undef) (by kernel_rfl) (by kernel_rfl) (by kernel_rfl) ?_
      simp only [Sf.tl]
      refine Sf.lx_one rfl rfl (fun K hK => Sf.dft_quiet rfl ?_)
      go_big_quiet_op
      refine hK _ ?_
      clear hK K
      refine Sf.lx_one rfl rfl (fun K hK => Sf.dft_quiet rfl ?_)
      go_big_quiet_op
      refine hK _ ?_
      clear hK K
      refine Sf.lx_one rfl rfl (fun K hK => Sf.dft_quiet rfl ?_)
      go_big_quiet_op
      refine hK _ ?_
      clear hK K
      refine Sf.lx_one rfl rfl (fun K hK => Sf.dft_quiet rfl ?_)
      go_big_quiet_op
      refine hK _ ?_
      clear hK K
      refine Sf.lx_one rfl rfl (fun K hK => Sf.dft_quiet rfl ?_)
      go_big_quiet_op
      refine hK _ ?_
      clear hK K
      refine Sf.lx_one rfl rfl (fun K hK => Sf.dft_quiet rfl ?_)
      go_big_quiet_op
      refine hK _ ?_
      clear hK K
      refine Sf.lx_one rfl rfl (fun K hK => Sf.dft_quiet rfl ?_)
      go_big_quiet_op
      refine hK _ ?_
      clear hK K
      refine Sf.lx_one rfl rfl (fun K hK => Sf.dft_quiet rfl ?_)
      go_big_quiet_op
      refine hK _ ?_
      clear hK K
      refine Sf.lx_one rfl rfl (fun K hK => Sf.dft_quiet rfl ?_)
      go_big_quiet_op
      refine hK _ ?_
      clear hK K
      refine Sf.lx_one rfl rfl (fun K hK => Sf.dft_quiet rfl ?_)
      go_big_quiet_op
      refine hK _ ?_
      clear hK K
      refine Sf.lx_one rfl rfl (fun K hK => Sf.dft_quiet rfl ?_)
      go_big_quiet_op
      refine hK _ ?_
      clear hK K
      refine Sf.lx_nil ?_
      rintro _ ⟨nq, rfl⟩
      obtain ⟨W1, hW1⟩ : ∃ W1, wr.drewN nq = W1 := ⟨_, rfl⟩
      have HO1' := Lib.hid (show Own W1 w1.heap.size (.slice (some ⟨g2, go, none⟩) n cc') (fl cur) by rw [← hW1]; exact HO.out.drewN _)
      have HB1' := Lib.hid (show Below w1.heap.size w1 W1 by rw [← hW1]; exact below_drawn HB.out _)
      have e0 := Sf.alQ_cell (boxO (.slice A n c) s) W1 (b := w.heap.size) (o := 0) (by rw [← hW1]; exact cp0)
      have e1 := Sf.alQ_cell (boxO (.slice A n c) s) W1 (b := w.heap.size) (o := 1) (by rw [← hW1]; exact cp1)
      have e2 := Sf.alQ_cell (boxO (.slice A n c) s) W1 (b := g2) (o := go + k) (by rw [← hW1]; exact d0)
      rw [hW1]
      clear hW1 cB cX cA cp0 cp1 d0 HO HB
      go_wp2_with fail
      refine Sf.wp_softC (C := fun w' => ∃ q, w' = Sf.alQ (boxO (.slice A n c) s) W1 q) [false, false, false, false, false, false, false, false, false, false, false, false, false, false, false, true] [true, true, true, true, true, true, true, true, true, true, true, true, true, true, true, false] (fun i => if i = 5 then 0 else if i = 7 then 0 else if i = 9 then 0 else if i = 12 then 0 else if i = 13 then 0 else 1) (fun i => if i = 11 then .float .f32 (sqF2 s) else undef) (by kernel_rfl) (by kernel_rfl) (by kernel_rfl) ⟨⟨1, 0⟩, rfl⟩ ?_
      simp only [Sf.tl]
      refine Sf.lx_one rfl rfl (fun K hK => Sf.dft_quiet rfl ?_)
      go_big_quiet_op
      refine hK _ ?_
      clear hK K
      refine Sf.lx_one rfl rfl (fun K hK => Sf.dft_quiet rfl ?_)
      go_big_quiet_op
      refine hK _ ?_
      clear hK K
      refine Sf.lx_one rfl rfl (fun K hK => Sf.dft_quiet rfl ?_)
      go_big_quiet_op
      refine hK _ ?_
      clear hK K
      refine Sf.lx_one rfl rfl (fun K hK => Sf.dft_quiet rfl ?_)
      go_big_quiet_op
      refine hK _ ?_
      clear hK K
      refine Sf.lx_one rfl rfl (fun K hK => Sf.dft_quiet rfl ?_)
      go_big_quiet_op
      refine hK _ ?_
      clear hK K
      refine Sf.lx_fl rfl rfl (fun K hK => Sf.sft_arC (k := .f32) (Sf.alQ_closed _ _) rfl rfl rfl rfl (is_lit (by decide)) (k0) (fun r41 hr41 => hK _ ?_))
      clear hK K
      simp only [Act.put, List.setIfInBounds_toArray, List.set_cons_zero, List.set_cons_succ]
      refine Sf.lx_one rfl rfl (fun K hK => Sf.dft_quiet rfl ?_)
      go_big_quiet_op
      refine hK _ ?_
      clear hK K
      refine Sf.lx_fl rfl rfl (fun K hK => Sf.sft_arC (k := .f32) (Sf.alQ_closed _ _) rfl rfl rfl rfl (hr41) (kb) (fun r43 hr43 => hK _ ?_))
      clear hK K
      simp only [Act.put, List.setIfInBounds_toArray, List.set_cons_zero, List.set_cons_succ]
      refine Sf.lx_one rfl rfl (fun K hK => Sf.dft_quiet rfl ?_)
      go_big_quiet_op
      refine hK _ ?_
      clear hK K
      refine Sf.lx_fl rfl rfl (fun K hK => Sf.sft_arC (k := .f32) (Sf.alQ_closed _ _) rfl rfl rfl rfl (hr43) (ka) (fun r45 hr45 => hK _ ?_))
      clear hK K
      simp only [Act.put, List.setIfInBounds_toArray, List.set_cons_zero, List.set_cons_succ]
      refine Sf.lx_one rfl rfl (fun K hK => Sf.dft_quiet rfl ?_)
      go_big_quiet_op
      refine hK _ ?_
      clear hK K
      refine Sf.lx_one rfl rfl (fun K hK => Sf.dft_call ?_ (hK _ ?_))
      · clear hK K; rintro _ ⟨nc, rfl⟩; go_simp; exact (HSq.out _).mono fun e w' ⟨he, n1, hw'⟩ => ⟨he, by rw [hw']; exact Sf.alQ_next _ _ _ _⟩
      clear hK K
      simp only [Act.put, List.setIfInBounds_toArray, List.set_cons_zero, List.set_cons_succ, if_true, if_false, reduceIte, Nat.reduceEqDiff]
      refine Sf.lx_fl rfl rfl (fun K hK => Sf.sft_arC (k := .f32) (Sf.alQ_closed _ _) rfl rfl rfl rfl (hr45) (ksq) (fun r48 hr48 => hK _ ?_))
      clear hK K
      simp only [Act.put, List.setIfInBounds_toArray, List.set_cons_zero, List.set_cons_succ]
      refine Sf.lx_fl rfl rfl (fun K hK => Sf.sft_arC (k := .f32) (Sf.alQ_closed _ _) rfl rfl rfl rfl (kd) (hr48) (fun r49 hr49 => hK _ ?_))
      clear hK K
      simp only [Act.put, List.setIfInBounds_toArray, List.set_cons_zero, List.set_cons_succ]
      refine Sf.lx_one rfl rfl (fun K hK => Sf.dft_quiet rfl ?_)
      go_big_quiet_op
      refine hK _ ?_
      clear hK K
      refine Sf.lx_over ?_
      refine Sf.lx_nil ?_
      rintro _ ⟨nq, rfl⟩
      obtain ⟨W2, hW2⟩ : ∃ W2, Sf.alQ (boxO (.slice A n c) s) W1 nq = W2 := ⟨_, rfl⟩
      have hb12 : Below W1.heap.size W1 W2 := by rw [← hW2]; exact Sf.alQ_below _ _ _
      have ho2 := HO1'.out.below hb12
      have HBB := Lib.hid (HB1'.out.trans (hb12.mono HB1'.out.size))
      obtain ⟨_, _, _, hcc, hfz⟩ := ho2.nums (by omega)
      have d0 := hcc k hlt
      have z0 := hfz k hlt
      have HO2 := Lib.hid ho2
      rw [hW2]
      clear hW2 hb12 ho2 hcc hfz e0 e1 e2
      go_wp2_with fail
      go_roundw
      case rel =>
        refine ⟨k + 1, cur.set k r49, by rw [HL.out]; omega, by go_num, ?_, HO2.out.putF k hlt r49, HBB.out.setCell hg1 _⟩
        rw [← HS.out]; exact HW.out.set k (by rw [HD.out]; exact hr49)
      case measure => simp [intOf]; omega
    · obtain rfl : k = n := by omega
      have hF : reK cu fs s k = reF cu fs s := by rw [← reK_all, HL.out]
      rw [hF] at hw
      have HW := Lib.hid hw
      have HO := Lib.hid ho
      have HB := Lib.hid hbl
      clear hw ho hbl hF
      go_wp2_with fail
      go_ret
      exact ⟨_, cur, rfl, HW.out, HO.out.less (by omega), (HB0.out.trans (HB1.out.mono HB0.out.size)).trans (HB.out.mono (by omega))⟩
end Go.Proofs.Ytfcegkighjnmeaa
