/-
  Contract: edges of costs, by the program.
-/
import Derived.Test.YthkklilfignmpaaEc
import Derived.Test.YthkklilfignmpaaAcI
import Derived.Test.YthkklilfignmpaaBx
import Derived.Test.YthkklilfignmpaaSft
import Derived.Test.YthkklilfignmpaaLin
import Derived.Deep.RegionHeld3
namespace Go.Proofs.Ythkklilfignmpaa
open Go.RowKit Fl
set_option linter.unusedVariables false
/-- A block of n cells of its own, the first k of which are told by f. -/
def FdB (w : World) (g n k : Nat) (fv : Nat → Value) : Prop := g < w.heap.size ∧ (∀ j, j < n → (∃ y, w.cell? ⟨g, j, none⟩ = some y) ∧ w.frozen? ⟨g, j, none⟩ = false) ∧ ∀ j, j < k → w.cell? ⟨g, j, none⟩ = some (fv j)
theorem FdB.below {w w' : World} {g n k : Nat} {fv : Nat → Value} (h : FdB w g n k fv) (hb : Below w.heap.size w w') : FdB w' g n k fv :=
  ⟨Nat.lt_of_lt_of_le h.1 hb.size, fun j hj => ⟨(h.2.1 j hj).1.imp fun y hy => (hb.cell (p := ⟨g, j, none⟩) h.1).trans hy, (hb.frozen (p := ⟨g, j, none⟩) h.1).trans (h.2.1 j hj).2⟩, fun j hj => (hb.cell (p := ⟨g, j, none⟩) h.1).trans (h.2.2 j hj)⟩
theorem FdB.drewN {w : World} {g n k : Nat} {fv : Nat → Value} (h : FdB w g n k fv) (q : Nat) : FdB (w.drewN q) g n k fv := h
theorem FdB.other {w : World} {g g' n k : Nat} {fv : Nat → Value} (h : FdB w g n k fv) (hg : g' ≠ g) (i : Nat) (u : Value) : FdB (w.setCell ⟨g', i, none⟩ u) g n k fv := by
  have e : ∀ j, (w.setCell ⟨g', i, none⟩ u).cell? ⟨g, j, none⟩ = w.cell? ⟨g, j, none⟩ := fun j => World.cell?_setCell_other _ _ _ _ (by intro e; simp at e <;> omega)
  exact ⟨by simpa [World.setCell] using h.1, fun j hj => ⟨by rw [e]; exact (h.2.1 j hj).1, by rw [World.frozen?_setCell]; exact (h.2.1 j hj).2⟩, fun j hj => by rw [e]; exact h.2.2 j hj⟩
theorem FdB.put {w : World} {g n k : Nat} {fv : Nat → Value} {u : Value} (h : FdB w g n k fv) (hk : k < n) (hu : u = fv k) : FdB (w.setCell ⟨g, k, none⟩ u) g n (k + 1) fv := by
  subst hu
  obtain ⟨⟨y, hy⟩, _⟩ := h.2.1 k hk
  have e : ∀ j, j ≠ k → (w.setCell ⟨g, k, none⟩ (fv k)).cell? ⟨g, j, none⟩ = w.cell? ⟨g, j, none⟩ := fun j hj => World.cell?_setCell_other _ _ _ _ (by intro e; simp at e <;> omega)
  have es : (w.setCell ⟨g, k, none⟩ (fv k)).cell? ⟨g, k, none⟩ = some (fv k) := World.cell?_setCell_same _ _ _ hy
  refine ⟨by simpa [World.setCell] using h.1, fun j hj => ⟨?_, by rw [World.frozen?_setCell]; exact (h.2.1 j hj).2⟩, fun j hj => ?_⟩
  · by_cases hjk : j = k
    · subst hjk; exact ⟨_, es⟩
    · rw [e j hjk]; exact (h.2.1 j hj).1
  · by_cases hjk : j = k
    · subst hjk; exact es
    · rw [e j hjk]; exact h.2.2 j (by omega)
theorem fdB_new (w : World) (n : Nat) (z : Value) (T : TypeId) (fv : Nat → Value) : FdB (w.alloc (.cells (madeCells #[z] n) T)) w.heap.size n 0 fv := by
  refine ⟨by simp, fun j hj => ⟨?_, frozen_of_row _ _ _ _ _ (heap_alloc_new w _)⟩, fun j hj => absurd hj (Nat.not_lt_zero _)⟩
  rw [cell_of_row _ _ j _ _ _ (heap_alloc_new w _)]
  exact ⟨_, Array.getElem?_eq_getElem (by rw [size_madeCells]; simpa using hj)⟩
theorem FdB.rdI {w : World} {g n : Nat} {L : List Int} (h : FdB w g n n (fun j => .int .i64 (L.getD j 0))) (hl : L.length = n) (hm : n ≤ 1048576) : Rd w w.heap.size (.slice (some ⟨g, 0, none⟩) n n) (il L) := by
  refine ⟨_, n, by rw [il_len, hl], by rw [il_len, hl]; exact Nat.le_refl _, by unfold maxLen; omega, fun hp => ⟨g, 0, rfl, h.1, fun i x hx => ?_⟩⟩
  have hi : i < L.length := by have := (List.getElem?_eq_some_iff.1 hx).1; rw [il_len] at this; exact this
  rw [il_getD L i hi] at hx
  cases hx
  rw [Nat.zero_add]
  exact h.2.2 i (by omega)
theorem FdB.rdF {w : World} {g n : Nat} {L : List Nat} (h : FdB w g n n (fun j => .float .f32 (L.getD j 0))) (hl : L.length = n) (hm : n ≤ 1048576) : Rd w w.heap.size (.slice (some ⟨g, 0, none⟩) n n) (fl L) := by
  refine ⟨_, n, by rw [fl_len, hl], by rw [fl_len, hl]; exact Nat.le_refl _, by unfold maxLen; omega, fun hp => ⟨g, 0, rfl, h.1, fun i x hx => ?_⟩⟩
  have hi : i < L.length := by have := (List.getElem?_eq_some_iff.1 hx).1; rw [fl_len] at this; exact this
  rw [fl_getD L i hi] at hx
  cases hx
  rw [Nat.zero_add]
  exact h.2.2 i (by omega)
theorem ei_far {w : World} {g g' j k : Nat} {u v : Value} (hg : g ≠ g') (h : w.cell? ⟨g', j, none⟩ = some v) : (w.setCell ⟨g, k, none⟩ u).cell? ⟨g', j, none⟩ = some v := by
  rw [World.cell?_setCell_other _ _ _ _ (by intro e; simp at e <;> omega)]; exact h
theorem ec_made1 (w : World) (q : Nat) (xs : List (Int × Nat)) : FdB (((w.drewN q).alloc (.cells (madeCells #[.int .i64 0] xs.length) 2)).alloc (.cells (madeCells #[.float .f32 0] xs.length) 23)) w.heap.size xs.length 0 (fun j => .int .i64 ((bsC xs).getD j 0)) ∧ FdB (((w.drewN q).alloc (.cells (madeCells #[.int .i64 0] xs.length) 2)).alloc (.cells (madeCells #[.float .f32 0] xs.length) 23)) (w.heap.size + 1) xs.length 0 (fun j => .float .f32 ((msC xs).getD j 0)) ∧ Below w.heap.size w (((w.drewN q).alloc (.cells (madeCells #[.int .i64 0] xs.length) 2)).alloc (.cells (madeCells #[.float .f32 0] xs.length) 23)) :=
  ⟨((fdB_new (w.drewN q) xs.length (.int .i64 0) 2 _).below ((Below.refl _ _).alloc (Nat.le_refl _) _)), (by have := fdB_new ((w.drewN q).alloc (.cells (madeCells #[.int .i64 0] xs.length) 2)) xs.length (.float .f32 0) 23 (fun j => .float .f32 ((msC xs).getD j 0)); simpa using this), ((below_drawn (Below.refl _ _) q).alloc (Nat.le_refl _) _).alloc (by simp) _⟩
theorem ec_made2 (w : World) (q : Nat) (xs : List (Int × Nat)) : FdB (((w.drewN q).alloc (.cells (madeCells #[.float .f32 0] xs.length) 23)).alloc (.cells (madeCells #[.int .i64 0] xs.length) 2)) (w.heap.size + 1) xs.length 0 (fun j => .int .i64 ((bsC xs).getD j 0)) ∧ FdB (((w.drewN q).alloc (.cells (madeCells #[.float .f32 0] xs.length) 23)).alloc (.cells (madeCells #[.int .i64 0] xs.length) 2)) w.heap.size xs.length 0 (fun j => .float .f32 ((msC xs).getD j 0)) ∧ Below w.heap.size w (((w.drewN q).alloc (.cells (madeCells #[.float .f32 0] xs.length) 23)).alloc (.cells (madeCells #[.int .i64 0] xs.length) 2)) :=
  ⟨(by have := fdB_new ((w.drewN q).alloc (.cells (madeCells #[.float .f32 0] xs.length) 23)) xs.length (.int .i64 0) 2 (fun j => .int .i64 ((bsC xs).getD j 0)); simpa using this), ((fdB_new (w.drewN q) xs.length (.float .f32 0) 23 _).below ((Below.refl _ _).alloc (Nat.le_refl _) _)), ((below_drawn (Below.refl _ _) q).alloc (Nat.le_refl _) _).alloc (by simp) _⟩
def EiR (w0 : World) (xs : List (Int × Nat)) (gc gm : Nat) (iv x y : Value) (wr : World) : Prop :=
  ∃ k : Nat, k ≤ xs.length ∧ iv = .int .i64 k ∧ FdB wr gc xs.length k (fun j => .int .i64 ((bsC xs).getD j 0)) ∧ FdB wr gm xs.length k (fun j => .float .f32 ((msC xs).getD j 0)) ∧ Below w0.heap.size w0 wr
def EdR (w0 : World) (xs : List (Int × Nat)) (L : List Int) (v i : Value) (wr : World) : Prop :=
  (∃ a : Nat, ∃ L0 X, a < xs.length ∧ i = .int .i64 a ∧ L0.length + xs.length ≤ 17 + a ∧ EdgeFrom (bsC xs) (msC xs) xs.length a X ∧ L0 ++ (a : Int) :: X = L ∧ RowI w0 v L0 wr) ∨ (i = .int .i64 (-1) ∧ RowI w0 v L wr)
set_option maxRecDepth 100000 in
set_option maxHeartbeats 16000000 in
theorem ecI_any (v : Value) (xs : List (Int × Nat)) (X0 : List Int) (w : World) (h : RdC w w.heap.size v xs) (hm : xs.length ≤ 1048576) (hx : ∀ x ∈ xs, x.2 < 2 ^ 32) (hX0 : acB xs = true → EdgeFrom (bsC xs) (msC xs) xs.length 0 X0) :
    Calls Try.prog 35 #[v] w (RetJ (ecV xs X0) (acB xs) w) := by
  obtain ⟨i0, hi, hz0, hz1, hz2⟩ := info_parts infoI
  obtain ⟨if0, hif, hzf0, hzf1, hzf2⟩ := info_parts infoF
  have HA := Lib.hid (acI_any v xs w h hm hx)
  have HRC := Lib.hid h
  obtain ⟨A, c, hv, _⟩ := h
  subst hv
  cases hg : acB xs with
  | false =>
    rw [ecV_no hg]
    rw [hg] at HA
    clear hg hX0 hx
    go_enter Try.func35, Try.ntmps35
    go_wp2_with fail
    refine HA.out.mono ?_
    rintro e w1 ⟨rfl, hb⟩
    have HB := Lib.hid hb
    clear hb
    go_wp2_with fail
    go_ret2
    exact retJ_nil HB.out
  | true =>
    rw [ecV_yes hg]
    rw [hg] at HA
    have hX := hX0 hg
    obtain ⟨n1, n2, _⟩ := acB_out hg
    have HG := Lib.hid hg
    have HX := Lib.hid hX
    have hmi := fun W => run_mkL (P := Try.prog) 60 2 i0 _ Try.underlying60 hi hz0 xs.length (by rw [hz2]; omega) (by omega) (xs.length : Int) rfl W
    rw [hz1] at hmi
    have hmf := fun W => run_mkL (P := Try.prog) 22 23 if0 _ Try.underlying22 hif hzf0 xs.length (by rw [hzf2]; omega) (by omega) (xs.length : Int) rfl W
    rw [hzf1] at hmf
    have hsf : ∀ (a : Addr) (x : Nat) (w : World), (store a (.float .f32 x)).run Try.prog w = stored Try.prog w a (.float .f32 x) .plain := fun a x w => run_store _ w a _ _ rfl
    clear hg hX hX0 hx
    go_enter Try.func35, Try.ntmps35
    go_wp2_with fail
    refine HA.out.mono ?_
    rintro e wa ⟨rfl, hb⟩
    have HB := Lib.hid hb
    obtain ⟨A', c', hv', hcc⟩ := HRC.out.step hb
    simp only [Value.slice.injEq] at hv'
    obtain ⟨rfl, -, rfl⟩ := hv'
    obtain ⟨bk, off, rfl, hbk, hcell⟩ := hcc (by omega)
    have HC := Lib.hid hcell
    have HFD1 := Lib.hid (fun q => ec_made1 wa q xs)
    have HFD2 := Lib.hid (fun q => ec_made2 wa q xs)
    clear hb hcc hcell HA HRC
    go_wp2_with fail
    go_region
    · skip
      obtain ⟨hf1, hf2, hfb⟩ := HFD1.out _
      go_wp2_with fail
      go_loopw [21, 6, 7] (EiR wa xs wa.heap.size (wa.heap.size + 1)) (fun i _ _ _ => xs.length - (intOf i).toNat)
      case atStart => exact ⟨0, Nat.zero_le _, rfl, hf1, hf2, hfb⟩
      case round =>
        clear hf1 hf2 hfb
        obtain ⟨k, hk, rfl, hf1, hf2, hfb⟩ := hrel
        by_cases hlt : k < xs.length
        · have ck := HC.out k hlt
          have c0 : wr.cell? ⟨bk, off + k * 2, none⟩ = some (.int .i64 (xs.getD k (0, 0)).1) := (hfb.cell (p := ⟨bk, off + k * 2, none⟩) hbk).trans ck.1
          have c1 : wr.cell? ⟨bk, off + k * 2 + 1, none⟩ = some (.float .f32 (xs.getD k (0, 0)).2) := (hfb.cell (p := ⟨bk, off + k * 2 + 1, none⟩) hbk).trans ck.2
          have HP := Lib.hid (bsC_getD xs k)
          have HQ := Lib.hid (msC_getD xs k)
          generalize (xs.getD k (0, 0)).1 = p at *
          generalize (xs.getD k (0, 0)).2 = x at *
          obtain ⟨wb, hwb⟩ : ∃ W, wr.alloc (.cells #[.int .i64 p, .float .f32 x] 126) = W := ⟨_, rfl⟩
          have hbb : Below wr.heap.size wr wb := by rw [← hwb]; exact (Below.refl _ _).alloc (Nat.le_refl _) _
          have hx : Bx wb wr.heap.size [.int .i64 p, .float .f32 x] := by rw [← hwb]; exact bx_new wr [.int .i64 p, .float .f32 x] _
          have d0 := (hx.2 0 _ rfl).1
          have d1 := (hx.2 1 _ rfl).1
          have F1 := Lib.hid (hf1.below hbb)
          have F2 := Lib.hid (hf2.below hbb)
          have FB := Lib.hid (hfb.trans (hbb.mono hfb.size))
          obtain ⟨⟨y1, e1⟩, z1⟩ := F1.out.2.1 k hlt
          obtain ⟨⟨y2, e2⟩, z2⟩ := F2.out.2.1 k hlt
          have hkI : (k : Int) < xs.length := by omega
          have G1 := Lib.hid (show (wa.heap.size) < wr.heap.size from hf1.1)
          have G2 := Lib.hid (show ((wa.heap.size + 1)) < wr.heap.size from hf2.1)
          clear hf1 hf2 hfb hbb hx ck HC
          go_wp2_with fail
          have hne1 : (wa.heap.size) ≠ wr.heap.size := by have := F1.out.1; have := G1.out; omega
          have hne2 : (wa.heap.size) ≠ (wa.heap.size + 1) := by omega
          have hne3 : ((wa.heap.size + 1)) ≠ wr.heap.size := by have := F2.out.1; have := G2.out; omega
          have e2' : (wb.setCell ⟨wa.heap.size, k, none⟩ (.int .i64 p)).cell? ⟨(wa.heap.size + 1), k, none⟩ = some y2 := ei_far hne2 e2
          have z2' : (wb.setCell ⟨wa.heap.size, k, none⟩ (.int .i64 p)).frozen? ⟨(wa.heap.size + 1), k, none⟩ = false := by rw [World.frozen?_setCell]; exact z2
          go_region_held3 (fun w' => w'.cell? ⟨wr.heap.size, 0, none⟩ = some (.int .i64 p) ∧ w'.cell? ⟨wr.heap.size, 1, none⟩ = some (.float .f32 x)) (first | exact ⟨d0, d1⟩ | exact ⟨ei_far hne1 d0, ei_far hne1 d1⟩ | exact ⟨ei_far hne3 (ei_far hne1 d0), ei_far hne3 (ei_far hne1 d1)⟩) ((fail))
          go_wp2_with fail
          go_roundw
          case rel => exact ⟨k + 1, by omega, by go_num, (F1.out.put (u := .int .i64 p) hlt (by show _ = Value.int .i64 ((bsC xs).getD k 0); rw [HP.out])).other (by first | omega | (intro e; omega)) _ _, (F2.out.other (by first | omega | (intro e; omega)) _ _).put (u := .float .f32 x) hlt (by show _ = Value.float .f32 ((msC xs).getD k 0); rw [HQ.out]), below_drawn ((FB.out.setCell (p := ⟨wa.heap.size, k, none⟩) (by show _ ≤ wa.heap.size; omega) _).setCell (p := ⟨(wa.heap.size + 1), k, none⟩) (by show _ ≤ (wa.heap.size + 1); omega) _) 1⟩
          case measure => simp [intOf]; omega
        · obtain rfl : k = xs.length := by omega
          obtain ⟨wc, hwc⟩ : ∃ W, W = wr := ⟨_, rfl⟩
          subst hwc
          have RC := Lib.hid (hf1.rdI (by rw [bsC_len]) (by omega))
          have RM := Lib.hid (hf2.rdF (by rw [msC_len]) (by omega))
          have FB := Lib.hid hfb
          clear hf1 hf2 hfb HC
          go_wp2_with fail
          go_loopw [8, 9] (EdR wc xs (0 :: X0)) (fun _ i _ => if intOf i = -1 then 0 else xs.length + 1 - (intOf i).toNat)
          case atStart => exact .inl ⟨0, [], X0, by omega, rfl, by simp; omega, HX.out, rfl, RowI.lit wc⟩
          case round =>
            clear HX
            rcases hrel with ⟨a, L0, Y, ha, rfl, hl0, hx, hL, hr⟩ | ⟨rfl, hr⟩
            · have HR := Lib.hid hr
              have HN := Lib.hid (show L0.length ≤ 64 by omega)
              have HN2 := Lib.hid hl0
              have hne : ((a : Int) != -1) = true := bne_iff_ne.2 (by omega)
              have hnz : ¬ ((a : Int) = -1) := by omega
              have HSB := Lib.hid (fun w' (hb : Below wc.heap.size wc w') => sbI_any (.slice (some ⟨wa.heap.size, 0, none⟩) xs.length xs.length) (.slice (some ⟨(wa.heap.size + 1), 0, none⟩) xs.length xs.length) (bsC xs) (msC xs) xs.length w' (RC.out.step hb) (RM.out.step hb) (bsC_len xs) (msC_len xs) (by omega) (ac_tb HG.out) (fun i hi => by have := (ac_le HG.out i hi).2; omega) a ha)
              rcases edge_cases HG.out hx ha hL with ⟨hb, hE⟩ | ⟨b, Zl, hb, hab, hbn, hz, hE⟩
              · have HE := Lib.hid hE
                rw [hb] at HSB
                generalize (sbI (bsC xs) (msC xs) a xs.length).2 = sl at *
                clear hr hx hL hl0 hb hE
                go_wp2_with (first | (at_builtin; refine wpList_append_own _ rfl _ _ 60 rfl wc.heap.size 2 i0 (.int .i64 0) 1 8 Try.underlying60 hi hz0 hz1 hz2 rfl (by decide) _ _ _ rfl (HR.out.1.alloc _) ⟨wr.heap.size, 0, none⟩ 1 1 [.int .i64 (a : Int)] rfl rfl (one_newF _ _ _) (cellsI [(a : Int)]) (by unfold maxLen; have := HN.out; omega) (by have := HN.out; omega) (by simp; have := HR.out.2.size; omega) ?_; intro v' w1 hown' hgrow _) | (at_builtin; refine wpList_append_own _ rfl _ _ 60 rfl wc.heap.size 2 i0 (.int .i64 0) 1 8 Try.underlying60 hi hz0 hz1 hz2 rfl (by decide) _ _ _ rfl ((rowDrewF HR.out.1 _).alloc _) ⟨wr.heap.size, 0, none⟩ 1 1 [.int .i64 (a : Int)] rfl rfl (one_newF _ _ _) (cellsI [(a : Int)]) (by unfold maxLen; have := HN.out; omega) (by have := HN.out; omega) (by simp; have := HR.out.2.size; omega) ?_; intro v' w1 hown' hgrow _))
                have HR2 := Lib.hid (show RowI wc v' (L0 ++ [(a : Int)]) w1 from RowI.push hown' (by first | exact HR.out.2.alloc HR.out.2.size _ | exact (below_drawn HR.out.2 _).alloc HR.out.2.size _) hgrow (fun j hj => (HR.out.1.lt j hj).1))
                clear hown' hgrow
                go_wp2_with (go_at_call 99; refine (HSB.out _ HR2.out.2).mono ?_; rintro e w' ⟨rfl, n2, rfl⟩)
                go_roundw
                case rel => exact .inr ⟨rfl, by rw [← HE.out]; exact HR2.out.drewN _⟩
                case measure => simp [intOf]; omega
              · have HE := Lib.hid hE
                have HZ := Lib.hid hz
                rw [hb] at HSB
                generalize (sbI (bsC xs) (msC xs) a xs.length).2 = sl at *
                clear hr hx hL hl0 hb hE hz
                go_wp2_with (first | (at_builtin; refine wpList_append_own _ rfl _ _ 60 rfl wc.heap.size 2 i0 (.int .i64 0) 1 8 Try.underlying60 hi hz0 hz1 hz2 rfl (by decide) _ _ _ rfl (HR.out.1.alloc _) ⟨wr.heap.size, 0, none⟩ 1 1 [.int .i64 (a : Int)] rfl rfl (one_newF _ _ _) (cellsI [(a : Int)]) (by unfold maxLen; have := HN.out; omega) (by have := HN.out; omega) (by simp; have := HR.out.2.size; omega) ?_; intro v' w1 hown' hgrow _) | (at_builtin; refine wpList_append_own _ rfl _ _ 60 rfl wc.heap.size 2 i0 (.int .i64 0) 1 8 Try.underlying60 hi hz0 hz1 hz2 rfl (by decide) _ _ _ rfl ((rowDrewF HR.out.1 _).alloc _) ⟨wr.heap.size, 0, none⟩ 1 1 [.int .i64 (a : Int)] rfl rfl (one_newF _ _ _) (cellsI [(a : Int)]) (by unfold maxLen; have := HN.out; omega) (by have := HN.out; omega) (by simp; have := HR.out.2.size; omega) ?_; intro v' w1 hown' hgrow _))
                have HR2 := Lib.hid (show RowI wc v' (L0 ++ [(a : Int)]) w1 from RowI.push hown' (by first | exact HR.out.2.alloc HR.out.2.size _ | exact (below_drawn HR.out.2 _).alloc HR.out.2.size _) hgrow (fun j hj => (HR.out.1.lt j hj).1))
                clear hown' hgrow
                go_wp2_with (go_at_call 99; refine (HSB.out _ HR2.out.2).mono ?_; rintro e w' ⟨rfl, n2, rfl⟩)
                go_roundw
                case rel => exact .inl ⟨b, _, Zl, hbn, rfl, by have := HN2.out; simp; omega, HZ.out, HE.out, HR2.out.drewN _⟩
                case measure => simp [intOf]; omega
            · have HR := Lib.hid hr
              clear hr
              go_wp2
              go_ret2
              exact ⟨_, rfl, HR.out.own.less (Nat.le_trans HB.out.size FB.out.size), (HB.out.trans (FB.out.mono HB.out.size)).trans (HR.out.2.mono (Nat.le_trans HB.out.size FB.out.size))⟩

    · skip
      obtain ⟨hf1, hf2, hfb⟩ := HFD2.out _
      go_wp2_with fail
      go_loopw [21, 6, 7] (EiR wa xs (wa.heap.size + 1) wa.heap.size) (fun i _ _ _ => xs.length - (intOf i).toNat)
      case atStart => exact ⟨0, Nat.zero_le _, rfl, hf1, hf2, hfb⟩
      case round =>
        clear hf1 hf2 hfb
        obtain ⟨k, hk, rfl, hf1, hf2, hfb⟩ := hrel
        by_cases hlt : k < xs.length
        · have ck := HC.out k hlt
          have c0 : wr.cell? ⟨bk, off + k * 2, none⟩ = some (.int .i64 (xs.getD k (0, 0)).1) := (hfb.cell (p := ⟨bk, off + k * 2, none⟩) hbk).trans ck.1
          have c1 : wr.cell? ⟨bk, off + k * 2 + 1, none⟩ = some (.float .f32 (xs.getD k (0, 0)).2) := (hfb.cell (p := ⟨bk, off + k * 2 + 1, none⟩) hbk).trans ck.2
          have HP := Lib.hid (bsC_getD xs k)
          have HQ := Lib.hid (msC_getD xs k)
          generalize (xs.getD k (0, 0)).1 = p at *
          generalize (xs.getD k (0, 0)).2 = x at *
          obtain ⟨wb, hwb⟩ : ∃ W, wr.alloc (.cells #[.int .i64 p, .float .f32 x] 126) = W := ⟨_, rfl⟩
          have hbb : Below wr.heap.size wr wb := by rw [← hwb]; exact (Below.refl _ _).alloc (Nat.le_refl _) _
          have hx : Bx wb wr.heap.size [.int .i64 p, .float .f32 x] := by rw [← hwb]; exact bx_new wr [.int .i64 p, .float .f32 x] _
          have d0 := (hx.2 0 _ rfl).1
          have d1 := (hx.2 1 _ rfl).1
          have F1 := Lib.hid (hf1.below hbb)
          have F2 := Lib.hid (hf2.below hbb)
          have FB := Lib.hid (hfb.trans (hbb.mono hfb.size))
          obtain ⟨⟨y1, e1⟩, z1⟩ := F1.out.2.1 k hlt
          obtain ⟨⟨y2, e2⟩, z2⟩ := F2.out.2.1 k hlt
          have hkI : (k : Int) < xs.length := by omega
          have G1 := Lib.hid (show ((wa.heap.size + 1)) < wr.heap.size from hf1.1)
          have G2 := Lib.hid (show (wa.heap.size) < wr.heap.size from hf2.1)
          clear hf1 hf2 hfb hbb hx ck HC
          go_wp2_with fail
          have hne1 : ((wa.heap.size + 1)) ≠ wr.heap.size := by have := F1.out.1; have := G1.out; omega
          have hne2 : ((wa.heap.size + 1)) ≠ wa.heap.size := by omega
          have hne3 : (wa.heap.size) ≠ wr.heap.size := by have := F2.out.1; have := G2.out; omega
          have e2' : (wb.setCell ⟨(wa.heap.size + 1), k, none⟩ (.int .i64 p)).cell? ⟨wa.heap.size, k, none⟩ = some y2 := ei_far hne2 e2
          have z2' : (wb.setCell ⟨(wa.heap.size + 1), k, none⟩ (.int .i64 p)).frozen? ⟨wa.heap.size, k, none⟩ = false := by rw [World.frozen?_setCell]; exact z2
          go_region_held3 (fun w' => w'.cell? ⟨wr.heap.size, 0, none⟩ = some (.int .i64 p) ∧ w'.cell? ⟨wr.heap.size, 1, none⟩ = some (.float .f32 x)) (first | exact ⟨d0, d1⟩ | exact ⟨ei_far hne1 d0, ei_far hne1 d1⟩ | exact ⟨ei_far hne3 (ei_far hne1 d0), ei_far hne3 (ei_far hne1 d1)⟩) ((fail))
          go_wp2_with fail
          go_roundw
          case rel => exact ⟨k + 1, by omega, by go_num, (F1.out.put (u := .int .i64 p) hlt (by show _ = Value.int .i64 ((bsC xs).getD k 0); rw [HP.out])).other (by first | omega | (intro e; omega)) _ _, (F2.out.other (by first | omega | (intro e; omega)) _ _).put (u := .float .f32 x) hlt (by show _ = Value.float .f32 ((msC xs).getD k 0); rw [HQ.out]), below_drawn ((FB.out.setCell (p := ⟨(wa.heap.size + 1), k, none⟩) (by show _ ≤ (wa.heap.size + 1); omega) _).setCell (p := ⟨wa.heap.size, k, none⟩) (by show _ ≤ wa.heap.size; omega) _) 1⟩
          case measure => simp [intOf]; omega
        · obtain rfl : k = xs.length := by omega
          obtain ⟨wc, hwc⟩ : ∃ W, W = wr := ⟨_, rfl⟩
          subst hwc
          have RC := Lib.hid (hf1.rdI (by rw [bsC_len]) (by omega))
          have RM := Lib.hid (hf2.rdF (by rw [msC_len]) (by omega))
          have FB := Lib.hid hfb
          clear hf1 hf2 hfb HC
          go_wp2_with fail
          go_loopw [8, 9] (EdR wc xs (0 :: X0)) (fun _ i _ => if intOf i = -1 then 0 else xs.length + 1 - (intOf i).toNat)
          case atStart => exact .inl ⟨0, [], X0, by omega, rfl, by simp; omega, HX.out, rfl, RowI.lit wc⟩
          case round =>
            clear HX
            rcases hrel with ⟨a, L0, Y, ha, rfl, hl0, hx, hL, hr⟩ | ⟨rfl, hr⟩
            · have HR := Lib.hid hr
              have HN := Lib.hid (show L0.length ≤ 64 by omega)
              have HN2 := Lib.hid hl0
              have hne : ((a : Int) != -1) = true := bne_iff_ne.2 (by omega)
              have hnz : ¬ ((a : Int) = -1) := by omega
              have HSB := Lib.hid (fun w' (hb : Below wc.heap.size wc w') => sbI_any (.slice (some ⟨(wa.heap.size + 1), 0, none⟩) xs.length xs.length) (.slice (some ⟨wa.heap.size, 0, none⟩) xs.length xs.length) (bsC xs) (msC xs) xs.length w' (RC.out.step hb) (RM.out.step hb) (bsC_len xs) (msC_len xs) (by omega) (ac_tb HG.out) (fun i hi => by have := (ac_le HG.out i hi).2; omega) a ha)
              rcases edge_cases HG.out hx ha hL with ⟨hb, hE⟩ | ⟨b, Zl, hb, hab, hbn, hz, hE⟩
              · have HE := Lib.hid hE
                rw [hb] at HSB
                generalize (sbI (bsC xs) (msC xs) a xs.length).2 = sl at *
                clear hr hx hL hl0 hb hE
                go_wp2_with (first | (at_builtin; refine wpList_append_own _ rfl _ _ 60 rfl wc.heap.size 2 i0 (.int .i64 0) 1 8 Try.underlying60 hi hz0 hz1 hz2 rfl (by decide) _ _ _ rfl (HR.out.1.alloc _) ⟨wr.heap.size, 0, none⟩ 1 1 [.int .i64 (a : Int)] rfl rfl (one_newF _ _ _) (cellsI [(a : Int)]) (by unfold maxLen; have := HN.out; omega) (by have := HN.out; omega) (by simp; have := HR.out.2.size; omega) ?_; intro v' w1 hown' hgrow _) | (at_builtin; refine wpList_append_own _ rfl _ _ 60 rfl wc.heap.size 2 i0 (.int .i64 0) 1 8 Try.underlying60 hi hz0 hz1 hz2 rfl (by decide) _ _ _ rfl ((rowDrewF HR.out.1 _).alloc _) ⟨wr.heap.size, 0, none⟩ 1 1 [.int .i64 (a : Int)] rfl rfl (one_newF _ _ _) (cellsI [(a : Int)]) (by unfold maxLen; have := HN.out; omega) (by have := HN.out; omega) (by simp; have := HR.out.2.size; omega) ?_; intro v' w1 hown' hgrow _))
                have HR2 := Lib.hid (show RowI wc v' (L0 ++ [(a : Int)]) w1 from RowI.push hown' (by first | exact HR.out.2.alloc HR.out.2.size _ | exact (below_drawn HR.out.2 _).alloc HR.out.2.size _) hgrow (fun j hj => (HR.out.1.lt j hj).1))
                clear hown' hgrow
                go_wp2_with (go_at_call 99; refine (HSB.out _ HR2.out.2).mono ?_; rintro e w' ⟨rfl, n2, rfl⟩)
                go_roundw
                case rel => exact .inr ⟨rfl, by rw [← HE.out]; exact HR2.out.drewN _⟩
                case measure => simp [intOf]; omega
              · have HE := Lib.hid hE
                have HZ := Lib.hid hz
                rw [hb] at HSB
                generalize (sbI (bsC xs) (msC xs) a xs.length).2 = sl at *
                clear hr hx hL hl0 hb hE hz
                go_wp2_with (first | (at_builtin; refine wpList_append_own _ rfl _ _ 60 rfl wc.heap.size 2 i0 (.int .i64 0) 1 8 Try.underlying60 hi hz0 hz1 hz2 rfl (by decide) _ _ _ rfl (HR.out.1.alloc _) ⟨wr.heap.size, 0, none⟩ 1 1 [.int .i64 (a : Int)] rfl rfl (one_newF _ _ _) (cellsI [(a : Int)]) (by unfold maxLen; have := HN.out; omega) (by have := HN.out; omega) (by simp; have := HR.out.2.size; omega) ?_; intro v' w1 hown' hgrow _) | (at_builtin; refine wpList_append_own _ rfl _ _ 60 rfl wc.heap.size 2 i0 (.int .i64 0) 1 8 Try.underlying60 hi hz0 hz1 hz2 rfl (by decide) _ _ _ rfl ((rowDrewF HR.out.1 _).alloc _) ⟨wr.heap.size, 0, none⟩ 1 1 [.int .i64 (a : Int)] rfl rfl (one_newF _ _ _) (cellsI [(a : Int)]) (by unfold maxLen; have := HN.out; omega) (by have := HN.out; omega) (by simp; have := HR.out.2.size; omega) ?_; intro v' w1 hown' hgrow _))
                have HR2 := Lib.hid (show RowI wc v' (L0 ++ [(a : Int)]) w1 from RowI.push hown' (by first | exact HR.out.2.alloc HR.out.2.size _ | exact (below_drawn HR.out.2 _).alloc HR.out.2.size _) hgrow (fun j hj => (HR.out.1.lt j hj).1))
                clear hown' hgrow
                go_wp2_with (go_at_call 99; refine (HSB.out _ HR2.out.2).mono ?_; rintro e w' ⟨rfl, n2, rfl⟩)
                go_roundw
                case rel => exact .inl ⟨b, _, Zl, hbn, rfl, by have := HN2.out; simp; omega, HZ.out, HE.out, HR2.out.drewN _⟩
                case measure => simp [intOf]; omega
            · have HR := Lib.hid hr
              clear hr
              go_wp2
              go_ret2
              exact ⟨_, rfl, HR.out.own.less (Nat.le_trans HB.out.size FB.out.size), (HB.out.trans (FB.out.mono HB.out.size)).trans (HR.out.2.mono (Nat.le_trans HB.out.size FB.out.size))⟩

end Go.Proofs.Ythkklilfignmpaa
