/-
  Contracts: where bands are, by the program.
-/
import Derived.Test.YtfbdmhkmkmbipaaRgn
import Derived.Deep.AppendLies
import Derived.Laws.MakeOwn
import Derived.Test.YtfbdmhkmkmbipaaMel
import Derived.ScopeJumps
import Derived.WalkMore
import Derived.Deep.QuietTactic
import Derived.BigQuiet
namespace Go.Proofs.Ytfbdmhkmkmbipaa
open Go.RowKit Fl
set_option linter.unusedVariables false

theorem lvI_any (k : Int) (w : World) : Calls Try.prog 102 #[.int .i64 k] w fun e w' => e = .returned (.bool (decide (1 ≤ k ∧ k ≤ 4))) ∧ w = w' := by
  by_cases h0 : k < 1
  · rw [show (decide (1 ≤ k ∧ k ≤ 4)) = false from decide_eq_false (by omega)]
    go_enter Try.func102, Try.ntmps102
    go_wp2
    go_ret
    exact ⟨rfl, rfl⟩
  · have h1 : 1 ≤ k := by omega
    clear h0
    by_cases h2 : k ≤ 4
    · rw [show (decide (1 ≤ k ∧ k ≤ 4)) = true from decide_eq_true ⟨h1, h2⟩]
      go_enter Try.func102, Try.ntmps102
      go_wp2
      go_ret
      have hd : decide (k ≤ 4) = true := decide_eq_true h2
      first | exact ⟨rfl, rfl⟩ | exact ⟨by rw [← hd]; rfl, rfl⟩
    · rw [show (decide (1 ≤ k ∧ k ≤ 4)) = false from decide_eq_false (by omega)]
      have h3 : 4 < k := by omega
      clear h2
      go_enter Try.func102, Try.ntmps102
      go_wp2
      go_ret
      have hd : decide (k ≤ 4) = false := decide_eq_false (by omega)
      first | exact ⟨rfl, rfl⟩ | exact ⟨by rw [← hd]; rfl, rfl⟩
theorem bnI_any (k : Int) (w : World) : Calls Try.prog 133 #[.int .i64 k] w fun e w' => e = .returned (.bool (decide (0 ≤ k ∧ k ≤ 3))) ∧ w = w' := by
  by_cases h0 : k < 0
  · rw [show (decide (0 ≤ k ∧ k ≤ 3)) = false from decide_eq_false (by omega)]
    go_enter Try.func133, Try.ntmps133
    go_wp2
    go_ret
    exact ⟨rfl, rfl⟩
  · have h1 : 0 ≤ k := by omega
    clear h0
    by_cases h2 : k ≤ 3
    · rw [show (decide (0 ≤ k ∧ k ≤ 3)) = true from decide_eq_true ⟨h1, h2⟩]
      go_enter Try.func133, Try.ntmps133
      go_wp2
      go_ret
      have hd : decide (k ≤ 3) = true := decide_eq_true h2
      first | exact ⟨rfl, rfl⟩ | exact ⟨by rw [← hd]; rfl, rfl⟩
    · rw [show (decide (0 ≤ k ∧ k ≤ 3)) = false from decide_eq_false (by omega)]
      have h3 : 3 < k := by omega
      clear h2
      go_enter Try.func133, Try.ntmps133
      go_wp2
      go_ret
      have hd : decide (k ≤ 3) = false := decide_eq_false (by omega)
      first | exact ⟨rfl, rfl⟩ | exact ⟨by rw [← hd]; rfl, rfl⟩
set_option maxHeartbeats 400000 in
theorem hfI_any (p q : Int) (w : World) (hp : 1 ≤ p ∧ p ≤ 16) (hq : 1 ≤ q ∧ q ≤ 16) : Calls Try.prog 135 #[.agg #[.int .i64 p, .int .i64 q]] w fun e w' => e = .returned (.agg #[.int .i64 ((p + 1) / 2), .int .i64 ((q + 1) / 2)]) ∧ Below w.heap.size w w' := by
  go_enter Try.func135, Try.ntmps135
  go_wp2_with fail
  exact bodyPost_ret (v := .agg #[.int .i64 ((p + 1) / 2), .int .i64 ((q + 1) / 2)]) (by simp [results, Try.results135, go_sem]) rfl ⟨rfl, ((Below.refl _ _).alloc (Nat.le_refl _) _).alloc (by simp) _⟩
theorem infoSd : (Try.prog.info? 94).map (fun i => (i.zero, i.size, i.bytes)) = some (some (.agg #[.int .i64 0, .int .i64 0]), 2, 16) := by kernel_rfl
def lenOf : Value → Nat | .slice _ n _ => n | _ => 0
/-- The parts so far. -/
def prs (j : Nat) (p q : Int) : List Value := (List.range j).flatMap fun i => [.int .i64 (hvI i p), .int .i64 (hvI i q)]
theorem prs_succ (j : Nat) (p q : Int) : prs j p q ++ [.int .i64 (hvI j p), .int .i64 (hvI j q)] = prs (j + 1) p q := by simp [prs, List.range_succ, List.flatMap_append]
theorem row_setNe2 {w : World} {lo n : Nat} {e : TypeId} {v : Value} {xs : List Value} (h : w.ownsRow lo e 2 v n xs) {a : Addr} (ha : v.ownBlock ≠ some a.block) (u : Value) : (w.setCell a u).ownsRow lo e 2 v n xs := by
  refine ⟨h.1, ?_⟩
  rcases h.2 with h2 | ⟨g, cap, cur, rfl, hb, hg, r⟩
  · exact .inl h2
  · refine .inr ⟨g, cap, cur, rfl, hb, ?_, r⟩
    rw [Below.heap_setCell _ _ _ _ (fun e => ha (by simp [Value.ownBlock, e]))]; exact hg
theorem two_new (w : World) (x y : Value) (E : TypeId) : ∀ j u, [x, y][j]? = some u → (w.alloc (.cells #[x, y] E)).cell? ((⟨w.heap.size, 0, none⟩ : Addr).add j) = some u := by
  intro j u hu
  match j with
  | 0 => simp at hu; subst hu; exact (cell_of_row _ _ _ _ _ _ (heap_alloc_new w _)).trans rfl
  | 1 => simp at hu; subst hu; exact (cell_of_row _ _ _ _ _ _ (heap_alloc_new w _)).trans rfl
  | j + 2 => simp at hu
theorem two_cell (x y : Int) : ∀ u ∈ [Value.int .i64 x, Value.int .i64 y], u.oneCell' = true := by
  intro u hu; simp at hu; rcases hu with rfl | rfl <;> rfl
/-- j parts lie in a row, and a box holds the sides halved i times. -/
def Pts (w0 : World) (lo g i j : Nat) (p q : Int) (v : Value) (wr : World) : Prop :=
  wr.cell? ⟨g, 0, none⟩ = some (.int .i64 (hvI i p)) ∧ wr.cell? ⟨g, 1, none⟩ = some (.int .i64 (hvI i q)) ∧ wr.frozen? ⟨g, 0, none⟩ = false ∧ wr.frozen? ⟨g, 1, none⟩ = false ∧ g < wr.heap.size ∧ v.ownBlock ≠ some g ∧
    wr.ownsRow lo 94 2 v j (prs j p q) ∧ Below lo w0 wr ∧ lo ≤ g ∧ lo ≤ wr.heap.size
theorem Pts.push {w0 wr w4 : World} {lo g i j g' cap : Nat} {p q : Int} {v : Value} {o : Obj} (h : Pts w0 lo g i j p q v wr)
    (hown : w4.ownsRow lo 94 2 (.slice (some ⟨g', 0, none⟩) (j + 1) cap) (j + 1) (prs j p q ++ [.int .i64 (hvI j p), .int .i64 (hvI j q)])) (hgrow : (wr.alloc o).grownBy w4 v.ownBlock) (hat : v.ownBlock = some g' ∨ g' = (wr.alloc o).heap.size) :
    Pts w0 lo g i (j + 1) p q (.slice (some ⟨g', 0, none⟩) (j + 1) cap) w4 := by
  obtain ⟨h0, h1, h2, h3, h4, h5, h6, h7, h8, h9⟩ := h
  have hb : Below wr.heap.size wr (wr.alloc o) := (Below.refl _ _).alloc (Nat.le_refl _) _
  have ne : some g ≠ v.ownBlock := fun e => h5 e.symm
  have hz : wr.heap.size + 1 ≤ w4.heap.size := by have := hgrow.size; simp at this; exact this
  refine ⟨hgrow.cell (a := ⟨g, 0, none⟩) ((hb.cell (p := ⟨g, 0, none⟩) h4).trans h0) ne, hgrow.cell (a := ⟨g, 1, none⟩) ((hb.cell (p := ⟨g, 1, none⟩) h4).trans h1) ne, (hgrow.frozen_far ⟨g, 0, none⟩ (by simp; omega) ne).trans ((hb.frozen (p := ⟨g, 0, none⟩) h4).trans h2), (hgrow.frozen_far ⟨g, 1, none⟩ (by simp; omega) ne).trans ((hb.frozen (p := ⟨g, 1, none⟩) h4).trans h3), by omega, ?_, by rw [prs_succ] at hown; exact hown, (h7.alloc h9 o).grown hgrow (by simp; omega) (fun k hk => (h6.lt k hk).1), h8, by omega⟩
  have ng : g' ≠ g := by
    rcases hat with e | e
    · intro e2; subst e2; exact h5 e
    · simp at e; omega
  simp [Value.ownBlock, ng]
theorem Pts.step {w0 wr w' : World} {lo g i j : Nat} {p q : Int} {v : Value} (h : Pts w0 lo g i j p q v wr) (hb : Below wr.heap.size wr w') : Pts w0 lo g i j p q v w' := by
  obtain ⟨h0, h1, h2, h3, h4, h5, h6, h7, h8, h9⟩ := h
  exact ⟨(hb.cell (p := ⟨g, 0, none⟩) h4).trans h0, (hb.cell (p := ⟨g, 1, none⟩) h4).trans h1, (hb.frozen (p := ⟨g, 0, none⟩) h4).trans h2, (hb.frozen (p := ⟨g, 1, none⟩) h4).trans h3, by have := hb.size; omega, h5, row_step h6 hb, h7.trans (hb.mono h9), h8, by have := hb.size; omega⟩
theorem Pts.half {w0 wr : World} {lo g i j : Nat} {p q : Int} {v : Value} (h : Pts w0 lo g i j p q v wr) :
    Pts w0 lo g (i + 1) j p q v ((wr.setCell ⟨g, 0, none⟩ (.int .i64 ((hvI i p + 1) / 2))).setCell ⟨g, 1, none⟩ (.int .i64 ((hvI i q + 1) / 2))) := by
  obtain ⟨h0, h1, h2, h3, h4, h5, h6, h7, h8, h9⟩ := h
  have c1 : (wr.setCell ⟨g, 0, none⟩ (.int .i64 ((hvI i p + 1) / 2))).cell? ⟨g, 1, none⟩ = some (.int .i64 (hvI i q)) := by rw [World.cell?_setCell_other _ _ _ _ (by simp)]; exact h1
  refine ⟨?_, World.cell?_setCell_same _ _ _ c1, by simp [World.frozen?_setCell, h2], by simp [World.frozen?_setCell, h3], by simp [World.setCell]; exact h4, h5, row_setNe2 (row_setNe2 h6 h5 _) h5 _, (h7.setCell (p := ⟨g, 0, none⟩) h8 _).setCell (p := ⟨g, 1, none⟩) h8 _, h8, by simp [World.setCell]; exact h9⟩
  rw [World.cell?_setCell_other _ _ _ _ (by simp)]
  exact World.cell?_setCell_same _ _ _ h0
theorem prs_get (j i : Nat) (p q : Int) (h : i < j) : (prs j p q)[i * 2]? = some (.int .i64 (hvI i p)) ∧ (prs j p q)[i * 2 + 1]? = some (.int .i64 (hvI i q)) := by
  induction j with
  | zero => omega
  | succ j ih =>
    have hl : (prs j p q).length = j * 2 := by
      clear ih h
      induction j with
      | zero => rfl
      | succ j ih => rw [← prs_succ, List.length_append, ih]; simp; omega
    rw [← prs_succ]
    by_cases hi : i < j
    · rw [List.getElem?_append_left (by omega), List.getElem?_append_left (by omega)]; exact ih hi
    · obtain rfl : i = j := by omega
      rw [List.getElem?_append_right (by omega), List.getElem?_append_right (by omega), hl]
      simp
theorem own_two {w : World} {lo g n cap : Nat} {p q : Int} (h : w.ownsRow lo 94 2 (.slice (some ⟨g, 0, none⟩) (n + 1) cap) (n + 1) (prs (n + 1) p q)) :
    n + 1 ≤ cap ∧ w.cell? ⟨g, (n + 1 - 1) * 2, none⟩ = some (.int .i64 (hvI (n + 1 - 1) p)) ∧ w.cell? ⟨g, (n + 1 - 1) * 2 + 1, none⟩ = some (.int .i64 (hvI (n + 1 - 1) q)) := by
  have hg := prs_get (n + 1) n p q (Nat.lt_succ_self _)
  refine ⟨?_, ?_, ?_⟩
  · rcases id h.2 with ⟨h2, _⟩ | ⟨g', cap', cur, hv, hb, hg, hnc, _⟩
    · cases h2
    · simp only [Value.slice.injEq] at hv; omega
  · rw [h.cellAt _ (by omega)]; exact hg.1
  · rw [h.cellAt _ (by omega)]; exact hg.2
set_option maxRecDepth 100000 in
set_option maxHeartbeats 4000000 in
theorem ptI_any (p q : Int) (L : Nat) (w : World) (hp : 1 ≤ p ∧ p ≤ 16) (hq : 1 ≤ q ∧ q ≤ 16) (hL : 1 ≤ L ∧ L ≤ 4) :
    Calls Try.prog 134 #[.agg #[.int .i64 p, .int .i64 q], .int .i64 L] w fun e w' => ∃ g cap, e = .returned (.slice (some ⟨g, 0, none⟩) L cap) ∧ g < w'.heap.size ∧ L ≤ cap ∧ w'.cell? ⟨g, (L - 1) * 2, none⟩ = some (.int .i64 (hvI (L - 1) p)) ∧ w'.cell? ⟨g, (L - 1) * 2 + 1, none⟩ = some (.int .i64 (hvI (L - 1) q)) ∧ Below w.heap.size w w' := by
  obtain ⟨i0, hi, hz0, hz1, hz2⟩ := info_parts infoSd
  go_enter Try.func134, Try.ntmps134
  go_wp2_with fail
  refine wp_scope_jumps 0 (fun a' w' => ∃ (j g : Nat) (v u7 u8 u9 u10 u11 u12 u13 u14 u15 u16 u17 u18 u19 u20 : Value), a' = { tmps := #[.agg #[.int .i64 p, .int .i64 q], .int .i64 L, .pointer (some ⟨w.heap.size, 0, none⟩), undef, .slice none 0 0, v, .pointer (some ⟨g, 0, none⟩), u7, u8, u9, u10, u11, u12, u13, u14, u15, u16, u17, u18, u19, u20], defers := [] } ∧ 1 ≤ j ∧ j < L ∧ Pts w w.heap.size g j j p q v w') (fun a' _ => L - (lenOf (a'.tmps.getD 5 undef))) rfl ?_ ?_
  · go_wp2_with (at_make; refine wpList_make_own _ rfl _ _ 141 rfl w.heap.size 94 i0 (.agg #[.int .i64 0, .int .i64 0]) 2 Try.underlying141 hi hz0 hz1 .i64 .i64 _ L rfl rfl (by omega) (by rw [hz2]; omega) (by unfold maxLen; omega) (by simp; try omega) ?_; intro w1 hown hgrow; have hq0 : w1.cell? ⟨w.heap.size, 0, none⟩ = some (.int .i64 p) := hgrow.cell (a := ⟨w.heap.size, 0, none⟩) (by simp [go_sem]) (by simp); have hq1 : w1.cell? ⟨w.heap.size, 1, none⟩ = some (.int .i64 q) := hgrow.cell (a := ⟨w.heap.size, 1, none⟩) (by simp [go_sem]) (by simp))
    have hG : Pts w w.heap.size w1.heap.size 0 0 p q (.slice (some ⟨w.heap.size + 1, 0, none⟩) 0 L) (w1.alloc (.cells #[.int .i64 p, .int .i64 q] 94)) := by
      have hz := hgrow.size
      simp at hz
      have hz3 := (hown.lt (w.heap.size + 1) (by simp [Value.ownBlock])).2
      refine ⟨by simp [go_sem, hvI], by simp [go_sem, hvI], by simp [go_sem], by simp [go_sem], by simp, by simp [Value.ownBlock]; omega, ?_, ?_, by omega, by simp; omega⟩
      · have h := hown.alloc (.cells #[.int .i64 p, .int .i64 q] 94)
        simpa [prs] using h
      · exact (((Below.refl _ _).alloc (Nat.le_refl _) _).grown hgrow (by simp) (fun _ h => by cases h)).alloc (by omega) _
    have HG := Lib.hid hG
    obtain ⟨g0_, g1_, gf_, gg_, gz_, _⟩ := id hG
    clear hG
    generalize w1.alloc (.cells #[.int .i64 p, .int .i64 q] 94) = wb at *
    by_cases hlast : 0 + 1 < L
    · have hlt : ((0 : Nat) : Int) + 1 < (L : Int) := by omega
      have hlt2 : ((0 + 1 : Nat) : Int) < (L : Int) := by omega
      go_step3
      go_wp2_with (at_builtin; refine wpList_append_lies _ rfl _ _ 141 rfl w.heap.size 94 i0 (.agg #[.int .i64 0, .int .i64 0]) 2 16 Try.underlying141 hi hz0 hz1 hz2 rfl (by decide) _ 0 _ rfl (HG.out.2.2.2.2.2.2.1.alloc _) ⟨wb.heap.size, 0, none⟩ 1 1 [.int .i64 (hvI 0 p), .int .i64 (hvI 0 q)] rfl rfl (two_new _ _ _ _) (two_cell _ _) (by decide) (by unfold maxLen; omega) (by omega) (by simp; have := HG.out.2.2.2.2.2.2.2.2.2; omega) _ rfl ?_; intro g4 cap4 w4 hown hgrow hat hlt4; have HG2 := Lib.hid (HG.out.push hown hgrow hat); obtain ⟨x0, x1, xf, xg, xz, _⟩ := id HG2.out; clear hown hgrow hat)
      refine (hfI_any _ _ _ (hvI_bd hp (0)) (hvI_bd hq (0))).mono ?_
      rintro e w5 ⟨rfl, hb5⟩
      have hG3 := HG2.out.step hb5
      obtain ⟨y0, y1, yf, yg, yz, _⟩ := id hG3
      have HG4 := Lib.hid hG3.half
      clear hG3 x0 x1 xf xg xz
      go_wp2_with fail
      go_step3
      exact ⟨rfl, 1, _, _, _, _, _, _, _, _, _, _, _, _, _, _, _, _, rfl, by omega, by omega, HG4.out⟩
    · obtain rfl : L = 0 + 1 := by omega
      go_step3
      go_wp2_with (at_builtin; refine wpList_append_lies _ rfl _ _ 141 rfl w.heap.size 94 i0 (.agg #[.int .i64 0, .int .i64 0]) 2 16 Try.underlying141 hi hz0 hz1 hz2 rfl (by decide) _ 0 _ rfl (HG.out.2.2.2.2.2.2.1.alloc _) ⟨wb.heap.size, 0, none⟩ 1 1 [.int .i64 (hvI 0 p), .int .i64 (hvI 0 q)] rfl rfl (two_new _ _ _ _) (two_cell _ _) (by decide) (by unfold maxLen; omega) (by omega) (by simp; have := HG.out.2.2.2.2.2.2.2.2.2; omega) _ rfl ?_; intro g4 cap4 w4 hown hgrow hat hlt4; have HG2 := Lib.hid (HG.out.push hown hgrow hat); obtain ⟨x0, x1, xf, xg, xz, _⟩ := id HG2.out; clear hown hgrow hat)
      simp only [Exit.jump]
      go_ret
      exact ⟨g4, cap4, rfl, hlt4, (own_two HG2.out.2.2.2.2.2.2.1).1, (own_two HG2.out.2.2.2.2.2.2.1).2.1, (own_two HG2.out.2.2.2.2.2.2.1).2.2, HG2.out.2.2.2.2.2.2.2.1⟩
  · rintro a' wr ⟨j, g, v, u7, u8, u9, u10, u11, u12, u13, u14, u15, u16, u17, u18, u19, u20, rfl, hj1, hjL, hG⟩
    have HG := Lib.hid hG
    obtain ⟨g0_, g1_, gf_, gg_, gz_, _⟩ := id hG
    have hL2 := hL.2
    have hlen : lenOf v = j := by
      rcases id hG.2.2.2.2.2.2.1.2 with ⟨h1, h2⟩ | ⟨g', cap', cur, hv, _⟩
      · omega
      · rw [hv]; rfl
    clear hG
    by_cases hlast : j + 1 < L
    · have hlt : ((j : Nat) : Int) + 1 < (L : Int) := by omega
      have hlt2 : ((j + 1 : Nat) : Int) < (L : Int) := by omega
      skip
      go_wp2_with (at_builtin; refine wpList_append_lies _ rfl _ _ 141 rfl w.heap.size 94 i0 (.agg #[.int .i64 0, .int .i64 0]) 2 16 Try.underlying141 hi hz0 hz1 hz2 rfl (by decide) _ j _ rfl (HG.out.2.2.2.2.2.2.1.alloc _) ⟨wr.heap.size, 0, none⟩ 1 1 [.int .i64 (hvI j p), .int .i64 (hvI j q)] rfl rfl (two_new _ _ _ _) (two_cell _ _) (by decide) (by unfold maxLen; omega) (by omega) (by simp; have := HG.out.2.2.2.2.2.2.2.2.2; omega) _ rfl ?_; intro g4 cap4 w4 hown hgrow hat hlt4; have HG2 := Lib.hid (HG.out.push hown hgrow hat); obtain ⟨x0, x1, xf, xg, xz, _⟩ := id HG2.out; clear hown hgrow hat)
      refine (hfI_any _ _ _ (hvI_bd hp (j)) (hvI_bd hq (j))).mono ?_
      rintro e w5 ⟨rfl, hb5⟩
      have hG3 := HG2.out.step hb5
      obtain ⟨y0, y1, yf, yg, yz, _⟩ := id hG3
      have HG4 := Lib.hid hG3.half
      clear hG3 x0 x1 xf xg xz
      go_wp2_with fail
      go_step3
      exact ⟨rfl, ⟨j + 1, _, _, _, _, _, _, _, _, _, _, _, _, _, _, _, _, rfl, by omega, by omega, HG4.out⟩, by show L - (j + 1) < L - lenOf v; rw [hlen]; omega⟩
    · obtain rfl : L = j + 1 := by omega
      skip
      go_wp2_with (at_builtin; refine wpList_append_lies _ rfl _ _ 141 rfl w.heap.size 94 i0 (.agg #[.int .i64 0, .int .i64 0]) 2 16 Try.underlying141 hi hz0 hz1 hz2 rfl (by decide) _ j _ rfl (HG.out.2.2.2.2.2.2.1.alloc _) ⟨wr.heap.size, 0, none⟩ 1 1 [.int .i64 (hvI j p), .int .i64 (hvI j q)] rfl rfl (two_new _ _ _ _) (two_cell _ _) (by decide) (by unfold maxLen; omega) (by omega) (by simp; have := HG.out.2.2.2.2.2.2.2.2.2; omega) _ rfl ?_; intro g4 cap4 w4 hown hgrow hat hlt4; have HG2 := Lib.hid (HG.out.push hown hgrow hat); obtain ⟨x0, x1, xf, xg, xz, _⟩ := id HG2.out; clear hown hgrow hat)
      simp only [Exit.jump]
      go_ret
      exact ⟨g4, cap4, rfl, hlt4, (own_two HG2.out.2.2.2.2.2.2.1).1, (own_two HG2.out.2.2.2.2.2.2.1).2.1, (own_two HG2.out.2.2.2.2.2.2.1).2.2, HG2.out.2.2.2.2.2.2.2.1⟩
end Go.Proofs.Ytfbdmhkmkmbipaa
