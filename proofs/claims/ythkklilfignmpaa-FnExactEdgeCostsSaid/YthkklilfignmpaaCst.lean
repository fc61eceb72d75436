/-
  Contracts: the law's own copies and comparisons of lists of costs.
-/
import Derived.Test.YthkklilfignmpaaLin
import Derived.Test.YthkklilfignmpaaBox
namespace Go.Proofs.Ythkklilfignmpaa
open Go.RowKit Fl
set_option linter.unusedVariables false

theorem box_size' (w : World) (o : Obj) : (w.alloc o).heap.size = w.heap.size + 1 := by show (w.heap.push o).size = _; exact Array.size_push ..
/-- A list of costs in memory: two cells each. -/
def RdC (w : World) (B : Nat) (v : Value) (xs : List (Int × Nat)) : Prop :=
  ∃ A c, v = .slice A xs.length c ∧ (0 < xs.length → ∃ b off, A = some ⟨b, off, none⟩ ∧ b < B ∧ ∀ j, j < xs.length → w.cell? ⟨b, off + j * 2, none⟩ = some (.int .i64 (xs.getD j (0, 0)).1) ∧ w.cell? ⟨b, off + j * 2 + 1, none⟩ = some (.float .f32 (xs.getD j (0, 0)).2))
theorem RdC.below {w w' : World} {B : Nat} {v : Value} {xs : List (Int × Nat)} (h : RdC w B v xs) (hb : Below B w w') : RdC w' B v xs := by
  obtain ⟨A, c, hv, h3⟩ := h
  refine ⟨A, c, hv, fun hp => ?_⟩
  obtain ⟨b, off, hA, hlt, hc⟩ := h3 hp
  exact ⟨b, off, hA, hlt, fun j hj => ⟨(hb.cell (p := ⟨b, off + j * 2, none⟩) hlt).trans (hc j hj).1, (hb.cell (p := ⟨b, off + j * 2 + 1, none⟩) hlt).trans (hc j hj).2⟩⟩
theorem RdC.more {w : World} {B B' : Nat} {v : Value} {xs : List (Int × Nat)} (h : RdC w B v xs) (hB : B ≤ B') : RdC w B' v xs := by
  obtain ⟨A, c, hv, h3⟩ := h
  refine ⟨A, c, hv, fun hp => ?_⟩
  obtain ⟨b, off, hA, hlt, hc⟩ := h3 hp
  exact ⟨b, off, hA, Nat.lt_of_lt_of_le hlt hB, hc⟩
theorem RdC.step {w w' : World} {v : Value} {xs : List (Int × Nat)} (h : RdC w w.heap.size v xs) (hb : Below w.heap.size w w') : RdC w' w'.heap.size v xs := (h.below hb).more hb.size
def YesC (w : World) (e : Ending) (w' : World) : Prop := e = .returned (.bool true) ∧ Below w.heap.size w w'
theorem szC_any (A : Option Addr) (n c : Nat) (l : Int) (w : World) (h0 : 0 ≤ l) (h1 : l ≤ 1048576) (hm : n ≤ 9223372036854775807) :
    Calls Try.prog 32 #[.slice A n c, .int .i64 l] w fun e w' => e = .returned (.int .i64 (if l < n then -1 else l - n)) ∧ w = w' := by
  by_cases hl : l < n
  · rw [if_pos hl]
    go_enter Try.func32, Try.ntmps32
    go_wp2_with fail
    go_ret
    exact ⟨rfl, rfl⟩
  · rw [if_neg hl]
    have hl' : (n : Int) ≤ l := by omega
    clear hl
    go_enter Try.func32, Try.ntmps32
    go_wp2_with fail
    go_ret
    exact ⟨rfl, rfl⟩
set_option maxHeartbeats 1000000 in
theorem toCost_any (a : Int) (x : Nat) (w : World) :
    Calls Try.prog 97 #[.agg #[.int .i64 a, .float .f32 x]] w fun e w' => e = .returned (.agg #[.int .i64 a, .float .f32 x]) ∧ Below w.heap.size w w' := by
  have hsf : ∀ (a : Addr) (x : Nat) (w : World), (store a (.float .f32 x)).run Try.prog w = stored Try.prog w a (.float .f32 x) .plain := fun a x w => run_store _ w a _ _ rfl
  go_enter Try.func97, Try.ntmps97
  go_wp2_with fail
  exact bodyPost_ret (v := .agg #[.int .i64 a, .float .f32 x]) (by simp [results, Try.results97, go_sem]) rfl ⟨rfl, ((Below.refl _ _).alloc (Nat.le_refl _) _).alloc (by simp) _ |>.alloc (by simp; omega) _⟩
set_option maxRecDepth 100000 in
set_option maxHeartbeats 1000000 in
theorem eqCost_any (a : Int) (x : Nat) (w : World) :
    Calls Try.prog 100 #[.agg #[.int .i64 a, .float .f32 x], .agg #[.int .i64 a, .float .f32 x]] w (YesC w) := by
  go_enter Try.func100, Try.ntmps100
  go_wp2_with (first | (refine up_wide (by rw [Try.underlying23]; rfl) Try.underlying82 ?_; intro r n hr) | (go_at_call 52; refine (same_wi (x := x) (y := x) _ _ _ (by assumption) (by assumption) rfl).mono ?_; rintro e w' ⟨rfl, n, rfl⟩))
  go_ret
  exact ⟨rfl, below_drawn (((Below.refl _ _).alloc (Nat.le_refl _) _).alloc (by simp) _) _⟩
def TcD (w : World) (g k : Nat) (xs : List (Int × Nat)) : Prop := ∀ j, j < k → w.cell? ⟨g, j * 2, none⟩ = some (.int .i64 (xs.getD j (0, 0)).1) ∧ w.cell? ⟨g, j * 2 + 1, none⟩ = some (.float .f32 (xs.getD j (0, 0)).2)
def TcA (w : World) (g n : Nat) : Prop := ∀ i, i < 2 * n → (∃ y, w.cell? ⟨g, i, none⟩ = some y) ∧ w.frozen? ⟨g, i, none⟩ = false
theorem tc_set {w : World} {g n k : Nat} {xs : List (Int × Nat)} (hk : k < n) (h1 : TcD w g k xs) (h2 : TcA w g n) :
    TcD ((w.setCell ⟨g, k * 2, none⟩ (.int .i64 (xs.getD k (0, 0)).1)).setCell ⟨g, k * 2 + 1, none⟩ (.float .f32 (xs.getD k (0, 0)).2)) g (k + 1) xs ∧
    TcA ((w.setCell ⟨g, k * 2, none⟩ (.int .i64 (xs.getD k (0, 0)).1)).setCell ⟨g, k * 2 + 1, none⟩ (.float .f32 (xs.getD k (0, 0)).2)) g n := by
  obtain ⟨⟨y0, e0⟩, _⟩ := h2 (k * 2) (by omega)
  obtain ⟨⟨y1, e1⟩, _⟩ := h2 (k * 2 + 1) (by omega)
  have f1 : (w.setCell ⟨g, k * 2, none⟩ (.int .i64 (xs.getD k (0, 0)).1)).cell? ⟨g, k * 2 + 1, none⟩ = some y1 := by
    rw [World.cell?_setCell_other _ _ _ _ (fun e => by simp only [Addr.mk.injEq] at e; omega)]; exact e1
  constructor
  · intro j hj
    by_cases hjk : j = k
    · subst hjk
      constructor
      · rw [World.cell?_setCell_other _ _ _ _ (fun e => by simp only [Addr.mk.injEq] at e; omega)]
        exact World.cell?_setCell_same _ _ _ e0
      · exact World.cell?_setCell_same _ _ _ f1
    · constructor
      · rw [World.cell?_setCell_other _ _ _ _ (fun e => by simp only [Addr.mk.injEq] at e; omega), World.cell?_setCell_other _ _ _ _ (fun e => by simp only [Addr.mk.injEq] at e; omega)]
        exact (h1 j (by omega)).1
      · rw [World.cell?_setCell_other _ _ _ _ (fun e => by simp only [Addr.mk.injEq] at e; omega), World.cell?_setCell_other _ _ _ _ (fun e => by simp only [Addr.mk.injEq] at e; omega)]
        exact (h1 j (by omega)).2
  · intro i hi
    refine ⟨?_, by rw [World.frozen?_setCell, World.frozen?_setCell]; exact (h2 i hi).2⟩
    by_cases h1 : i = k * 2 + 1
    · subst h1; exact ⟨_, World.cell?_setCell_same _ _ _ f1⟩
    · rw [World.cell?_setCell_other _ _ _ _ (fun e => by simp only [Addr.mk.injEq] at e; omega)]
      by_cases h0 : i = k * 2
      · subst h0; exact ⟨_, World.cell?_setCell_same _ _ _ e0⟩
      · rw [World.cell?_setCell_other _ _ _ _ (fun e => by simp only [Addr.mk.injEq] at e; omega)]; exact (h2 i hi).1
def TcR (w0 : World) (xs : List (Int × Nat)) (iv : Value) (wr : World) : Prop :=
  ∃ k : Nat, k ≤ xs.length ∧ iv = .int .i64 k ∧ TcD wr w0.heap.size k xs ∧ TcA wr w0.heap.size xs.length ∧ w0.heap.size < wr.heap.size ∧ Below w0.heap.size w0 wr
theorem infoC : (Try.prog.info? 126).map (fun i => (i.zero, i.size, i.bytes)) = some (some (.agg #[.int .i64 0, .float .f32 0]), 2, 16) := by kernel_rfl
set_option maxRecDepth 100000 in
set_option maxHeartbeats 4000000 in
theorem toC_any (v : Value) (xs : List (Int × Nat)) (w : World) (h : RdC w w.heap.size v xs) (hm : xs.length ≤ 1048576) :
    Calls Try.prog 34 #[v] w fun e w' => ∃ u, e = .returned u ∧ RdC w' w'.heap.size u xs ∧ Below w.heap.size w w' := by
  obtain ⟨i0, hi, hz0, hz1, hz2⟩ := info_parts infoC
  obtain ⟨A, c, hv, h3⟩ := h
  subst hv
  obtain ⟨n, hn⟩ : ∃ n, xs.length = n := ⟨_, rfl⟩
  have HL := Lib.hid hn
  rw [hn] at h3 hm ⊢
  have hmk := fun W => run_mkL (P := Try.prog) 63 126 i0 _ (by kernel_rfl) hi hz0 n (by rw [hz2]; omega) (by omega) (n : Int) rfl W
  rw [hz1] at hmk
  have H3 := Lib.hid h3
  clear h3 hn
  have hsf : ∀ (a : Addr) (x : Nat) (w : World), (store a (.float .f32 x)).run Try.prog w = stored Try.prog w a (.float .f32 x) .plain := fun a x w => run_store _ w a _ _ rfl
  go_enter Try.func34, Try.ntmps34
  go_wp2_with fail
  go_loopw [4] (TcR w xs) (fun i _ => n - (intOf i).toNat)
  case atStart =>
    refine ⟨0, Nat.zero_le _, rfl, fun j hj => absurd hj (by omega), fun i hi' => ?_, by rw [box_size']; omega, (Below.refl _ _).alloc (Nat.le_refl _) _⟩
    rw [HL.out] at hi'
    rw [cell_of_row _ _ i _ _ _ (heap_alloc_new w _)]
    exact ⟨⟨_, Array.getElem?_eq_getElem (by rw [size_madeCells]; omega)⟩, frozen_of_row _ _ _ _ _ (heap_alloc_new w _)⟩
  case round =>
    obtain ⟨k, hk, rfl, hdone, hall, hsz, hbl⟩ := hrel
    rw [HL.out] at hk hall
    by_cases hlt : k < n
    · obtain ⟨b, off, rfl, hb, hc⟩ := H3.out (by omega)
      have c0 := (hbl.cell (p := ⟨b, off + k * 2, none⟩) hb).trans (hc k hlt).1
      have c1 := (hbl.cell (p := ⟨b, off + k * 2 + 1, none⟩) hb).trans (hc k hlt).2
      have HD := Lib.hid hdone
      have HA := Lib.hid hall
      have HB := Lib.hid hbl
      have HS := Lib.hid (fun (w1 : World) (hd : TcD w1 w.heap.size k xs) (ha : TcA w1 w.heap.size n) => tc_set hlt hd ha)
      generalize (xs.getD k (0, 0)).1 = a0 at *
      generalize (xs.getD k (0, 0)).2 = x0 at *
      clear hc hdone hall hbl
      go_wp2_with fail
      refine (toCost_any _ _ _).mono ?_
      rintro e w1 ⟨rfl, hb1⟩
      have hd1 : TcD w1 w.heap.size k xs := fun j hj => ⟨(hb1.cell (p := ⟨w.heap.size, j * 2, none⟩) hsz).trans (HD.out j hj).1, (hb1.cell (p := ⟨w.heap.size, j * 2 + 1, none⟩) hsz).trans (HD.out j hj).2⟩
      have ha1 : TcA w1 w.heap.size n := fun i hi => ⟨(HA.out i hi).1.imp fun y hy => (hb1.cell (p := ⟨w.heap.size, i, none⟩) hsz).trans hy, (hb1.frozen (p := ⟨w.heap.size, i, none⟩) hsz).trans (HA.out i hi).2⟩
      obtain ⟨⟨y0, e0⟩, z0⟩ := ha1 (k * 2) (by omega)
      obtain ⟨⟨y1, e1⟩, z1⟩ := ha1 (k * 2 + 1) (by omega)
      have HR := Lib.hid (HS.out w1 hd1 ha1)
      have HB1 := Lib.hid (HB.out.trans (hb1.mono HB.out.size))
      have hsz1 : w.heap.size < w1.heap.size := Nat.lt_of_lt_of_le hsz hb1.size
      clear hd1 ha1 hb1 HS
      go_wp2_with fail
      go_roundw
      case rel => exact ⟨k + 1, by rw [HL.out]; omega, by go_num, HR.out.1, by rw [HL.out]; exact HR.out.2, by simpa [World.setCell] using hsz1, (HB1.out.setCell (Nat.le_refl _) _).setCell (Nat.le_refl _) _⟩
      case measure => simp [intOf]; omega
    · obtain rfl : k = n := by omega
      have HD := Lib.hid hdone
      have HB := Lib.hid hbl
      clear hdone hall hbl
      go_wp2_with fail
      go_ret
      exact ⟨_, rfl, ⟨some ⟨w.heap.size, 0, none⟩, k, by rw [HL.out]; rfl, fun _ => ⟨w.heap.size, 0, rfl, hsz, fun j hj => by rw [HL.out] at hj; rw [Nat.zero_add]; exact HD.out j hj⟩⟩, HB.out⟩
def EqCR (w0 : World) (n : Nat) (iv : Value) (wr : World) : Prop := ∃ k : Nat, k ≤ n ∧ iv = .int .i64 k ∧ Below w0.heap.size w0 wr
set_option maxRecDepth 100000 in
set_option maxHeartbeats 4000000 in
theorem eqC_any (v u : Value) (xs : List (Int × Nat)) (w : World) (h : RdC w w.heap.size v xs) (h' : RdC w w.heap.size u xs) (hm : xs.length ≤ 1048576) :
    Calls Try.prog 37 #[v, u] w (YesC w) := by
  obtain ⟨A, c, hv, h3⟩ := h
  obtain ⟨A', c', hv', h3'⟩ := h'
  subst hv hv'
  obtain ⟨n, hn⟩ : ∃ n, xs.length = n := ⟨_, rfl⟩
  rw [hn] at h3 h3' hm ⊢
  have H3 := Lib.hid h3
  have H3' := Lib.hid h3'
  clear h3 h3' hn
  go_enter Try.func37, Try.ntmps37
  go_wp2_with fail
  go_loopw [5] (EqCR w n) (fun i _ => n - (intOf i).toNat)
  case atStart => exact ⟨0, Nat.zero_le _, rfl, Below.refl _ _⟩
  case round =>
    obtain ⟨k, hk, rfl, hbl⟩ := hrel
    by_cases hlt : k < n
    · obtain ⟨b, off, rfl, hb, hc⟩ := H3.out (by omega)
      obtain ⟨b', off', rfl, hb', hc'⟩ := H3'.out (by omega)
      have c0 := (hbl.cell (p := ⟨b, off + k * 2, none⟩) hb).trans (hc k hlt).1
      have c1 := (hbl.cell (p := ⟨b, off + k * 2 + 1, none⟩) hb).trans (hc k hlt).2
      have d0 := (hbl.cell (p := ⟨b', off' + k * 2, none⟩) hb').trans (hc' k hlt).1
      have d1 := (hbl.cell (p := ⟨b', off' + k * 2 + 1, none⟩) hb').trans (hc' k hlt).2
      have HB := Lib.hid hbl
      generalize (xs.getD k (0, 0)).1 = a0 at *
      generalize (xs.getD k (0, 0)).2 = x0 at *
      clear hc hc' hbl
      go_wp2_with fail
      refine Sf.wp_soft [false, false, false, false, false, false, false, false, true, true] [true, true, true, true, true, true, true, true, false, false] (fun i =>  1) (fun _ => undef) (by kernel_rfl) (by kernel_rfl) (by kernel_rfl) ?_
      simp only [Sf.tl]
      refine Sf.lx_one rfl rfl (fun K hK => Sf.dft_quiet rfl ?_)
      go_big_quiet_op
      refine hK _ ?_
      clear hK K
      refine Sf.lx_one rfl rfl (fun K hK => Sf.dft_quiet rfl ?_)
      go_big_quiet_op
      refine hK _ ?_
      clear hK K
      refine Sf.lx_one rfl rfl (fun K hK => Sf.dft_quiet rfl ?_)
      go_big_quiet_op
      refine hK _ ?_
      clear hK K
      refine Sf.lx_one rfl rfl (fun K hK => Sf.dft_quiet rfl ?_)
      go_big_quiet_op
      refine hK _ ?_
      clear hK K
      refine Sf.lx_one rfl rfl (fun K hK => Sf.dft_quiet rfl ?_)
      go_big_quiet_op
      refine hK _ ?_
      clear hK K
      refine Sf.lx_one rfl rfl (fun K hK => Sf.dft_quiet rfl ?_)
      go_big_quiet_op
      refine hK _ ?_
      clear hK K
      refine Sf.lx_one rfl rfl (fun K hK => Sf.dft_quiet rfl ?_)
      go_big_quiet_op
      refine hK _ ?_
      clear hK K
      refine Sf.lx_one rfl rfl (fun K hK => Sf.dft_quiet rfl ?_)
      go_big_quiet_op
      refine hK _ ?_
      clear hK K
      refine Sf.lx_over ?_
      refine Sf.lx_over ?_
      refine Sf.lx_nil ?_
      rintro _ ⟨nq, rfl⟩
      go_wp2_with (go_at_call 100; refine (eqCost_any _ _ _).mono ?_; rintro e w1 ⟨rfl, hb1⟩)
      have HB1 := Lib.hid ((below_drawn HB.out nq).trans (hb1.mono HB.out.size))
      clear hb1
      go_wp2_with fail
      go_roundw
      case rel => exact ⟨k + 1, by omega, by go_num, HB1.out⟩
      case measure => simp [intOf]; omega
    · obtain rfl : k = n := by omega
      have HB := Lib.hid hbl
      clear hbl
      go_wp2_with fail
      go_ret
      exact ⟨rfl, HB.out⟩
end Go.Proofs.Ythkklilfignmpaa
