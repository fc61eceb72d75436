/-
  Lists of costs of a call's own: copied, marked.
-/
import Derived.Test.YthkklilfignmpaaCst
import Derived.Test.YthkklilfignmpaaTw
namespace Go.Proofs.Ythkklilfignmpaa
open Go.RowKit Fl
set_option linter.unusedVariables false
/-- A list of costs of the call's own, in a block from lo up to hi. -/
def InC (w : World) (lo hi : Nat) (v : Value) (xs : List (Int × Nat)) : Prop :=
  ∃ g, v = .slice (some ⟨g, 0, none⟩) xs.length xs.length ∧ lo ≤ g ∧ g < hi ∧ g < w.heap.size ∧ TcD w g xs.length xs ∧ TcA w g xs.length
theorem InC.made {w : World} {lo : Nat} {v : Value} {xs : List (Int × Nat)} (h : InC w lo w.heap.size v xs) : InC w lo w.heap.size v xs := h
theorem InC.rd {w : World} {lo hi : Nat} {v : Value} {xs : List (Int × Nat)} (h : InC w lo hi v xs) : RdC w w.heap.size v xs := by
  obtain ⟨g, rfl, _, _, h3, h4, _⟩ := h
  exact ⟨_, _, rfl, fun _ => ⟨g, 0, rfl, h3, fun j hj => by rw [Nat.zero_add]; exact h4 j hj⟩⟩
theorem InC.tw {w w' : World} {lo hi l k : Nat} {v : Value} {xs : List (Int × Nat)} (h : InC w lo hi v xs) (ht : Tw l k w w') (hd : hi ≤ l ∨ k ≤ lo) : InC w' lo hi v xs := by
  obtain ⟨g, hv, h1, h2, h3, h4, h5⟩ := h
  have hh : g < l ∨ k ≤ g := by omega
  exact ⟨g, hv, h1, h2, Nat.lt_of_lt_of_le h3 ht.size, fun j hj => ⟨(ht.cell h3 hh).trans (h4 j hj).1, (ht.cell h3 hh).trans (h4 j hj).2⟩, fun i hi => ⟨(h5 i hi).1.imp fun y hy => (ht.cell h3 hh).trans hy, (ht.frozen h3 hh).trans (h5 i hi).2⟩⟩
theorem InC.step {w w' : World} {lo hi : Nat} {v : Value} {xs : List (Int × Nat)} (h : InC w lo hi v xs) (hb : Below w.heap.size w w') : InC w' lo hi v xs := by
  obtain ⟨g, hv, h1, h2, h3, h4, h5⟩ := h
  exact ⟨g, hv, h1, h2, Nat.lt_of_lt_of_le h3 hb.size, fun j hj => ⟨(hb.cell (p := ⟨g, j * 2, none⟩) h3).trans (h4 j hj).1, (hb.cell (p := ⟨g, j * 2 + 1, none⟩) h3).trans (h4 j hj).2⟩, fun i hi => ⟨(h5 i hi).1.imp fun y hy => (hb.cell (p := ⟨g, i, none⟩) h3).trans hy, (hb.frozen (p := ⟨g, i, none⟩) h3).trans (h5 i hi).2⟩⟩
theorem RdC.tw {w w' : World} {B l k : Nat} {v : Value} {xs : List (Int × Nat)} (h : RdC w B v xs) (ht : Tw l k w w') (hB : B ≤ l) (hs : B ≤ w.heap.size) : RdC w' B v xs := h.below (ht.below hB hs)
set_option maxRecDepth 100000 in
set_option maxHeartbeats 4000000 in
theorem toC2_any (v : Value) (xs : List (Int × Nat)) (w : World) (h : RdC w w.heap.size v xs) (hm : xs.length ≤ 1048576) :
    Calls Try.prog 34 #[v] w fun e w' => ∃ g, e = .returned (.slice (some ⟨g, 0, none⟩) xs.length xs.length) ∧ InC w' w.heap.size w'.heap.size (.slice (some ⟨g, 0, none⟩) xs.length xs.length) xs ∧ Below w.heap.size w w' := by
  obtain ⟨i0, hi, hz0, hz1, hz2⟩ := info_parts infoC
  obtain ⟨A, c, hv, h3⟩ := h
  subst hv
  obtain ⟨n, hn⟩ : ∃ n, xs.length = n := ⟨_, rfl⟩
  have HL := Lib.hid hn
  rw [hn] at h3 hm ⊢
  have hmk := fun W => run_mkL (P := Try.prog) 63 126 i0 _ (by kernel_rfl) hi hz0 n (by rw [hz2]; omega) (by omega) (n : Int) rfl W
  rw [hz1] at hmk
  have H3 := Lib.hid h3
  clear h3 hn
  have hsf : ∀ (a : Addr) (x : Nat) (w : World), (store a (.float .f32 x)).run Try.prog w = stored Try.prog w a (.float .f32 x) .plain := fun a x w => run_store _ w a _ _ rfl
  go_enter Try.func34, Try.ntmps34
  go_wp2_with fail
  go_loopw [4] (TcR w xs) (fun i _ => n - (intOf i).toNat)
  case atStart =>
    refine ⟨0, Nat.zero_le _, rfl, fun j hj => absurd hj (by omega), fun i hi' => ?_, by rw [box_size']; omega, (Below.refl _ _).alloc (Nat.le_refl _) _⟩
    rw [HL.out] at hi'
    rw [cell_of_row _ _ i _ _ _ (heap_alloc_new w _)]
    exact ⟨⟨_, Array.getElem?_eq_getElem (by rw [size_madeCells]; omega)⟩, frozen_of_row _ _ _ _ _ (heap_alloc_new w _)⟩
  case round =>
    obtain ⟨k, hk, rfl, hdone, hall, hsz, hbl⟩ := hrel
    rw [HL.out] at hk hall
    by_cases hlt : k < n
    · obtain ⟨b, off, rfl, hb, hc⟩ := H3.out (by omega)
      have c0 := (hbl.cell (p := ⟨b, off + k * 2, none⟩) hb).trans (hc k hlt).1
      have c1 := (hbl.cell (p := ⟨b, off + k * 2 + 1, none⟩) hb).trans (hc k hlt).2
      have HD := Lib.hid hdone
      have HA := Lib.hid hall
      have HB := Lib.hid hbl
      have HS := Lib.hid (fun (w1 : World) (hd : TcD w1 w.heap.size k xs) (ha : TcA w1 w.heap.size n) => tc_set hlt hd ha)
      generalize (xs.getD k (0, 0)).1 = a0 at *
      generalize (xs.getD k (0, 0)).2 = x0 at *
      clear hc hdone hall hbl
      go_wp2_with fail
      refine (toCost_any _ _ _).mono ?_
      rintro e w1 ⟨rfl, hb1⟩
      have hd1 : TcD w1 w.heap.size k xs := fun j hj => ⟨(hb1.cell (p := ⟨w.heap.size, j * 2, none⟩) hsz).trans (HD.out j hj).1, (hb1.cell (p := ⟨w.heap.size, j * 2 + 1, none⟩) hsz).trans (HD.out j hj).2⟩
      have ha1 : TcA w1 w.heap.size n := fun i hi => ⟨(HA.out i hi).1.imp fun y hy => (hb1.cell (p := ⟨w.heap.size, i, none⟩) hsz).trans hy, (hb1.frozen (p := ⟨w.heap.size, i, none⟩) hsz).trans (HA.out i hi).2⟩
      obtain ⟨⟨y0, e0⟩, z0⟩ := ha1 (k * 2) (by omega)
      obtain ⟨⟨y1, e1⟩, z1⟩ := ha1 (k * 2 + 1) (by omega)
      have HR := Lib.hid (HS.out w1 hd1 ha1)
      have HB1 := Lib.hid (HB.out.trans (hb1.mono HB.out.size))
      have hsz1 : w.heap.size < w1.heap.size := Nat.lt_of_lt_of_le hsz hb1.size
      clear hd1 ha1 hb1 HS
      go_wp2_with fail
      go_roundw
      case rel => exact ⟨k + 1, by rw [HL.out]; omega, by go_num, HR.out.1, by rw [HL.out]; exact HR.out.2, by simpa [World.setCell] using hsz1, (HB1.out.setCell (Nat.le_refl _) _).setCell (Nat.le_refl _) _⟩
      case measure => simp [intOf]; omega
    · obtain rfl : k = n := by omega
      have HD := Lib.hid hdone
      have HB := Lib.hid hbl
      have HAL := Lib.hid hall
      clear hdone hall hbl
      go_wp2_with fail
      go_ret
      exact ⟨w.heap.size, rfl, ⟨w.heap.size, by rw [HL.out], Nat.le_refl _, hsz, hsz, fun j hj => by rw [HL.out] at hj; exact HD.out j hj, by rw [HL.out]; exact HAL.out⟩, HB.out⟩
theorem tcA_set {w : World} {g n i : Nat} {u : Value} (h : TcA w g n) : TcA (w.setCell ⟨g, i, none⟩ u) g n := by
  intro j hj
  rw [World.frozen?_setCell]
  refine ⟨?_, (h j hj).2⟩
  obtain ⟨y, hy⟩ := (h j hj).1
  by_cases e : j = i
  · subst e; exact ⟨_, World.cell?_setCell_same _ _ _ hy⟩
  · exact ⟨y, by rw [World.cell?_setCell_other _ _ _ _ (by intro e; simp at e <;> omega)]; exact hy⟩
theorem tw_cell (w : World) (g i : Nat) (u : Value) {lo hi : Nat} (h1 : lo ≤ g) (h2 : g < hi) : Tw lo hi w (w.setCell ⟨g, i, none⟩ u) :=
  ⟨rfl, rfl, rfl, by simp [World.setCell], fun k hk hh => Below.heap_setCell _ _ _ _ (by show k ≠ g; omega)⟩
def MkR (w0 : World) (lo hi g n : Nat) (k0 : Int) (kv iv : Value) (wr : World) : Prop :=
  ∃ k : Nat, k ≤ n ∧ iv = .int .i64 k ∧ kv = .int .i64 (k0 + 2 * (k : Int)) ∧ TcA wr g n ∧ Tw lo hi w0 wr
set_option maxRecDepth 100000 in
set_option maxHeartbeats 4000000 in
theorem markC_any (v : Value) (xs : List (Int × Nat)) (w : World) (lo hi : Nat) (h : InC w lo hi v xs) (hm : xs.length ≤ 1048576) :
    Calls Try.prog 38 #[v, .int .i64 1] w fun e w' => e = .returned (.int .i64 (1 + 2 * (xs.length : Int))) ∧ Tw lo hi w w' := by
  obtain ⟨g, rfl, g1, g2, g3, _, ha⟩ := h
  generalize xs.length = n at *
  have HA := Lib.hid ha
  clear ha
  have hsf : ∀ (a : Addr) (x : Nat) (w : World), (store a (.float .f32 x)).run Try.prog w = stored Try.prog w a (.float .f32 x) .plain := fun a x w => run_store _ w a _ _ rfl
  go_enter Try.func38, Try.ntmps38
  go_wp2_with fail
  go_loopw [1, 5] (MkR w lo hi g n 1) (fun _ i _ => n - (intOf i).toNat)
  case atStart => exact ⟨0, Nat.zero_le _, rfl, by simp, HA.out, Tw.refl _ _ _⟩
  case round =>
    clear HA
    obtain ⟨k, hk, rfl, rfl, ha, ht⟩ := hrel
    by_cases hlt : k < n
    · have HT := Lib.hid ht
      have HA := Lib.hid ha
      obtain ⟨⟨y0, e0⟩, z0⟩ := ha (k * 2) (by omega)
      obtain ⟨⟨y1, e1⟩, z1⟩ := (tcA_set (i := k * 2) (u := .int .i64 (1 + 2 * (k : Int))) ha) (k * 2 + 1) (by omega)
      clear ha ht
      go_wp2_with fail
      go_roundw
      case rel => exact ⟨k + 1, by omega, by go_num, by go_num, tcA_set (tcA_set HA.out), (HT.out.trans (tw_cell _ _ _ _ g1 g2)).trans (tw_cell _ _ _ _ g1 g2)⟩
      case measure => simp [intOf]; omega
    · obtain rfl : k = n := by omega
      have HT := Lib.hid ht
      clear ha ht
      go_wp2_with fail
      go_ret
      exact ⟨rfl, HT.out⟩
end Go.Proofs.Ythkklilfignmpaa
