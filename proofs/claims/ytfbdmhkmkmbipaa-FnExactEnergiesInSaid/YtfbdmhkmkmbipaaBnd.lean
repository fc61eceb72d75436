/-
  Contract: a band of a picture, by the model.
-/
import Derived.Test.YtfbdmhkmkmbipaaBdK
import Derived.Test.YtfbdmhkmkmbipaaCrp
namespace Go.Proofs.Ytfbdmhkmkmbipaa
open Go.RowKit Fl
set_option linter.unusedVariables false
set_option maxRecDepth 100000

set_option maxHeartbeats 8000000 in
theorem bndS_any (g0 : Nat) (p q b : Int) (l : Nat) (bb off c n : Nat) (xs : List Nat) (w : World) (hp : 1 ≤ p ∧ p ≤ 16) (hq : 1 ≤ q ∧ q ≤ 16) (hl : (xs.length : Int) = p * q) (hn : n = xs.length) (hl3 : l ≤ 3) (hb : 0 ≤ b ∧ b ≤ 3) (hg0 : g0 < w.heap.size) (hbb : bb < w.heap.size)
    (k0 : w.cell? ⟨g0, 0, none⟩ = some (.int .i64 p)) (k1 : w.cell? ⟨g0, 1, none⟩ = some (.int .i64 q)) (k2 : w.cell? ⟨g0, 2, none⟩ = some (.slice (some ⟨bb, off, none⟩) n c))
    (hcell : ∀ (i : Nat) (h : i < xs.length), w.cell? ⟨bb, off + i, none⟩ = some (.float .f32 (xs.getD i 0))) :
    Calls Try.prog 97 #[.pointer (some ⟨g0, 0, none⟩), .int .i64 ((l : Int) + 1), .int .i64 b] w (RetBd p q xs l b w) := by
  obtain ⟨W0, hW0⟩ : ∃ W0, w.alloc (.cells #[.int .i64 0, .int .i64 0, .slice none 0 0] 50) = W0 := ⟨_, rfl⟩
  have hb0 : Below w.heap.size w W0 := by rw [← hW0]; exact (Below.refl _ _).alloc (Nat.le_refl _) _
  have hz : W0.heap.size = w.heap.size + 1 := by rw [← hW0]; simp
  have hlt : w.heap.size < W0.heap.size := by omega
  have r0 : W0.cell? ⟨w.heap.size, 0, none⟩ = some (.int .i64 0) := by rw [← hW0]; simp [go_sem]
  have r1 : W0.cell? ⟨w.heap.size, 1, none⟩ = some (.int .i64 0) := by rw [← hW0]; simp [go_sem]
  have r2 : W0.cell? ⟨w.heap.size, 2, none⟩ = some (.slice none 0 0) := by rw [← hW0]; simp [go_sem]
  have e0 : W0.frozen? ⟨w.heap.size, 0, none⟩ = false := by rw [← hW0]; simp [go_sem]
  have e1 : W0.frozen? ⟨w.heap.size, 1, none⟩ = false := by rw [← hW0]; simp [go_sem]
  have e2 : W0.frozen? ⟨w.heap.size, 2, none⟩ = false := by rw [← hW0]; simp [go_sem]
  replace k0 := (hb0.cell (p := ⟨g0, 0, none⟩) hg0).trans k0
  replace k1 := (hb0.cell (p := ⟨g0, 1, none⟩) hg0).trans k1
  replace k2 := (hb0.cell (p := ⟨g0, 2, none⟩) hg0).trans k2
  have HCE := Lib.hid (fun (i : Nat) (hi : i < xs.length) => (hb0.cell (p := ⟨bb, off + i, none⟩) hbb).trans (hcell i hi))
  clear hcell
  obtain ⟨⟨x1, x2⟩, ⟨y1, y2⟩, ⟨u1, u2⟩, v1, v2⟩ := rg_in (b := b) (l := l) hp hq
  have HR := Lib.hid (fun a => (rgS_any p q l b (W0.drewN a) hp hq hl3 hb).mono (R' := fun e w'' => e = .returned (.tuple #[.int .i64 (rgX l b p q), .int .i64 (rgY l b p q), .int .i64 (rgW l b p q), .int .i64 (rgH l b p q)]) ∧ ∃ q, w'' = W0.drewN q) fun e w' ⟨he, hw⟩ => ⟨he, a, hw.symm⟩)
  have HB0 := Lib.hid hb0
  have hgA : g0 < W0.heap.size := by omega
  have hbA : bb < W0.heap.size := by omega
  clear hb0
  cases he : bdE p q l b with
  | false =>
    rw [retBd_no hp hq he]
    have hee := of_decide_eq_false he
    clear he
    generalize rgX l b p q = X at *
    generalize rgY l b p q = Y at *
    generalize rgW l b p q = W at *
    generalize rgH l b p q = H at *
    have hor : W = 0 ∨ (¬ W = 0 ∧ H = 0) := by omega
    clear hee
    have HB := Lib.hid (fun n => ((((below_drawn HB0.out n).setCell (p := ⟨w.heap.size, 0, none⟩) (Nat.le_refl _) (.int .i64 0)).setCell (p := ⟨w.heap.size, 1, none⟩) (Nat.le_refl _) (.int .i64 0)).setCell (p := ⟨w.heap.size, 2, none⟩) (Nat.le_refl _) (.slice none 0 0)))
    rcases hor with rfl | ⟨hW, rfl⟩
    · go_enter Try.func97, Try.ntmps97
      go_wp2_with fail
      go_quiet (exact HR.out _)
      go_wp2_with fail
      exact bodyPost_ret (v := .agg #[.int .i64 0, .int .i64 0, .slice none 0 0]) (by simp [results, Try.results97, go_sem, r0, r1, r2]) rfl ⟨_, rfl, own_none _ _, HB.out _⟩
    · go_enter Try.func97, Try.ntmps97
      go_wp2_with fail
      go_quiet (exact HR.out _)
      go_wp2_with fail
      exact bodyPost_ret (v := .agg #[.int .i64 0, .int .i64 0, .slice none 0 0]) (by simp [results, Try.results97, go_sem, r0, r1, r2]) rfl ⟨_, rfl, own_none _ _, HB.out _⟩
  | true =>
    rw [retBd_yes he]
    obtain ⟨hee1, hee2⟩ := of_decide_eq_true he
    clear he
    have HBC := Lib.hid (show bcL p q xs l b = crL p.toNat xs (rgX l b p q).toNat (rgY l b p q).toNat (rgW l b p q).toNat (rgH l b p q).toNat from rfl)
    obtain ⟨L, hL⟩ : ∃ L, L = bcL p q xs l b := ⟨_, rfl⟩
    rw [← hL] at HBC ⊢
    clear hL
    generalize rgX l b p q = X at *
    generalize rgY l b p q = Y at *
    generalize rgW l b p q = W at *
    generalize rgH l b p q = H at *
    have hW : ¬ W = 0 := by omega
    have hH : ¬ H = 0 := by omega
    have hbW : (W == 0) = false := by rw [beq_eq_false_iff_ne]; exact hW
    have hbH : (H == 0) = false := by rw [beq_eq_false_iff_ne]; exact hH
    have HC := Lib.hid (fun m => (show Calls Try.prog 132 #[.pointer (some ⟨g0, 0, none⟩), .int .i64 X, .int .i64 Y, .int .i64 W, .int .i64 H] (W0.drewN m) (RetAg W H L (W0.drewN m)) by rw [HBC.out]; exact cpS_any g0 p q X Y W H bb off c n xs (W0.drewN m) hp hq hl hn ⟨x1, x2⟩ ⟨y1, y2⟩ hee1 hee2 hgA hbA k0 k2 HCE.out))
    clear HBC
    go_enter Try.func97, Try.ntmps97
    go_wp2_with fail
    go_quiet (exact HR.out _)
    go_wp2_with fail
    with_reducible refine (HC.out _).mono ?_
    rintro e w5 ⟨v, rfl, ho5, hb5⟩
    obtain ⟨A5, c5, hv5, _, _, _⟩ := id ho5
    subst hv5
    replace r0 := (hb5.cell (p := ⟨w.heap.size, 0, none⟩) hlt).trans r0
    replace r1 := (hb5.cell (p := ⟨w.heap.size, 1, none⟩) hlt).trans r1
    replace r2 := (hb5.cell (p := ⟨w.heap.size, 2, none⟩) hlt).trans r2
    replace e0 := (hb5.frozen (p := ⟨w.heap.size, 0, none⟩) hlt).trans e0
    replace e1 := (hb5.frozen (p := ⟨w.heap.size, 1, none⟩) hlt).trans e1
    replace e2 := (hb5.frozen (p := ⟨w.heap.size, 2, none⟩) hlt).trans e2
    have HOF := Lib.hid ((((ho5.setLess (a := ⟨w.heap.size, 0, none⟩) hlt (.int .i64 W)).setLess (a := ⟨w.heap.size, 1, none⟩) hlt (.int .i64 H)).setLess (a := ⟨w.heap.size, 2, none⟩) hlt (.slice A5 (fl L).length c5)).less (lo' := w.heap.size) (Nat.le_of_lt hlt))
    have HB5 := Lib.hid ((below_drawn HB0.out _).trans (hb5.mono (Nat.le_of_lt hlt)))
    have HB := Lib.hid (((HB5.out.setCell (p := ⟨w.heap.size, 0, none⟩) (by show w.heap.size ≤ w.heap.size; omega) (.int .i64 W)).setCell (p := ⟨w.heap.size, 1, none⟩) (by show w.heap.size ≤ w.heap.size; omega) (.int .i64 H)).setCell (p := ⟨w.heap.size, 2, none⟩) (by show w.heap.size ≤ w.heap.size; omega) (.slice A5 (fl L).length c5))
    clear ho5 hb5
    go_wp2_with fail
    exact bodyPost_ret (v := .agg #[.int .i64 W, .int .i64 H, .slice A5 (fl L).length c5]) (by simp [results, Try.results97, go_sem, r0, r1, r2]) rfl ⟨_, rfl, HOF.out, HB.out⟩
end Go.Proofs.Ytfbdmhkmkmbipaa
