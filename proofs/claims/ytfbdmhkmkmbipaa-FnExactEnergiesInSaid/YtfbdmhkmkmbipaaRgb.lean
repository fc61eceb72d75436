/-
  Contracts: where a band is, by the program.
-/
import Derived.Test.YtfbdmhkmkmbipaaRgi
namespace Go.Proofs.Ytfbdmhkmkmbipaa
open Go.RowKit Fl
set_option linter.unusedVariables false

set_option maxRecDepth 100000 in
set_option maxHeartbeats 4000000 in
theorem bd0_any (p q : Int) (L : Nat) (w : World) (hp : 1 ≤ p ∧ p ≤ 16) (hq : 1 ≤ q ∧ q ≤ 16) (hL : 1 ≤ L ∧ L ≤ 4) :
    Calls Try.prog 103 #[.agg #[.int .i64 p, .int .i64 q], .int .i64 L, .int .i64 0] w fun e w' => e = .returned (.agg #[.int .i64 0, .int .i64 0, .int .i64 (hvI L p), .int .i64 (hvI L q)]) ∧ Below w.heap.size w w' := by
  have h1 := hvI_bd hp (L - 1)
  have h2 := hvI_bd hq (L - 1)
  have h3 := hvI_bd hp L
  have h4 := hvI_bd hq L
  have HP := Lib.hid (fun w => ptI_any p q L w hp hq hL)
  have HF := Lib.hid (fun w => (show Calls Try.prog 135 #[.agg #[.int .i64 (hvI (L - 1) p), .int .i64 (hvI (L - 1) q)]] w fun e w' => e = .returned (.agg #[.int .i64 (hvI L p), .int .i64 (hvI L q)]) ∧ Below w.heap.size w w' from by obtain ⟨l, rfl⟩ : ∃ l, L = l + 1 := ⟨L - 1, by omega⟩; exact hfI_any _ _ w h1 h2))
  go_enter Try.func103, Try.ntmps103
  go_wp2_with fail
  refine (HP.out _).mono ?_
  rintro e w1 ⟨g, cap, rfl, hg, hcap, c0, c1, hb1⟩
  obtain ⟨hc, hf⟩ := bcell hb1
  have r0 : w1.cell? ⟨w.heap.size + 1, 0, none⟩ = some (.int .i64 0) := (hc _ _ (by simp)).trans (by simp [go_sem])
  have r1 : w1.cell? ⟨w.heap.size + 1, 1, none⟩ = some (.int .i64 0) := (hc _ _ (by simp)).trans (by simp [go_sem])
  have r2 : w1.cell? ⟨w.heap.size + 1, 2, none⟩ = some (.int .i64 0) := (hc _ _ (by simp)).trans (by simp [go_sem])
  have r3 : w1.cell? ⟨w.heap.size + 1, 3, none⟩ = some (.int .i64 0) := (hc _ _ (by simp)).trans (by simp [go_sem])
  have e0 : ∀ o, w1.frozen? ⟨w.heap.size + 1, o, none⟩ = false := fun o => (hf _ _ (by simp)).trans (by simp [go_sem])
  have hz1 : w.heap.size + 2 ≤ w1.heap.size := by have := hb1.size; simp at this; omega
  have hb2 : Below w.heap.size w w1 := (((Below.refl _ _).alloc (Nat.le_refl _) _).alloc (by simp) _).trans (hb1.mono (by simp; omega))
  have hlc : (1 : Int) ≤ (L : Int) ∧ (L : Int) ≤ 4 := by omega
  clear hc hf hb1
  go_wp2_with fail
  refine (HF.out _).mono ?_
  rintro e w2 ⟨rfl, hb3⟩
  obtain ⟨hc, hf⟩ := bcell hb3
  have k0 : w2.cell? ⟨w1.heap.size, 0, none⟩ = some (.int .i64 (hvI (L - 1) p)) := (hc _ _ (by simp)).trans (by simp [go_sem])
  have k1 : w2.cell? ⟨w1.heap.size, 1, none⟩ = some (.int .i64 (hvI (L - 1) q)) := (hc _ _ (by simp)).trans (by simp [go_sem])
  have hb5 : Below w1.heap.size w1 w2 := ((Below.refl _ _).alloc (Nat.le_refl _) _).trans (hb3.mono (by simp))
  have hlt : w.heap.size + 1 < w1.heap.size := by omega
  replace r0 := (hb5.cell (p := ⟨w.heap.size + 1, 0, none⟩) hlt).trans r0
  replace r1 := (hb5.cell (p := ⟨w.heap.size + 1, 1, none⟩) hlt).trans r1
  replace r2 := (hb5.cell (p := ⟨w.heap.size + 1, 2, none⟩) hlt).trans r2
  replace r3 := (hb5.cell (p := ⟨w.heap.size + 1, 3, none⟩) hlt).trans r3
  have f0 := (hb5.frozen (p := ⟨w.heap.size + 1, 0, none⟩) hlt).trans (e0 0)
  have f1 := (hb5.frozen (p := ⟨w.heap.size + 1, 1, none⟩) hlt).trans (e0 1)
  have f2 := (hb5.frozen (p := ⟨w.heap.size + 1, 2, none⟩) hlt).trans (e0 2)
  have f3 := (hb5.frozen (p := ⟨w.heap.size + 1, 3, none⟩) hlt).trans (e0 3)
  have hb6 : Below w.heap.size w w2 := hb2.trans (hb5.mono hb2.size)
  have HB := Lib.hid (fun o o' x0 x1 x2 x3 => (((((hb6.setCell (p := ⟨w.heap.size + 1, 0, none⟩) (by show _ ≤ w.heap.size + 1; omega) x0).setCell (p := ⟨w.heap.size + 1, 1, none⟩) (by show _ ≤ w.heap.size + 1; omega) x1).setCell (p := ⟨w.heap.size + 1, 2, none⟩) (by show _ ≤ w.heap.size + 1; omega) x2).setCell (p := ⟨w.heap.size + 1, 3, none⟩) (by show _ ≤ w.heap.size + 1; omega) x3).alloc (by simp [World.setCell]; have := hb6.size; omega) o).alloc (by simp [World.setCell]; have := hb6.size; omega) o')
  have hl1 : w1.heap.size < w2.heap.size := by have := hb3.size; simp at this; omega
  have hl2 : w.heap.size + 1 < w2.heap.size := by omega
  have hl3 : w1.heap.size < w2.heap.size + 1 := by omega
  have hl4 : w.heap.size + 1 < w2.heap.size + 1 := by omega
  clear hc hf hb3 hb5 e0 hb2 hb6 c0 c1 hg
  go_wp2_with fail
  exact bodyPost_ret (v := .agg #[.int .i64 0, .int .i64 0, .int .i64 (hvI L p), .int .i64 (hvI L q)]) (by simp [results, Try.results103, go_sem, r0, r1, r2, r3, hl2, hl4]) rfl ⟨rfl, HB.out _ _ _ _ _ _⟩
set_option maxRecDepth 100000 in
set_option maxHeartbeats 4000000 in
theorem bd1_any (p q : Int) (L : Nat) (w : World) (hp : 1 ≤ p ∧ p ≤ 16) (hq : 1 ≤ q ∧ q ≤ 16) (hL : 1 ≤ L ∧ L ≤ 4) :
    Calls Try.prog 103 #[.agg #[.int .i64 p, .int .i64 q], .int .i64 L, .int .i64 1] w fun e w' => e = .returned (.agg #[.int .i64 (hvI L p), .int .i64 0, .int .i64 (hvI (L - 1) p - hvI L p), .int .i64 (hvI L q)]) ∧ Below w.heap.size w w' := by
  have h1 := hvI_bd hp (L - 1)
  have h2 := hvI_bd hq (L - 1)
  have h3 := hvI_bd hp L
  have h4 := hvI_bd hq L
  have HP := Lib.hid (fun w => ptI_any p q L w hp hq hL)
  have HF := Lib.hid (fun w => (show Calls Try.prog 135 #[.agg #[.int .i64 (hvI (L - 1) p), .int .i64 (hvI (L - 1) q)]] w fun e w' => e = .returned (.agg #[.int .i64 (hvI L p), .int .i64 (hvI L q)]) ∧ Below w.heap.size w w' from by obtain ⟨l, rfl⟩ : ∃ l, L = l + 1 := ⟨L - 1, by omega⟩; exact hfI_any _ _ w h1 h2))
  go_enter Try.func103, Try.ntmps103
  go_wp2_with fail
  refine (HP.out _).mono ?_
  rintro e w1 ⟨g, cap, rfl, hg, hcap, c0, c1, hb1⟩
  obtain ⟨hc, hf⟩ := bcell hb1
  have r0 : w1.cell? ⟨w.heap.size + 1, 0, none⟩ = some (.int .i64 0) := (hc _ _ (by simp)).trans (by simp [go_sem])
  have r1 : w1.cell? ⟨w.heap.size + 1, 1, none⟩ = some (.int .i64 0) := (hc _ _ (by simp)).trans (by simp [go_sem])
  have r2 : w1.cell? ⟨w.heap.size + 1, 2, none⟩ = some (.int .i64 0) := (hc _ _ (by simp)).trans (by simp [go_sem])
  have r3 : w1.cell? ⟨w.heap.size + 1, 3, none⟩ = some (.int .i64 0) := (hc _ _ (by simp)).trans (by simp [go_sem])
  have e0 : ∀ o, w1.frozen? ⟨w.heap.size + 1, o, none⟩ = false := fun o => (hf _ _ (by simp)).trans (by simp [go_sem])
  have hz1 : w.heap.size + 2 ≤ w1.heap.size := by have := hb1.size; simp at this; omega
  have hb2 : Below w.heap.size w w1 := (((Below.refl _ _).alloc (Nat.le_refl _) _).alloc (by simp) _).trans (hb1.mono (by simp; omega))
  have hlc : (1 : Int) ≤ (L : Int) ∧ (L : Int) ≤ 4 := by omega
  clear hc hf hb1
  go_wp2_with fail
  refine (HF.out _).mono ?_
  rintro e w2 ⟨rfl, hb3⟩
  obtain ⟨hc, hf⟩ := bcell hb3
  have k0 : w2.cell? ⟨w1.heap.size, 0, none⟩ = some (.int .i64 (hvI (L - 1) p)) := (hc _ _ (by simp)).trans (by simp [go_sem])
  have k1 : w2.cell? ⟨w1.heap.size, 1, none⟩ = some (.int .i64 (hvI (L - 1) q)) := (hc _ _ (by simp)).trans (by simp [go_sem])
  have hb5 : Below w1.heap.size w1 w2 := ((Below.refl _ _).alloc (Nat.le_refl _) _).trans (hb3.mono (by simp))
  have hlt : w.heap.size + 1 < w1.heap.size := by omega
  replace r0 := (hb5.cell (p := ⟨w.heap.size + 1, 0, none⟩) hlt).trans r0
  replace r1 := (hb5.cell (p := ⟨w.heap.size + 1, 1, none⟩) hlt).trans r1
  replace r2 := (hb5.cell (p := ⟨w.heap.size + 1, 2, none⟩) hlt).trans r2
  replace r3 := (hb5.cell (p := ⟨w.heap.size + 1, 3, none⟩) hlt).trans r3
  have f0 := (hb5.frozen (p := ⟨w.heap.size + 1, 0, none⟩) hlt).trans (e0 0)
  have f1 := (hb5.frozen (p := ⟨w.heap.size + 1, 1, none⟩) hlt).trans (e0 1)
  have f2 := (hb5.frozen (p := ⟨w.heap.size + 1, 2, none⟩) hlt).trans (e0 2)
  have f3 := (hb5.frozen (p := ⟨w.heap.size + 1, 3, none⟩) hlt).trans (e0 3)
  have hb6 : Below w.heap.size w w2 := hb2.trans (hb5.mono hb2.size)
  have HB := Lib.hid (fun o o' x0 x1 x2 x3 => (((((hb6.setCell (p := ⟨w.heap.size + 1, 0, none⟩) (by show _ ≤ w.heap.size + 1; omega) x0).setCell (p := ⟨w.heap.size + 1, 1, none⟩) (by show _ ≤ w.heap.size + 1; omega) x1).setCell (p := ⟨w.heap.size + 1, 2, none⟩) (by show _ ≤ w.heap.size + 1; omega) x2).setCell (p := ⟨w.heap.size + 1, 3, none⟩) (by show _ ≤ w.heap.size + 1; omega) x3).alloc (by simp [World.setCell]; have := hb6.size; omega) o).alloc (by simp [World.setCell]; have := hb6.size; omega) o')
  have hl1 : w1.heap.size < w2.heap.size := by have := hb3.size; simp at this; omega
  have hl2 : w.heap.size + 1 < w2.heap.size := by omega
  have hl3 : w1.heap.size < w2.heap.size + 1 := by omega
  have hl4 : w.heap.size + 1 < w2.heap.size + 1 := by omega
  clear hc hf hb3 hb5 e0 hb2 hb6 c0 c1 hg
  go_wp2_with fail
  exact bodyPost_ret (v := .agg #[.int .i64 (hvI L p), .int .i64 0, .int .i64 (hvI (L - 1) p - hvI L p), .int .i64 (hvI L q)]) (by simp [results, Try.results103, go_sem, r0, r1, r2, r3, hl2, hl4]) rfl ⟨rfl, HB.out _ _ _ _ _ _⟩
set_option maxRecDepth 100000 in
set_option maxHeartbeats 4000000 in
theorem bd2_any (p q : Int) (L : Nat) (w : World) (hp : 1 ≤ p ∧ p ≤ 16) (hq : 1 ≤ q ∧ q ≤ 16) (hL : 1 ≤ L ∧ L ≤ 4) :
    Calls Try.prog 103 #[.agg #[.int .i64 p, .int .i64 q], .int .i64 L, .int .i64 2] w fun e w' => e = .returned (.agg #[.int .i64 0, .int .i64 (hvI L q), .int .i64 (hvI L p), .int .i64 (hvI (L - 1) q - hvI L q)]) ∧ Below w.heap.size w w' := by
  have h1 := hvI_bd hp (L - 1)
  have h2 := hvI_bd hq (L - 1)
  have h3 := hvI_bd hp L
  have h4 := hvI_bd hq L
  have HP := Lib.hid (fun w => ptI_any p q L w hp hq hL)
  have HF := Lib.hid (fun w => (show Calls Try.prog 135 #[.agg #[.int .i64 (hvI (L - 1) p), .int .i64 (hvI (L - 1) q)]] w fun e w' => e = .returned (.agg #[.int .i64 (hvI L p), .int .i64 (hvI L q)]) ∧ Below w.heap.size w w' from by obtain ⟨l, rfl⟩ : ∃ l, L = l + 1 := ⟨L - 1, by omega⟩; exact hfI_any _ _ w h1 h2))
  go_enter Try.func103, Try.ntmps103
  go_wp2_with fail
  refine (HP.out _).mono ?_
  rintro e w1 ⟨g, cap, rfl, hg, hcap, c0, c1, hb1⟩
  obtain ⟨hc, hf⟩ := bcell hb1
  have r0 : w1.cell? ⟨w.heap.size + 1, 0, none⟩ = some (.int .i64 0) := (hc _ _ (by simp)).trans (by simp [go_sem])
  have r1 : w1.cell? ⟨w.heap.size + 1, 1, none⟩ = some (.int .i64 0) := (hc _ _ (by simp)).trans (by simp [go_sem])
  have r2 : w1.cell? ⟨w.heap.size + 1, 2, none⟩ = some (.int .i64 0) := (hc _ _ (by simp)).trans (by simp [go_sem])
  have r3 : w1.cell? ⟨w.heap.size + 1, 3, none⟩ = some (.int .i64 0) := (hc _ _ (by simp)).trans (by simp [go_sem])
  have e0 : ∀ o, w1.frozen? ⟨w.heap.size + 1, o, none⟩ = false := fun o => (hf _ _ (by simp)).trans (by simp [go_sem])
  have hz1 : w.heap.size + 2 ≤ w1.heap.size := by have := hb1.size; simp at this; omega
  have hb2 : Below w.heap.size w w1 := (((Below.refl _ _).alloc (Nat.le_refl _) _).alloc (by simp) _).trans (hb1.mono (by simp; omega))
  have hlc : (1 : Int) ≤ (L : Int) ∧ (L : Int) ≤ 4 := by omega
  clear hc hf hb1
  go_wp2_with fail
  refine (HF.out _).mono ?_
  rintro e w2 ⟨rfl, hb3⟩
  obtain ⟨hc, hf⟩ := bcell hb3
  have k0 : w2.cell? ⟨w1.heap.size, 0, none⟩ = some (.int .i64 (hvI (L - 1) p)) := (hc _ _ (by simp)).trans (by simp [go_sem])
  have k1 : w2.cell? ⟨w1.heap.size, 1, none⟩ = some (.int .i64 (hvI (L - 1) q)) := (hc _ _ (by simp)).trans (by simp [go_sem])
  have hb5 : Below w1.heap.size w1 w2 := ((Below.refl _ _).alloc (Nat.le_refl _) _).trans (hb3.mono (by simp))
  have hlt : w.heap.size + 1 < w1.heap.size := by omega
  replace r0 := (hb5.cell (p := ⟨w.heap.size + 1, 0, none⟩) hlt).trans r0
  replace r1 := (hb5.cell (p := ⟨w.heap.size + 1, 1, none⟩) hlt).trans r1
  replace r2 := (hb5.cell (p := ⟨w.heap.size + 1, 2, none⟩) hlt).trans r2
  replace r3 := (hb5.cell (p := ⟨w.heap.size + 1, 3, none⟩) hlt).trans r3
  have f0 := (hb5.frozen (p := ⟨w.heap.size + 1, 0, none⟩) hlt).trans (e0 0)
  have f1 := (hb5.frozen (p := ⟨w.heap.size + 1, 1, none⟩) hlt).trans (e0 1)
  have f2 := (hb5.frozen (p := ⟨w.heap.size + 1, 2, none⟩) hlt).trans (e0 2)
  have f3 := (hb5.frozen (p := ⟨w.heap.size + 1, 3, none⟩) hlt).trans (e0 3)
  have hb6 : Below w.heap.size w w2 := hb2.trans (hb5.mono hb2.size)
  have HB := Lib.hid (fun o o' x0 x1 x2 x3 => (((((hb6.setCell (p := ⟨w.heap.size + 1, 0, none⟩) (by show _ ≤ w.heap.size + 1; omega) x0).setCell (p := ⟨w.heap.size + 1, 1, none⟩) (by show _ ≤ w.heap.size + 1; omega) x1).setCell (p := ⟨w.heap.size + 1, 2, none⟩) (by show _ ≤ w.heap.size + 1; omega) x2).setCell (p := ⟨w.heap.size + 1, 3, none⟩) (by show _ ≤ w.heap.size + 1; omega) x3).alloc (by simp [World.setCell]; have := hb6.size; omega) o).alloc (by simp [World.setCell]; have := hb6.size; omega) o')
  have hl1 : w1.heap.size < w2.heap.size := by have := hb3.size; simp at this; omega
  have hl2 : w.heap.size + 1 < w2.heap.size := by omega
  have hl3 : w1.heap.size < w2.heap.size + 1 := by omega
  have hl4 : w.heap.size + 1 < w2.heap.size + 1 := by omega
  clear hc hf hb3 hb5 e0 hb2 hb6 c0 c1 hg
  go_wp2_with fail
  exact bodyPost_ret (v := .agg #[.int .i64 0, .int .i64 (hvI L q), .int .i64 (hvI L p), .int .i64 (hvI (L - 1) q - hvI L q)]) (by simp [results, Try.results103, go_sem, r0, r1, r2, r3, hl2, hl4]) rfl ⟨rfl, HB.out _ _ _ _ _ _⟩
set_option maxRecDepth 100000 in
set_option maxHeartbeats 4000000 in
theorem bd3_any (p q : Int) (L : Nat) (w : World) (hp : 1 ≤ p ∧ p ≤ 16) (hq : 1 ≤ q ∧ q ≤ 16) (hL : 1 ≤ L ∧ L ≤ 4) :
    Calls Try.prog 103 #[.agg #[.int .i64 p, .int .i64 q], .int .i64 L, .int .i64 3] w fun e w' => e = .returned (.agg #[.int .i64 (hvI L p), .int .i64 (hvI L q), .int .i64 (hvI (L - 1) p - hvI L p), .int .i64 (hvI (L - 1) q - hvI L q)]) ∧ Below w.heap.size w w' := by
  have h1 := hvI_bd hp (L - 1)
  have h2 := hvI_bd hq (L - 1)
  have h3 := hvI_bd hp L
  have h4 := hvI_bd hq L
  have HP := Lib.hid (fun w => ptI_any p q L w hp hq hL)
  have HF := Lib.hid (fun w => (show Calls Try.prog 135 #[.agg #[.int .i64 (hvI (L - 1) p), .int .i64 (hvI (L - 1) q)]] w fun e w' => e = .returned (.agg #[.int .i64 (hvI L p), .int .i64 (hvI L q)]) ∧ Below w.heap.size w w' from by obtain ⟨l, rfl⟩ : ∃ l, L = l + 1 := ⟨L - 1, by omega⟩; exact hfI_any _ _ w h1 h2))
  go_enter Try.func103, Try.ntmps103
  go_wp2_with fail
  refine (HP.out _).mono ?_
  rintro e w1 ⟨g, cap, rfl, hg, hcap, c0, c1, hb1⟩
  obtain ⟨hc, hf⟩ := bcell hb1
  have r0 : w1.cell? ⟨w.heap.size + 1, 0, none⟩ = some (.int .i64 0) := (hc _ _ (by simp)).trans (by simp [go_sem])
  have r1 : w1.cell? ⟨w.heap.size + 1, 1, none⟩ = some (.int .i64 0) := (hc _ _ (by simp)).trans (by simp [go_sem])
  have r2 : w1.cell? ⟨w.heap.size + 1, 2, none⟩ = some (.int .i64 0) := (hc _ _ (by simp)).trans (by simp [go_sem])
  have r3 : w1.cell? ⟨w.heap.size + 1, 3, none⟩ = some (.int .i64 0) := (hc _ _ (by simp)).trans (by simp [go_sem])
  have e0 : ∀ o, w1.frozen? ⟨w.heap.size + 1, o, none⟩ = false := fun o => (hf _ _ (by simp)).trans (by simp [go_sem])
  have hz1 : w.heap.size + 2 ≤ w1.heap.size := by have := hb1.size; simp at this; omega
  have hb2 : Below w.heap.size w w1 := (((Below.refl _ _).alloc (Nat.le_refl _) _).alloc (by simp) _).trans (hb1.mono (by simp; omega))
  have hlc : (1 : Int) ≤ (L : Int) ∧ (L : Int) ≤ 4 := by omega
  clear hc hf hb1
  go_wp2_with fail
  refine (HF.out _).mono ?_
  rintro e w2 ⟨rfl, hb3⟩
  obtain ⟨hc, hf⟩ := bcell hb3
  have k0 : w2.cell? ⟨w1.heap.size, 0, none⟩ = some (.int .i64 (hvI (L - 1) p)) := (hc _ _ (by simp)).trans (by simp [go_sem])
  have k1 : w2.cell? ⟨w1.heap.size, 1, none⟩ = some (.int .i64 (hvI (L - 1) q)) := (hc _ _ (by simp)).trans (by simp [go_sem])
  have hb5 : Below w1.heap.size w1 w2 := ((Below.refl _ _).alloc (Nat.le_refl _) _).trans (hb3.mono (by simp))
  have hlt : w.heap.size + 1 < w1.heap.size := by omega
  replace r0 := (hb5.cell (p := ⟨w.heap.size + 1, 0, none⟩) hlt).trans r0
  replace r1 := (hb5.cell (p := ⟨w.heap.size + 1, 1, none⟩) hlt).trans r1
  replace r2 := (hb5.cell (p := ⟨w.heap.size + 1, 2, none⟩) hlt).trans r2
  replace r3 := (hb5.cell (p := ⟨w.heap.size + 1, 3, none⟩) hlt).trans r3
  have f0 := (hb5.frozen (p := ⟨w.heap.size + 1, 0, none⟩) hlt).trans (e0 0)
  have f1 := (hb5.frozen (p := ⟨w.heap.size + 1, 1, none⟩) hlt).trans (e0 1)
  have f2 := (hb5.frozen (p := ⟨w.heap.size + 1, 2, none⟩) hlt).trans (e0 2)
  have f3 := (hb5.frozen (p := ⟨w.heap.size + 1, 3, none⟩) hlt).trans (e0 3)
  have hb6 : Below w.heap.size w w2 := hb2.trans (hb5.mono hb2.size)
  have HB := Lib.hid (fun o o' x0 x1 x2 x3 => (((((hb6.setCell (p := ⟨w.heap.size + 1, 0, none⟩) (by show _ ≤ w.heap.size + 1; omega) x0).setCell (p := ⟨w.heap.size + 1, 1, none⟩) (by show _ ≤ w.heap.size + 1; omega) x1).setCell (p := ⟨w.heap.size + 1, 2, none⟩) (by show _ ≤ w.heap.size + 1; omega) x2).setCell (p := ⟨w.heap.size + 1, 3, none⟩) (by show _ ≤ w.heap.size + 1; omega) x3).alloc (by simp [World.setCell]; have := hb6.size; omega) o).alloc (by simp [World.setCell]; have := hb6.size; omega) o')
  have hl1 : w1.heap.size < w2.heap.size := by have := hb3.size; simp at this; omega
  have hl2 : w.heap.size + 1 < w2.heap.size := by omega
  have hl3 : w1.heap.size < w2.heap.size + 1 := by omega
  have hl4 : w.heap.size + 1 < w2.heap.size + 1 := by omega
  clear hc hf hb3 hb5 e0 hb2 hb6 c0 c1 hg
  go_wp2_with fail
  exact bodyPost_ret (v := .agg #[.int .i64 (hvI L p), .int .i64 (hvI L q), .int .i64 (hvI (L - 1) p - hvI L p), .int .i64 (hvI (L - 1) q - hvI L q)]) (by simp [results, Try.results103, go_sem, r0, r1, r2, r3, hl2, hl4]) rfl ⟨rfl, HB.out _ _ _ _ _ _⟩
end Go.Proofs.Ytfbdmhkmkmbipaa
