/-
  Contracts: where a band is, by the program, as told of a picture's sides.
-/
import Derived.Test.YtfbdmhkmkmbipaaRgb
namespace Go.Proofs.Ytfbdmhkmkmbipaa
open Go.RowKit Fl
set_option linter.unusedVariables false

theorem bdI_any (p q : Int) (L : Nat) (b : Int) (w : World) (hp : 1 ≤ p ∧ p ≤ 16) (hq : 1 ≤ q ∧ q ≤ 16) (hL : 1 ≤ L ∧ L ≤ 4) (hb : 0 ≤ b ∧ b ≤ 3) :
    Calls Try.prog 103 #[.agg #[.int .i64 p, .int .i64 q], .int .i64 L, .int .i64 b] w fun e w' => e = .returned (.agg #[.int .i64 (rgX (L - 1) b p q), .int .i64 (rgY (L - 1) b p q), .int .i64 (rgW (L - 1) b p q), .int .i64 (rgH (L - 1) b p q)]) ∧ Below w.heap.size w w' := by
  have hl : L - 1 + 1 = L := by omega
  unfold rgX rgY rgW rgH
  rw [hl]
  obtain rfl | rfl | rfl | rfl : b = 0 ∨ b = 1 ∨ b = 2 ∨ b = 3 := by omega
  · exact bd0_any p q L w hp hq hL
  · exact bd1_any p q L w hp hq hL
  · exact bd2_any p q L w hp hq hL
  · exact bd3_any p q L w hp hq hL
theorem hv_le {x : Int} (h : 1 ≤ x ∧ x ≤ 16) (k : Nat) : hvI (k + 1) x ≤ hvI k x := by
  have := hvI_bd h k
  show (hvI k x + 1) / 2 ≤ hvI k x
  omega
theorem rg_bd {p q : Int} (hp : 1 ≤ p ∧ p ≤ 16) (hq : 1 ≤ q ∧ q ≤ 16) (l : Nat) (b : Int) : (0 ≤ rgX l b p q ∧ rgX l b p q ≤ 16) ∧ (0 ≤ rgY l b p q ∧ rgY l b p q ≤ 16) ∧ (0 ≤ rgW l b p q ∧ rgW l b p q ≤ 16) ∧ 0 ≤ rgH l b p q ∧ rgH l b p q ≤ 16 := by
  have h1 := hvI_bd hp l
  have h2 := hvI_bd hq l
  have h3 := hvI_bd hp (l + 1)
  have h4 := hvI_bd hq (l + 1)
  have h5 := hv_le hp l
  have h6 := hv_le hq l
  unfold rgX rgY rgW rgH
  refine ⟨?_, ?_, ?_, ?_⟩ <;> split <;> omega
set_option maxRecDepth 100000 in
set_option maxHeartbeats 4000000 in
theorem rrI_any (p q l b : Int) (w : World) :
    Calls Try.prog 98 #[.int .i64 p, .int .i64 q, .int .i64 l, .int .i64 b] w (RetRg p q l b w) := by
  have H1 := Lib.hid (fun w => arv_any p q w)
  have H2 := Lib.hid (fun w => lvI_any l w)
  have H3 := Lib.hid (fun w => bnI_any b w)
  cases hs : ssB p q with
  | false =>
    have HN := Lib.hid (fun w' hb => retRg_no (w := w) (w' := w') (show rgB p q l b = false by unfold rgB; rw [hs]; rfl) hb)
    rw [hs] at H1
    go_enter Try.func98, Try.ntmps98
    go_wp2_with fail
    refine (H1.out _).mono ?_
    rintro e w1 ⟨rfl, hb1⟩
    have hb0 : Below w.heap.size w w1 := ((Below.refl _ _).alloc (Nat.le_refl _) _).trans (hb1.mono (by simp))
    have k0 : w1.cell? ⟨w.heap.size, 0, none⟩ = some (.int .i64 p) := ((bcell hb1).1 _ _ (by simp)).trans (by simp [go_sem])
    have k1 : w1.cell? ⟨w.heap.size, 1, none⟩ = some (.int .i64 q) := ((bcell hb1).1 _ _ (by simp)).trans (by simp [go_sem])
    clear hb1
    go_wp2_with fail
    exact bodyPost_ret (by simp [results, Try.results98, go_sem]) rfl (HN.out _ hb0)
  | true =>
    rw [hs] at H1
    cases hl : decide (1 ≤ l ∧ l ≤ 4) with
    | false =>
      have HN := Lib.hid (fun w' hb => retRg_no (w := w) (w' := w') (show rgB p q l b = false by unfold rgB lvB; rw [hl]; simp) hb)
      rw [hl] at H2
      go_enter Try.func98, Try.ntmps98
      go_wp2_with fail
      refine (H1.out _).mono ?_
      rintro e w1 ⟨rfl, hb1⟩
      have hb0 : Below w.heap.size w w1 := ((Below.refl _ _).alloc (Nat.le_refl _) _).trans (hb1.mono (by simp))
      have k0 : w1.cell? ⟨w.heap.size, 0, none⟩ = some (.int .i64 p) := ((bcell hb1).1 _ _ (by simp)).trans (by simp [go_sem])
      have k1 : w1.cell? ⟨w.heap.size, 1, none⟩ = some (.int .i64 q) := ((bcell hb1).1 _ _ (by simp)).trans (by simp [go_sem])
      clear hb1
      go_wp2_with fail
      refine (H2.out _).mono ?_
      rintro e w2 ⟨rfl, rfl⟩
      go_wp2_with fail
      exact bodyPost_ret (by simp [results, Try.results98, go_sem]) rfl (HN.out _ hb0)
    | true =>
      rw [hl] at H2
      cases hb : decide (0 ≤ b ∧ b ≤ 3) with
      | false =>
        have HN := Lib.hid (fun w' h => retRg_no (w := w) (w' := w') (show rgB p q l b = false by unfold rgB; rw [hb]; simp) h)
        rw [hb] at H3
        go_enter Try.func98, Try.ntmps98
        go_wp2_with fail
        refine (H1.out _).mono ?_
        rintro e w1 ⟨rfl, hb1⟩
        have hb0 : Below w.heap.size w w1 := ((Below.refl _ _).alloc (Nat.le_refl _) _).trans (hb1.mono (by simp))
        have k0 : w1.cell? ⟨w.heap.size, 0, none⟩ = some (.int .i64 p) := ((bcell hb1).1 _ _ (by simp)).trans (by simp [go_sem])
        have k1 : w1.cell? ⟨w.heap.size, 1, none⟩ = some (.int .i64 q) := ((bcell hb1).1 _ _ (by simp)).trans (by simp [go_sem])
        clear hb1
        go_wp2_with fail
        refine (H2.out _).mono ?_
        rintro e w2 ⟨rfl, rfl⟩
        go_wp2_with fail
        refine (H3.out _).mono ?_
        rintro e w3 ⟨rfl, rfl⟩
        go_wp2_with fail
        exact bodyPost_ret (by simp [results, Try.results98, go_sem]) rfl (HN.out _ hb0)
      | true =>
        rw [hb] at H3
        have hgb : rgB p q l b = true := by unfold rgB lvB; rw [hs, hl, hb]; rfl
        obtain ⟨b1, b2⟩ := ssB_out hs
        have hl2 : 1 ≤ l ∧ l ≤ 4 := of_decide_eq_true hl
        have hb2 : 0 ≤ b ∧ b ≤ 3 := of_decide_eq_true hb
        have HE : ∀ w', Below w.heap.size w w' → RetRg p q l b w (.returned (.tuple #[.int .i64 (rgX (l - 1).toNat b p q), .int .i64 (rgY (l - 1).toNat b p q), .int .i64 (rgW (l - 1).toNat b p q), .int .i64 (rgH (l - 1).toNat b p q), .bool true])) w' := fun w' h => by
          unfold RetRg rgV; rw [hgb]; exact ⟨rfl, h⟩
        obtain ⟨L, rfl⟩ : ∃ L : Nat, l = (L : Int) := ⟨l.toNat, by omega⟩
        have HR := Lib.hid (fun w => bdI_any p q L b w b1 b2 (by omega) hb2)
        have HY := Lib.hid HE
        rw [show ((L : Int) - 1).toNat = L - 1 by omega] at HY
        have hrb := rg_bd b1 b2 (L - 1) b
        generalize rgX (L - 1) b p q = X at *
        generalize rgY (L - 1) b p q = Y at *
        generalize rgW (L - 1) b p q = Z at *
        generalize rgH (L - 1) b p q = T at *
        clear hgb hb hl hs HE
        go_enter Try.func98, Try.ntmps98
        go_wp2_with fail
        refine (H1.out _).mono ?_
        rintro e w1 ⟨rfl, hb1⟩
        have hb0 : Below w.heap.size w w1 := ((Below.refl _ _).alloc (Nat.le_refl _) _).trans (hb1.mono (by simp))
        have k0 : w1.cell? ⟨w.heap.size, 0, none⟩ = some (.int .i64 p) := ((bcell hb1).1 _ _ (by simp)).trans (by simp [go_sem])
        have k1 : w1.cell? ⟨w.heap.size, 1, none⟩ = some (.int .i64 q) := ((bcell hb1).1 _ _ (by simp)).trans (by simp [go_sem])
        clear hb1
        go_wp2_with fail
        refine (H2.out _).mono ?_
        rintro e w2 ⟨rfl, rfl⟩
        go_wp2_with fail
        refine (H3.out _).mono ?_
        rintro e w3 ⟨rfl, rfl⟩
        go_wp2_with fail
        refine (HR.out _).mono ?_
        rintro e w4 ⟨rfl, hb4⟩
        have HB := Lib.hid (fun n => below_drawn ((hb0.trans (hb4.mono hb0.size)).alloc (hb0.trans (hb4.mono hb0.size)).size (.cells #[.int .i64 X, .int .i64 Y, .int .i64 Z, .int .i64 T] 97)) n)
        clear k0 k1 hb0 hb4
        go_wp2_with fail
        go_quiet (fail)
        go_wp2_with fail
        exact bodyPost_ret (by simp [results, Try.results98, go_sem]) rfl (HY.out _ (HB.out _))
end Go.Proofs.Ytfbdmhkmkmbipaa
