/-
  At any pair, HighOf answers as its model does, in memory of its own, and leaves the pair as it was.
-/
import Derived.Test.YtfhngajodfjkeaaRows
import Derived.ProofKit
import Derived.OpenShut
import Derived.WalkLawsBesides
import Derived.KernelRfl
import Derived.Test.YtfhngajodfjkeaaHj
import Derived.Test.YtfhngajodfjkeaaMkF
namespace Go.Proofs.Ytfhngajodfjkeaa
open Go.RowKit Fl
set_option linter.unusedVariables false
theorem fnExactHighOf.walk (w : World) (v0 : Value) (a0 : List Nat) (h0 : Rd w w.heap.size v0 (a0.map (.float .f32))) (w0 : ∀ x ∈ a0, x < 2 ^ 32) :
    Calls Try.prog 7 #[.agg #[v0]] w fun e w' => e = .returned (.bool true) ∧ Below w.heap.size w w' := by
  have hle0 := h0.le
  rw [show (a0.map (.float .f32)) = fl a0 from rfl, fl_len] at hle0
  unfold maxLen at hle0
  replace h0 : Rd w w.heap.size v0 (fl a0) := h0
  obtain ⟨A0, c0, hv0, hc01, hc02, hcell0⟩ := id h0
  rw [fl_len] at hv0
  clear hcell0 hc01 hc02
  subst hv0
  have HX0 := Lib.hid w0
  clear w0
  have hsf : ∀ (a : Addr) (x : Nat) (w : World), (store a (.float .f32 x)).run Try.prog w = stored Try.prog w a (.float .f32 x) .plain := fun a x w => run_store _ w a _ _ rfl
  obtain ⟨L, hLe⟩ : ∃ L, L = hiR a0 := ⟨_, rfl⟩
  have hL : L.length ≤ 1048576 := by rw [hLe]; exact hiR_len a0
  obtain ⟨b, hbe⟩ : ∃ b, b = vpB a0 := ⟨_, rfl⟩
  have HS0 := Lib.hid (fun (hm0 : a0.length ≤ 1048576) (w' : World) (u0 : Value) (hr0 : Rd w' w'.heap.size u0 (fl a0)) => (show Calls Try.prog 28 #[.agg #[u0]] w' (RetLF L b w') by rw [hLe, hbe]; exact hioS_any u0 a0 w' hr0 hm0 HX0.out))
  have HI0 := Lib.hid (fun (hm0 : a0.length ≤ 1048576) (w' : World) (u0 : Value) (hr0 : Rd w' w'.heap.size u0 (fl a0)) => (show Calls Try.prog 29 #[.agg #[u0]] w' (RetLF L b w') by rw [hLe, hbe]; exact hioI_any u0 a0 w' hr0 hm0 HX0.out))
  clear hLe hbe
  go_enter Try.func7, Try.ntmps7
  have F_a0_w : Rd w w.heap.size (.slice A0 a0.length c0) (fl a0) := h0
  have B_w : Below w.heap.size w w := Below.refl _ _
  clear h0
  go_wp2_with fail
  have hb1 : Below w.heap.size w (w.alloc (.cells #[(.slice A0 a0.length c0)] 29)) := (Below.refl _ _).alloc (Nat.le_refl _) _
  have O1 := own_box1 w ((.slice A0 a0.length c0)) 29
  generalize w.alloc (.cells #[(.slice A0 a0.length c0)] 29) = w1 at *
  have F_a0_w1 : Rd w1 w.heap.size (.slice A0 a0.length c0) (fl a0) := F_a0_w.below (hb1.mono B_w.size)
  have B_w1 : Below w.heap.size w w1 := B_w.trans (hb1.mono B_w.size)
  have S_pa0 : w.heap.size ≤ w.heap.size := B_w.size
  clear F_a0_w B_w
  have F_pa0_w1 : In w1 w.heap.size w1.heap.size (.slice (some ⟨w.heap.size, 0, none⟩) 1 1) ([(.slice A0 a0.length c0)]) := In.made O1
  have T_pa0_w1 : w1.heap.size ≤ w1.heap.size := Nat.le_refl _
  clear O1
  clear hb1
  refine (szPair_any _ a0 1048576 _ (F_a0_w1.more B_w1.size) (by omega) (by omega) hle0).mono ?_
  rintro e w2 ⟨rfl, hb2⟩
  have F_a0_w2 : Rd w2 w.heap.size (.slice A0 a0.length c0) (fl a0) := F_a0_w1.below (hb2.mono B_w1.size)
  have F_pa0_w2 : In w2 w.heap.size w1.heap.size (.slice (some ⟨w.heap.size, 0, none⟩) 1 1) ([(.slice A0 a0.length c0)]) := F_pa0_w1.step hb2
  have T_pa0_w2 : w1.heap.size ≤ w2.heap.size := Nat.le_trans T_pa0_w1 hb2.size
  have B_w2 : Below w.heap.size w w2 := B_w1.trans (hb2.mono B_w1.size)
  clear F_a0_w1 F_pa0_w1 T_pa0_w1 B_w1
  clear hb2
  by_cases hbig0 : (1048576 : Int) < a0.length
  · rw [if_pos hbig0]
    go_wp2_with fail
    go_ret
    exact ⟨rfl, B_w2⟩
  rw [if_neg hbig0]
  have hm0 : a0.length ≤ 1048576 := by omega
  have hl0 : 0 ≤ (1048576 : Int) - a0.length := by omega
  have HS := Lib.hid (HS0.out hm0)
  have HI := Lib.hid (HI0.out hm0)
  clear HS0 HI0
  clear hbig0
  obtain ⟨_, Z_pa0_w2, c33, _⟩ := F_pa0_w2.1.cells' (by decide)
  have Q_pa0_w2 : w2.cell? ⟨w.heap.size, 0, none⟩ = some (.slice A0 a0.length c0) := c33 0 _ rfl
  clear c33
  go_wp2_with fail
  refine (toPair_any _ a0 _ (F_a0_w2.more B_w2.size) hm0).mono ?_
  rintro e w3 ⟨g3, rfl, O3, hb3⟩
  have F_a0_w3 : Rd w3 w.heap.size (.slice A0 a0.length c0) (fl a0) := F_a0_w2.below (hb3.mono B_w2.size)
  have F_pa0_w3 : In w3 w.heap.size w1.heap.size (.slice (some ⟨w.heap.size, 0, none⟩) 1 1) ([(.slice A0 a0.length c0)]) := F_pa0_w2.step hb3
  have T_pa0_w3 : w1.heap.size ≤ w3.heap.size := Nat.le_trans T_pa0_w2 hb3.size
  have B_w3 : Below w.heap.size w w3 := B_w2.trans (hb3.mono B_w2.size)
  have S_c0 : w.heap.size ≤ w2.heap.size := B_w2.size
  have D_pa0_c0 : w1.heap.size ≤ w2.heap.size := T_pa0_w2
  clear F_a0_w2 F_pa0_w2 T_pa0_w2 B_w2
  have F_c0_w3 : In w3 w2.heap.size w3.heap.size (.slice (some ⟨g3, 0, none⟩) a0.length a0.length) (fl a0) := In.made O3
  have T_c0_w3 : w3.heap.size ≤ w3.heap.size := Nat.le_refl _
  clear O3
  clear hb3
  clear Z_pa0_w2 Q_pa0_w2
  go_wp2_with fail
  refine (HS.out _ _ F_c0_w3.rd).mono ?_
  rintro e w4 ⟨r0, rfl, O4x, hb4⟩
  have F_a0_w4 : Rd w4 w.heap.size (.slice A0 a0.length c0) (fl a0) := F_a0_w3.below (hb4.mono B_w3.size)
  have F_pa0_w4 : In w4 w.heap.size w1.heap.size (.slice (some ⟨w.heap.size, 0, none⟩) 1 1) ([(.slice A0 a0.length c0)]) := F_pa0_w3.step hb4
  have T_pa0_w4 : w1.heap.size ≤ w4.heap.size := Nat.le_trans T_pa0_w3 hb4.size
  have F_c0_w4 : In w4 w2.heap.size w3.heap.size (.slice (some ⟨g3, 0, none⟩) a0.length a0.length) (fl a0) := F_c0_w3.step hb4
  have T_c0_w4 : w3.heap.size ≤ w4.heap.size := Nat.le_trans T_c0_w3 hb4.size
  have B_w4 : Below w.heap.size w w4 := B_w3.trans (hb4.mono B_w3.size)
  have S_r0 : w.heap.size ≤ w3.heap.size := B_w3.size
  have D_pa0_r0 : w1.heap.size ≤ w3.heap.size := T_pa0_w3
  have D_c0_r0 : w3.heap.size ≤ w3.heap.size := T_c0_w3
  clear F_a0_w3 F_pa0_w3 T_pa0_w3 F_c0_w3 T_c0_w3 B_w3
  have F_r0_w4 : In w4 w3.heap.size w4.heap.size r0 (fl L) := In.made O4x
  have T_r0_w4 : w4.heap.size ≤ w4.heap.size := Nat.le_refl _
  clear O4x
  clear hb4
  clear F_c0_w4 T_c0_w4
  obtain ⟨_, Z_pa0_w4, c69, _⟩ := F_pa0_w4.1.cells' (by decide)
  have Q_pa0_w4 : w4.cell? ⟨w.heap.size, 0, none⟩ = some (.slice A0 a0.length c0) := c69 0 _ rfl
  clear c69
  go_wp2_with fail
  refine (toPair_any _ a0 _ (F_a0_w4.more B_w4.size) hm0).mono ?_
  rintro e w5 ⟨g5, rfl, O5, hb5⟩
  have F_a0_w5 : Rd w5 w.heap.size (.slice A0 a0.length c0) (fl a0) := F_a0_w4.below (hb5.mono B_w4.size)
  have F_pa0_w5 : In w5 w.heap.size w1.heap.size (.slice (some ⟨w.heap.size, 0, none⟩) 1 1) ([(.slice A0 a0.length c0)]) := F_pa0_w4.step hb5
  have T_pa0_w5 : w1.heap.size ≤ w5.heap.size := Nat.le_trans T_pa0_w4 hb5.size
  have F_r0_w5 : In w5 w3.heap.size w4.heap.size r0 (fl L) := F_r0_w4.step hb5
  have T_r0_w5 : w4.heap.size ≤ w5.heap.size := Nat.le_trans T_r0_w4 hb5.size
  have B_w5 : Below w.heap.size w w5 := B_w4.trans (hb5.mono B_w4.size)
  have S_x0 : w.heap.size ≤ w4.heap.size := B_w4.size
  have D_pa0_x0 : w1.heap.size ≤ w4.heap.size := T_pa0_w4
  have D_r0_x0 : w4.heap.size ≤ w4.heap.size := T_r0_w4
  clear F_a0_w4 F_pa0_w4 T_pa0_w4 F_r0_w4 T_r0_w4 B_w4
  have F_x0_w5 : In w5 w4.heap.size w5.heap.size (.slice (some ⟨g5, 0, none⟩) a0.length a0.length) (fl a0) := In.made O5
  have T_x0_w5 : w5.heap.size ≤ w5.heap.size := Nat.le_refl _
  clear O5
  clear hb5
  clear Z_pa0_w4 Q_pa0_w4
  go_wp2_with fail
  have hb6 : Below w5.heap.size w5 (w5.alloc (.cells #[(.slice (some ⟨g5, 0, none⟩) a0.length a0.length)] 24)) := (Below.refl _ _).alloc (Nat.le_refl _) _
  have O6 := own_box1 w5 ((.slice (some ⟨g5, 0, none⟩) a0.length a0.length)) 24
  generalize w5.alloc (.cells #[(.slice (some ⟨g5, 0, none⟩) a0.length a0.length)] 24) = w6 at *
  have F_a0_w6 : Rd w6 w.heap.size (.slice A0 a0.length c0) (fl a0) := F_a0_w5.below (hb6.mono B_w5.size)
  have F_pa0_w6 : In w6 w.heap.size w1.heap.size (.slice (some ⟨w.heap.size, 0, none⟩) 1 1) ([(.slice A0 a0.length c0)]) := F_pa0_w5.step hb6
  have T_pa0_w6 : w1.heap.size ≤ w6.heap.size := Nat.le_trans T_pa0_w5 hb6.size
  have F_r0_w6 : In w6 w3.heap.size w4.heap.size r0 (fl L) := F_r0_w5.step hb6
  have T_r0_w6 : w4.heap.size ≤ w6.heap.size := Nat.le_trans T_r0_w5 hb6.size
  have F_x0_w6 : In w6 w4.heap.size w5.heap.size (.slice (some ⟨g5, 0, none⟩) a0.length a0.length) (fl a0) := F_x0_w5.step hb6
  have T_x0_w6 : w5.heap.size ≤ w6.heap.size := Nat.le_trans T_x0_w5 hb6.size
  have B_w6 : Below w.heap.size w w6 := B_w5.trans (hb6.mono B_w5.size)
  have S_px0 : w.heap.size ≤ w5.heap.size := B_w5.size
  have D_pa0_px0 : w1.heap.size ≤ w5.heap.size := T_pa0_w5
  have D_r0_px0 : w4.heap.size ≤ w5.heap.size := T_r0_w5
  have D_x0_px0 : w5.heap.size ≤ w5.heap.size := T_x0_w5
  clear F_a0_w5 F_pa0_w5 T_pa0_w5 F_r0_w5 T_r0_w5 F_x0_w5 T_x0_w5 B_w5
  have F_px0_w6 : In w6 w5.heap.size w6.heap.size (.slice (some ⟨w5.heap.size, 0, none⟩) 1 1) ([(.slice (some ⟨g5, 0, none⟩) a0.length a0.length)]) := In.made O6
  have T_px0_w6 : w6.heap.size ≤ w6.heap.size := Nat.le_refl _
  clear O6
  clear hb6
  refine (HI.out _ _ F_x0_w6.rd).mono ?_
  rintro e w7 ⟨g0, rfl, O7x, hb7⟩
  have F_a0_w7 : Rd w7 w.heap.size (.slice A0 a0.length c0) (fl a0) := F_a0_w6.below (hb7.mono B_w6.size)
  have F_pa0_w7 : In w7 w.heap.size w1.heap.size (.slice (some ⟨w.heap.size, 0, none⟩) 1 1) ([(.slice A0 a0.length c0)]) := F_pa0_w6.step hb7
  have T_pa0_w7 : w1.heap.size ≤ w7.heap.size := Nat.le_trans T_pa0_w6 hb7.size
  have F_r0_w7 : In w7 w3.heap.size w4.heap.size r0 (fl L) := F_r0_w6.step hb7
  have T_r0_w7 : w4.heap.size ≤ w7.heap.size := Nat.le_trans T_r0_w6 hb7.size
  have F_x0_w7 : In w7 w4.heap.size w5.heap.size (.slice (some ⟨g5, 0, none⟩) a0.length a0.length) (fl a0) := F_x0_w6.step hb7
  have T_x0_w7 : w5.heap.size ≤ w7.heap.size := Nat.le_trans T_x0_w6 hb7.size
  have F_px0_w7 : In w7 w5.heap.size w6.heap.size (.slice (some ⟨w5.heap.size, 0, none⟩) 1 1) ([(.slice (some ⟨g5, 0, none⟩) a0.length a0.length)]) := F_px0_w6.step hb7
  have T_px0_w7 : w6.heap.size ≤ w7.heap.size := Nat.le_trans T_px0_w6 hb7.size
  have B_w7 : Below w.heap.size w w7 := B_w6.trans (hb7.mono B_w6.size)
  have S_g0 : w.heap.size ≤ w6.heap.size := B_w6.size
  have D_pa0_g0 : w1.heap.size ≤ w6.heap.size := T_pa0_w6
  have D_r0_g0 : w4.heap.size ≤ w6.heap.size := T_r0_w6
  have D_x0_g0 : w5.heap.size ≤ w6.heap.size := T_x0_w6
  have D_px0_g0 : w6.heap.size ≤ w6.heap.size := T_px0_w6
  clear F_a0_w6 F_pa0_w6 T_pa0_w6 F_r0_w6 T_r0_w6 F_x0_w6 T_x0_w6 F_px0_w6 T_px0_w6 B_w6
  have F_g0_w7 : In w7 w6.heap.size w7.heap.size g0 (fl L) := In.made O7x
  have T_g0_w7 : w7.heap.size ≤ w7.heap.size := Nat.le_refl _
  clear O7x
  clear hb7
  go_wp2_with fail
  refine (eqF_any _ _ L L _ _ F_g0_w7.rd F_r0_w7.rd (Worth.refl _) hL).mono ?_
  rintro e w8 ⟨rfl, q8, hw8⟩
  have hb8 : Below w7.heap.size w7 w8 := by rw [hw8]; exact below_drawn (Below.refl _ _) _
  clear hw8
  have F_a0_w8 : Rd w8 w.heap.size (.slice A0 a0.length c0) (fl a0) := F_a0_w7.below (hb8.mono B_w7.size)
  have F_pa0_w8 : In w8 w.heap.size w1.heap.size (.slice (some ⟨w.heap.size, 0, none⟩) 1 1) ([(.slice A0 a0.length c0)]) := F_pa0_w7.step hb8
  have T_pa0_w8 : w1.heap.size ≤ w8.heap.size := Nat.le_trans T_pa0_w7 hb8.size
  have F_r0_w8 : In w8 w3.heap.size w4.heap.size r0 (fl L) := F_r0_w7.step hb8
  have T_r0_w8 : w4.heap.size ≤ w8.heap.size := Nat.le_trans T_r0_w7 hb8.size
  have F_x0_w8 : In w8 w4.heap.size w5.heap.size (.slice (some ⟨g5, 0, none⟩) a0.length a0.length) (fl a0) := F_x0_w7.step hb8
  have T_x0_w8 : w5.heap.size ≤ w8.heap.size := Nat.le_trans T_x0_w7 hb8.size
  have F_px0_w8 : In w8 w5.heap.size w6.heap.size (.slice (some ⟨w5.heap.size, 0, none⟩) 1 1) ([(.slice (some ⟨g5, 0, none⟩) a0.length a0.length)]) := F_px0_w7.step hb8
  have T_px0_w8 : w6.heap.size ≤ w8.heap.size := Nat.le_trans T_px0_w7 hb8.size
  have F_g0_w8 : In w8 w6.heap.size w7.heap.size g0 (fl L) := F_g0_w7.step hb8
  have T_g0_w8 : w7.heap.size ≤ w8.heap.size := Nat.le_trans T_g0_w7 hb8.size
  have B_w8 : Below w.heap.size w w8 := B_w7.trans (hb8.mono B_w7.size)
  clear F_a0_w7 F_pa0_w7 T_pa0_w7 F_r0_w7 T_r0_w7 F_x0_w7 T_x0_w7 F_px0_w7 T_px0_w7 F_g0_w7 T_g0_w7 B_w7
  clear hb8
  obtain ⟨_, Z_pa0_w8, c152, _⟩ := F_pa0_w8.1.cells' (by decide)
  have Q_pa0_w8 : w8.cell? ⟨w.heap.size, 0, none⟩ = some (.slice A0 a0.length c0) := c152 0 _ rfl
  clear c152
  obtain ⟨_, Z_px0_w8, c155, _⟩ := F_px0_w8.1.cells' (by decide)
  have Q_px0_w8 : w8.cell? ⟨w5.heap.size, 0, none⟩ = some (.slice (some ⟨g5, 0, none⟩) a0.length a0.length) := c155 0 _ rfl
  clear c155
  have E_a0_w8 : Rd w8 w8.heap.size (.slice A0 a0.length c0) (fl a0) := (F_a0_w8.more B_w8.size)
  have E_x0_w8 : Rd w8 w8.heap.size (.slice (some ⟨g5, 0, none⟩) a0.length a0.length) (fl a0) := F_x0_w8.rd
  go_wp2_with fail
  go_region_held3 (fun w' => w'.cell? ⟨w.heap.size, 0, none⟩ = some (.slice A0 a0.length c0) ∧ w'.cell? ⟨w5.heap.size, 0, none⟩ = some (.slice (some ⟨g5, 0, none⟩) a0.length a0.length)) (first | exact ⟨Q_pa0_w8, Q_px0_w8⟩ | exact ⟨Q_pa0_w9, Q_px0_w9⟩ | exact ⟨Q_pa0_w10, Q_px0_w10⟩) ((first | (go_at_call 24; refine (toPair_any (.slice A0 a0.length c0) a0 _ ?_ hm0).mono ?_; exact E_a0_w8; rintro e w9 ⟨g9, rfl, P9, hb9⟩; replace hb9 : Below w8.heap.size w8 w9 := below_draw1 hb9; replace P9 : Own w9 w8.heap.size (.slice (some ⟨g9, 0, none⟩) a0.length a0.length) (fl a0) := P9; have E_a0_w9 := E_a0_w8.step hb9; have E_x0_w9 := E_x0_w8.step hb9; have Q_pa0_w9 : w9.cell? ⟨w.heap.size, 0, none⟩ = some (.slice A0 a0.length c0) := (hb9.cell (p := ⟨w.heap.size, 0, none⟩) Z_pa0_w8).trans Q_pa0_w8; have Z_pa0_w9 := Nat.lt_of_lt_of_le Z_pa0_w8 hb9.size; have Q_px0_w9 : w9.cell? ⟨w5.heap.size, 0, none⟩ = some (.slice (some ⟨g5, 0, none⟩) a0.length a0.length) := (hb9.cell (p := ⟨w5.heap.size, 0, none⟩) Z_px0_w8).trans Q_px0_w8; have Z_px0_w9 := Nat.lt_of_lt_of_le Z_px0_w8 hb9.size; have E_d0_w9 := P9.rd) | (go_at_call 17; refine (eqPair_any _ _ a0 a0 _ ?_ ?_ (Worth.refl _) hm0).mono ?_; exact E_x0_w9; exact E_d0_w9; rintro e w10 ⟨rfl, hb10⟩; have E_a0_w10 := E_a0_w9.step hb10; have E_x0_w10 := E_x0_w9.step hb10; have E_d0_w10 := E_d0_w9.step hb10; have Q_pa0_w10 : w10.cell? ⟨w.heap.size, 0, none⟩ = some (.slice A0 a0.length c0) := (hb10.cell (p := ⟨w.heap.size, 0, none⟩) Z_pa0_w9).trans Q_pa0_w9; have Z_pa0_w10 := Nat.lt_of_lt_of_le Z_pa0_w9 hb10.size; have Q_px0_w10 : w10.cell? ⟨w5.heap.size, 0, none⟩ = some (.slice (some ⟨g5, 0, none⟩) a0.length a0.length) := (hb10.cell (p := ⟨w5.heap.size, 0, none⟩) Z_px0_w9).trans Q_px0_w9; have Z_px0_w10 := Nat.lt_of_lt_of_le Z_px0_w9 hb10.size)))
  have hc11 : Below w8.heap.size w8 w10 := (hb9.trans (hb10.mono (by have := hb9.size; omega)))
  have F_a0_w10 : Rd w10 w.heap.size (.slice A0 a0.length c0) (fl a0) := F_a0_w8.below (hc11.mono B_w8.size)
  have F_pa0_w10 : In w10 w.heap.size w1.heap.size (.slice (some ⟨w.heap.size, 0, none⟩) 1 1) ([(.slice A0 a0.length c0)]) := F_pa0_w8.step hc11
  have T_pa0_w10 : w1.heap.size ≤ w10.heap.size := Nat.le_trans T_pa0_w8 hc11.size
  have F_r0_w10 : In w10 w3.heap.size w4.heap.size r0 (fl L) := F_r0_w8.step hc11
  have T_r0_w10 : w4.heap.size ≤ w10.heap.size := Nat.le_trans T_r0_w8 hc11.size
  have F_x0_w10 : In w10 w4.heap.size w5.heap.size (.slice (some ⟨g5, 0, none⟩) a0.length a0.length) (fl a0) := F_x0_w8.step hc11
  have T_x0_w10 : w5.heap.size ≤ w10.heap.size := Nat.le_trans T_x0_w8 hc11.size
  have F_px0_w10 : In w10 w5.heap.size w6.heap.size (.slice (some ⟨w5.heap.size, 0, none⟩) 1 1) ([(.slice (some ⟨g5, 0, none⟩) a0.length a0.length)]) := F_px0_w8.step hc11
  have T_px0_w10 : w6.heap.size ≤ w10.heap.size := Nat.le_trans T_px0_w8 hc11.size
  have F_g0_w10 : In w10 w6.heap.size w7.heap.size g0 (fl L) := F_g0_w8.step hc11
  have T_g0_w10 : w7.heap.size ≤ w10.heap.size := Nat.le_trans T_g0_w8 hc11.size
  have B_w10 : Below w.heap.size w w10 := B_w8.trans (hc11.mono B_w8.size)
  clear F_a0_w8 F_pa0_w8 T_pa0_w8 F_r0_w8 T_r0_w8 F_x0_w8 T_x0_w8 F_px0_w8 T_px0_w8 F_g0_w8 T_g0_w8 B_w8
  clear hc11
  obtain ⟨_, Z_px0_w10, c177, _⟩ := F_px0_w10.1.cells' (by decide)
  have Q_px0_w10 : w10.cell? ⟨w5.heap.size, 0, none⟩ = some (.slice (some ⟨g5, 0, none⟩) a0.length a0.length) := c177 0 _ rfl
  clear c177
  go_wp2_with fail
  refine (markP_any _ a0 _ _ _ F_x0_w10.1 hm0 (by omega) (by omega)).mono ?_
  rintro e w13 ⟨rfl, w12, hb12, hw13⟩
  clear Z_px0_w10 Q_px0_w10
  have F_a0_w12 : Rd w12 w.heap.size (.slice A0 a0.length c0) (fl a0) := F_a0_w10.below (hb12.mono B_w10.size)
  have F_pa0_w12 : In w12 w.heap.size w1.heap.size (.slice (some ⟨w.heap.size, 0, none⟩) 1 1) ([(.slice A0 a0.length c0)]) := F_pa0_w10.step hb12
  have T_pa0_w12 : w1.heap.size ≤ w12.heap.size := Nat.le_trans T_pa0_w10 hb12.size
  have F_r0_w12 : In w12 w3.heap.size w4.heap.size r0 (fl L) := F_r0_w10.step hb12
  have T_r0_w12 : w4.heap.size ≤ w12.heap.size := Nat.le_trans T_r0_w10 hb12.size
  have F_x0_w12 : In w12 w4.heap.size w5.heap.size (.slice (some ⟨g5, 0, none⟩) a0.length a0.length) (fl a0) := F_x0_w10.step hb12
  have T_x0_w12 : w5.heap.size ≤ w12.heap.size := Nat.le_trans T_x0_w10 hb12.size
  have F_px0_w12 : In w12 w5.heap.size w6.heap.size (.slice (some ⟨w5.heap.size, 0, none⟩) 1 1) ([(.slice (some ⟨g5, 0, none⟩) a0.length a0.length)]) := F_px0_w10.step hb12
  have T_px0_w12 : w6.heap.size ≤ w12.heap.size := Nat.le_trans T_px0_w10 hb12.size
  have F_g0_w12 : In w12 w6.heap.size w7.heap.size g0 (fl L) := F_g0_w10.step hb12
  have T_g0_w12 : w7.heap.size ≤ w12.heap.size := Nat.le_trans T_g0_w10 hb12.size
  have B_w12 : Below w.heap.size w w12 := B_w10.trans (hb12.mono B_w10.size)
  clear F_a0_w10 F_pa0_w10 T_pa0_w10 F_r0_w10 T_r0_w10 F_x0_w10 T_x0_w10 F_px0_w10 T_px0_w10 F_g0_w10 T_g0_w10 B_w10
  clear hb12
  have ht13 : Tw w4.heap.size w5.heap.size w12 w13 := by rw [hw13]; exact over_tw F_x0_w12.1 F_x0_w12.2 _
  have NF13 : In w13 w4.heap.size w5.heap.size (.slice (some ⟨g5, 0, none⟩) a0.length a0.length) ((List.range a0.length).map (mkF (1))) := by rw [hw13]; have := F_x0_w12.over (mkF (1)); rw [fl_len] at this; exact this
  clear hw13
  have F_a0_w13 : Rd w13 w.heap.size (.slice A0 a0.length c0) (fl a0) := F_a0_w12.tw ht13 S_x0 B_w12.size
  have F_pa0_w13 : In w13 w.heap.size w1.heap.size (.slice (some ⟨w.heap.size, 0, none⟩) 1 1) ([(.slice A0 a0.length c0)]) := F_pa0_w12.tw ht13 (.inl D_pa0_x0)
  have T_pa0_w13 : w1.heap.size ≤ w13.heap.size := Nat.le_trans T_pa0_w12 ht13.size
  have F_r0_w13 : In w13 w3.heap.size w4.heap.size r0 (fl L) := F_r0_w12.tw ht13 (.inl D_r0_x0)
  have T_r0_w13 : w4.heap.size ≤ w13.heap.size := Nat.le_trans T_r0_w12 ht13.size
  have F_x0_w13 : In w13 w4.heap.size w5.heap.size (.slice (some ⟨g5, 0, none⟩) a0.length a0.length) ((List.range a0.length).map (mkF (1))) := NF13
  have T_x0_w13 : w5.heap.size ≤ w13.heap.size := Nat.le_trans T_x0_w12 ht13.size
  have F_px0_w13 : In w13 w5.heap.size w6.heap.size (.slice (some ⟨w5.heap.size, 0, none⟩) 1 1) ([(.slice (some ⟨g5, 0, none⟩) a0.length a0.length)]) := F_px0_w12.tw ht13 (.inr D_x0_px0)
  have T_px0_w13 : w6.heap.size ≤ w13.heap.size := Nat.le_trans T_px0_w12 ht13.size
  have F_g0_w13 : In w13 w6.heap.size w7.heap.size g0 (fl L) := F_g0_w12.tw ht13 (.inr D_x0_g0)
  have T_g0_w13 : w7.heap.size ≤ w13.heap.size := Nat.le_trans T_g0_w12 ht13.size
  have B_w13 : Below w.heap.size w w13 := B_w12.trans (ht13.below S_x0 B_w12.size)
  clear F_a0_w12 F_pa0_w12 T_pa0_w12 F_r0_w12 T_r0_w12 F_x0_w12 T_x0_w12 F_px0_w12 T_px0_w12 F_g0_w12 T_g0_w12 B_w12
  clear ht13 NF13
  go_wp2_with fail
  refine (eqF_any _ _ L L _ _ F_g0_w13.rd F_r0_w13.rd (Worth.refl _) hL).mono ?_
  rintro e w14 ⟨rfl, q14, hw14⟩
  have hb14 : Below w13.heap.size w13 w14 := by rw [hw14]; exact below_drawn (Below.refl _ _) _
  clear hw14
  have F_a0_w14 : Rd w14 w.heap.size (.slice A0 a0.length c0) (fl a0) := F_a0_w13.below (hb14.mono B_w13.size)
  have F_pa0_w14 : In w14 w.heap.size w1.heap.size (.slice (some ⟨w.heap.size, 0, none⟩) 1 1) ([(.slice A0 a0.length c0)]) := F_pa0_w13.step hb14
  have T_pa0_w14 : w1.heap.size ≤ w14.heap.size := Nat.le_trans T_pa0_w13 hb14.size
  have F_r0_w14 : In w14 w3.heap.size w4.heap.size r0 (fl L) := F_r0_w13.step hb14
  have T_r0_w14 : w4.heap.size ≤ w14.heap.size := Nat.le_trans T_r0_w13 hb14.size
  have F_x0_w14 : In w14 w4.heap.size w5.heap.size (.slice (some ⟨g5, 0, none⟩) a0.length a0.length) ((List.range a0.length).map (mkF (1))) := F_x0_w13.step hb14
  have T_x0_w14 : w5.heap.size ≤ w14.heap.size := Nat.le_trans T_x0_w13 hb14.size
  have F_px0_w14 : In w14 w5.heap.size w6.heap.size (.slice (some ⟨w5.heap.size, 0, none⟩) 1 1) ([(.slice (some ⟨g5, 0, none⟩) a0.length a0.length)]) := F_px0_w13.step hb14
  have T_px0_w14 : w6.heap.size ≤ w14.heap.size := Nat.le_trans T_px0_w13 hb14.size
  have F_g0_w14 : In w14 w6.heap.size w7.heap.size g0 (fl L) := F_g0_w13.step hb14
  have T_g0_w14 : w7.heap.size ≤ w14.heap.size := Nat.le_trans T_g0_w13 hb14.size
  have B_w14 : Below w.heap.size w w14 := B_w13.trans (hb14.mono B_w13.size)
  clear F_a0_w13 F_pa0_w13 T_pa0_w13 F_r0_w13 T_r0_w13 F_x0_w13 T_x0_w13 F_px0_w13 T_px0_w13 F_g0_w13 T_g0_w13 B_w13
  clear hb14
  clear F_x0_w14 T_x0_w14 F_px0_w14 T_px0_w14
  go_wp2_with fail
  refine (markF_any _ L _ _ _ F_g0_w14.1 hL (by omega) (by omega)).mono ?_
  rintro e w15 ⟨rfl, hw15⟩
  have ht15 : Tw w6.heap.size w7.heap.size w14 w15 := by rw [hw15]; exact over_tw F_g0_w14.1 F_g0_w14.2 _
  have NF15 : In w15 w6.heap.size w7.heap.size g0 ((List.range L.length).map (mkF (1))) := by rw [hw15]; have := F_g0_w14.over (mkF (1)); rw [fl_len] at this; exact this
  clear hw15
  have F_a0_w15 : Rd w15 w.heap.size (.slice A0 a0.length c0) (fl a0) := F_a0_w14.tw ht15 S_g0 B_w14.size
  have F_pa0_w15 : In w15 w.heap.size w1.heap.size (.slice (some ⟨w.heap.size, 0, none⟩) 1 1) ([(.slice A0 a0.length c0)]) := F_pa0_w14.tw ht15 (.inl D_pa0_g0)
  have T_pa0_w15 : w1.heap.size ≤ w15.heap.size := Nat.le_trans T_pa0_w14 ht15.size
  have F_r0_w15 : In w15 w3.heap.size w4.heap.size r0 (fl L) := F_r0_w14.tw ht15 (.inl D_r0_g0)
  have T_r0_w15 : w4.heap.size ≤ w15.heap.size := Nat.le_trans T_r0_w14 ht15.size
  have F_g0_w15 : In w15 w6.heap.size w7.heap.size g0 ((List.range L.length).map (mkF (1))) := NF15
  have T_g0_w15 : w7.heap.size ≤ w15.heap.size := Nat.le_trans T_g0_w14 ht15.size
  have B_w15 : Below w.heap.size w w15 := B_w14.trans (ht15.below S_g0 B_w14.size)
  clear F_a0_w14 F_pa0_w14 T_pa0_w14 F_r0_w14 T_r0_w14 F_g0_w14 T_g0_w14 B_w14
  clear ht15 NF15
  go_wp2_with fail
  refine (heldF_any _ L.length _ _ _ F_g0_w15.rd hL (by omega) (by omega)).mono ?_
  rintro e w' ⟨rfl, rfl⟩
  obtain ⟨_, Z_pa0_w15, c254, _⟩ := F_pa0_w15.1.cells' (by decide)
  have Q_pa0_w15 : w15.cell? ⟨w.heap.size, 0, none⟩ = some (.slice A0 a0.length c0) := c254 0 _ rfl
  clear c254
  go_wp2_with fail
  refine (toPair_any _ a0 _ (F_a0_w15.more B_w15.size) hm0).mono ?_
  rintro e w16 ⟨g16, rfl, O16, hb16⟩
  have F_a0_w16 : Rd w16 w.heap.size (.slice A0 a0.length c0) (fl a0) := F_a0_w15.below (hb16.mono B_w15.size)
  have F_pa0_w16 : In w16 w.heap.size w1.heap.size (.slice (some ⟨w.heap.size, 0, none⟩) 1 1) ([(.slice A0 a0.length c0)]) := F_pa0_w15.step hb16
  have T_pa0_w16 : w1.heap.size ≤ w16.heap.size := Nat.le_trans T_pa0_w15 hb16.size
  have F_r0_w16 : In w16 w3.heap.size w4.heap.size r0 (fl L) := F_r0_w15.step hb16
  have T_r0_w16 : w4.heap.size ≤ w16.heap.size := Nat.le_trans T_r0_w15 hb16.size
  have F_g0_w16 : In w16 w6.heap.size w7.heap.size g0 ((List.range L.length).map (mkF (1))) := F_g0_w15.step hb16
  have T_g0_w16 : w7.heap.size ≤ w16.heap.size := Nat.le_trans T_g0_w15 hb16.size
  have B_w16 : Below w.heap.size w w16 := B_w15.trans (hb16.mono B_w15.size)
  have S_y0 : w.heap.size ≤ w15.heap.size := B_w15.size
  have D_pa0_y0 : w1.heap.size ≤ w15.heap.size := T_pa0_w15
  have D_r0_y0 : w4.heap.size ≤ w15.heap.size := T_r0_w15
  have D_g0_y0 : w7.heap.size ≤ w15.heap.size := T_g0_w15
  clear F_a0_w15 F_pa0_w15 T_pa0_w15 F_r0_w15 T_r0_w15 F_g0_w15 T_g0_w15 B_w15
  have F_y0_w16 : In w16 w15.heap.size w16.heap.size (.slice (some ⟨g16, 0, none⟩) a0.length a0.length) (fl a0) := In.made O16
  have T_y0_w16 : w16.heap.size ≤ w16.heap.size := Nat.le_refl _
  clear O16
  clear hb16
  clear Z_pa0_w15 Q_pa0_w15
  go_wp2_with fail
  refine (HI.out _ _ F_y0_w16.rd).mono ?_
  rintro e w17 ⟨h0, rfl, O17x, hb17⟩
  have F_a0_w17 : Rd w17 w.heap.size (.slice A0 a0.length c0) (fl a0) := F_a0_w16.below (hb17.mono B_w16.size)
  have F_pa0_w17 : In w17 w.heap.size w1.heap.size (.slice (some ⟨w.heap.size, 0, none⟩) 1 1) ([(.slice A0 a0.length c0)]) := F_pa0_w16.step hb17
  have T_pa0_w17 : w1.heap.size ≤ w17.heap.size := Nat.le_trans T_pa0_w16 hb17.size
  have F_r0_w17 : In w17 w3.heap.size w4.heap.size r0 (fl L) := F_r0_w16.step hb17
  have T_r0_w17 : w4.heap.size ≤ w17.heap.size := Nat.le_trans T_r0_w16 hb17.size
  have F_g0_w17 : In w17 w6.heap.size w7.heap.size g0 ((List.range L.length).map (mkF (1))) := F_g0_w16.step hb17
  have T_g0_w17 : w7.heap.size ≤ w17.heap.size := Nat.le_trans T_g0_w16 hb17.size
  have F_y0_w17 : In w17 w15.heap.size w16.heap.size (.slice (some ⟨g16, 0, none⟩) a0.length a0.length) (fl a0) := F_y0_w16.step hb17
  have T_y0_w17 : w16.heap.size ≤ w17.heap.size := Nat.le_trans T_y0_w16 hb17.size
  have B_w17 : Below w.heap.size w w17 := B_w16.trans (hb17.mono B_w16.size)
  have S_h0 : w.heap.size ≤ w16.heap.size := B_w16.size
  have D_pa0_h0 : w1.heap.size ≤ w16.heap.size := T_pa0_w16
  have D_r0_h0 : w4.heap.size ≤ w16.heap.size := T_r0_w16
  have D_g0_h0 : w7.heap.size ≤ w16.heap.size := T_g0_w16
  have D_y0_h0 : w16.heap.size ≤ w16.heap.size := T_y0_w16
  clear F_a0_w16 F_pa0_w16 T_pa0_w16 F_r0_w16 T_r0_w16 F_g0_w16 T_g0_w16 F_y0_w16 T_y0_w16 B_w16
  have F_h0_w17 : In w17 w16.heap.size w17.heap.size h0 (fl L) := In.made O17x
  have T_h0_w17 : w17.heap.size ≤ w17.heap.size := Nat.le_refl _
  clear O17x
  clear hb17
  clear F_y0_w17 T_y0_w17
  go_wp2_with fail
  refine (eqF_any _ _ L L _ _ F_h0_w17.rd F_r0_w17.rd (Worth.refl _) hL).mono ?_
  rintro e w18 ⟨rfl, q18, hw18⟩
  have hb18 : Below w17.heap.size w17 w18 := by rw [hw18]; exact below_drawn (Below.refl _ _) _
  clear hw18
  have F_a0_w18 : Rd w18 w.heap.size (.slice A0 a0.length c0) (fl a0) := F_a0_w17.below (hb18.mono B_w17.size)
  have F_pa0_w18 : In w18 w.heap.size w1.heap.size (.slice (some ⟨w.heap.size, 0, none⟩) 1 1) ([(.slice A0 a0.length c0)]) := F_pa0_w17.step hb18
  have T_pa0_w18 : w1.heap.size ≤ w18.heap.size := Nat.le_trans T_pa0_w17 hb18.size
  have F_r0_w18 : In w18 w3.heap.size w4.heap.size r0 (fl L) := F_r0_w17.step hb18
  have T_r0_w18 : w4.heap.size ≤ w18.heap.size := Nat.le_trans T_r0_w17 hb18.size
  have F_g0_w18 : In w18 w6.heap.size w7.heap.size g0 ((List.range L.length).map (mkF (1))) := F_g0_w17.step hb18
  have T_g0_w18 : w7.heap.size ≤ w18.heap.size := Nat.le_trans T_g0_w17 hb18.size
  have F_h0_w18 : In w18 w16.heap.size w17.heap.size h0 (fl L) := F_h0_w17.step hb18
  have T_h0_w18 : w17.heap.size ≤ w18.heap.size := Nat.le_trans T_h0_w17 hb18.size
  have B_w18 : Below w.heap.size w w18 := B_w17.trans (hb18.mono B_w17.size)
  clear F_a0_w17 F_pa0_w17 T_pa0_w17 F_r0_w17 T_r0_w17 F_g0_w17 T_g0_w17 F_h0_w17 T_h0_w17 B_w17
  clear hb18
  go_wp2_with fail
  refine (heldF_any _ L.length _ _ _ F_g0_w18.rd hL (by omega) (by omega)).mono ?_
  rintro e w' ⟨rfl, rfl⟩
  go_wp2_with fail
  go_ret
  exact ⟨rfl, B_w18⟩

namespace fnExactHighOf
open Go.ChangeShapes Go.WideShapes Go.ChangeAt Go.RowKit
open Go.ChangeMaps (open_string)
set_option linter.unusedVariables false
theorem own : ownKnob Try.prog.godebug = none := by kernel_rfl
theorem laidOut : laidOutB Try.prog = true := by kernel_rfl
set_option maxRecDepth 100000 in
theorem lifted (os : Os) (started : os.Started) (H : Type) (enc : TypeId × Value → H) :
    ReturnsInHanded {} Try.checked os 7 .any (Rows.fnExactHighOfSpec.pre6 enc Try.prog Try.f7 Rows.fnExactHighOfRow.domain false) (Rows.fnExactHighOfSpec.post enc Try.prog Try.f7 false true false false) := by
  refine returnsInHanded_of_change (C := Try.checked) own started (by kernel_rfl) Try.func7
    (ChangeSpec.witness6 (enc := enc) (C := Try.checked) false ⟨#[], #[.agg #[.slice none 0 0]], []⟩ 8 (by kernel_rfl) (by kernel_rfl) (by kernel_rfl) (by kernel_rfl)) ?_
  intro W base args ds gs before hval0 hW hcnd _
  have hval : ∀ (j : Nat) t v, Try.f7.params[j]? = some t → args[j]? = some v → Value.okWide Try.prog W .any base t v := hval0
  have hW' := hW
  have hlt0 := hW.lt
  obtain ⟨p, q, hA0, hV, rfl, hfz, hnd⟩ := hW
  have hA : DataW.TrodAll enc Try.prog W 0 (fun _ => true) true Try.f7.params.toList args.toList ds p := hA0
  have hAk := hA
  have hltp : ∀ x ∈ p, x.block < W.heap.size := fun x hx => hlt0 x (List.mem_append_left _ hx)
  have hread : ∀ t ∈ Try.f7.params.toList, Try.prog.readableRec t = true ∧ t < Try.prog.types.size := by
    rw [Try.params7]
    intro t ht
    simp only [List.mem_cons, List.not_mem_nil, or_false] at ht
    rcases ht with rfl <;> exact ⟨by kernel_rfl, of_decide_eq_true (by kernel_rfl)⟩
  rw [Try.params7] at hA hval
  obtain ⟨v0, vs0, d0, ds0, p0, q0, hargs, rfl, rfl, h0, r0⟩ := trodAll_cons hA
  obtain ⟨rfl, rfl, rfl⟩ := trodAll_nil r0
  obtain rfl : args = #[v0] := by cases args; simp_all
  obtain ⟨rfl, rfl⟩ := trodVars_none hV
  obtain ⟨b0, a0, rfl, g0, w0⟩ := open_pair Try.underlying29 (by kernel_rfl) (by kernel_rfl) Try.underlying22 Try.underlying62 (by kernel_rfl) (hval 0 29 v0 rfl rfl) h0 (fun x hx => hltp x (by simp [hx]))
  clear hA0 hval0
  refine (walk W b0 a0 g0 w0).mono fun e W' ⟨he, hg⟩ => ?_
  subst he
  exact ⟨_, rfl, post_grown (pv := []) hW' hg (fun _ _ _ => (trodAll_cons_mk (shut_bool Try.underlying4 _) trodAll_mk0)) (trodAll_low laidOut hg _ _ _ _ hread hltp hAk) rfl rfl⟩

theorem over : Rows.fnExactHighOfRow.holds Try.pinned (OpenSpec.ofChange Rows.fnExactHighOfSpec) :=
  OpenClaim.holds_of_wide 7 Try.f7 rfl rfl rfl rfl rfl rfl rfl ⟨rfl, rfl, rfl, rfl, rfl⟩ rfl rfl rfl rfl rfl (by kernel_rfl) Try.func7 (by kernel_rfl)
    (of_decide_eq_true (by kernel_rfl)) (by unfold Func.isWrapper; first | (rw [if_pos (by decide +kernel)]; kernel_rfl) | (rw [if_neg (by decide +kernel)]; exact ⟨rfl, rfl⟩))
    (fun os started H enc _ => lifted os started H enc)

theorem proved : Rows.FnExactHighOfSaid := over
end fnExactHighOf
end Go.Proofs.Ytfhngajodfjkeaa
