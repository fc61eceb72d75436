/-
  At any list and pair, SplitRing answers as its model does, in memory of its own, and leaves both as they were.
-/
import Derived.Test.YtfhngajodfjkeaaRows
import Derived.ProofKit
import Derived.OpenShut
import Derived.WalkLawsBesides
import Derived.KernelRfl
import Derived.Test.YtfhngajodfjkeaaSrS
import Derived.Test.YtfhngajodfjkeaaMkF
namespace Go.Proofs.Ytfhngajodfjkeaa
open Go.RowKit Fl
set_option linter.unusedVariables false
set_option maxRecDepth 100000 in
set_option maxHeartbeats 8000000 in
theorem fnExactSplitRing.walk (w : World) (v0 : Value) (a0 : List Nat) (h0 : Rd w w.heap.size v0 (a0.map (.float .f32))) (w0 : ∀ x ∈ a0, x < 2 ^ 32) (v1 : Value) (a1 : List Nat) (h1 : Rd w w.heap.size v1 (a1.map (.float .f32))) (w1 : ∀ x ∈ a1, x < 2 ^ 32) :
    Calls Try.prog 8 #[v0, .agg #[v1]] w fun e w' => e = .returned (.bool true) ∧ Below w.heap.size w w' := by
  have hle0 := h0.le
  rw [show (a0.map (.float .f32)) = fl a0 from rfl, fl_len] at hle0
  unfold maxLen at hle0
  replace h0 : Rd w w.heap.size v0 (fl a0) := h0
  by_cases hbig0 : 1048576 < a0.length
  · obtain ⟨A0, c0, hv0, _, _, _⟩ := id h0
    rw [fl_len] at hv0
    subst hv0
    obtain ⟨A1, c1, hv1, _, _, _⟩ := id h1
    rw [List.length_map] at hv1
    subst hv1
    go_enter Try.func8, Try.ntmps8
    go_wp2_with fail
    go_ret
    exact ⟨rfl, (Below.refl _ _).alloc (Nat.le_refl _) _⟩
  have hm0 : a0.length ≤ 1048576 := by omega
  clear hbig0
  obtain ⟨A0, c0, hv0, hc01, hc02, hcell0⟩ := id h0
  rw [fl_len] at hv0
  clear hcell0 hc01 hc02
  subst hv0
  have HX0 := Lib.hid w0
  clear w0
  have hle1 := h1.le
  rw [show (a1.map (.float .f32)) = fl a1 from rfl, fl_len] at hle1
  unfold maxLen at hle1
  replace h1 : Rd w w.heap.size v1 (fl a1) := h1
  obtain ⟨A1, c1, hv1, hc11, hc12, hcell1⟩ := id h1
  rw [fl_len] at hv1
  clear hcell1 hc11 hc12
  subst hv1
  have HX1 := Lib.hid w1
  clear w1
  have hsf : ∀ (a : Addr) (x : Nat) (w : World), (store a (.float .f32 x)).run Try.prog w = stored Try.prog w a (.float .f32 x) .plain := fun a x w => run_store _ w a _ _ rfl
  obtain ⟨L, hLe⟩ : ∃ L, L = srL a0 a1 := ⟨_, rfl⟩
  have hL : L.length ≤ 1048576 := by rw [hLe]; exact srL_len a0 a1 hm0
  obtain ⟨M, hMe⟩ : ∃ L, L = srH a0 a1 := ⟨_, rfl⟩
  have hM : M.length ≤ 1048576 := by rw [hMe]; exact srH_len a0 a1 hm0
  obtain ⟨b, hbe⟩ : ∃ b, b = srB a0 a1 := ⟨_, rfl⟩
  have HS0 := Lib.hid (fun (hm0 : a0.length ≤ 1048576) (hm1 : a1.length ≤ 1048576) (w' : World) (u0 : Value) (u1 : Value) (hr0 : Rd w' w'.heap.size u0 (fl a0)) (hr1 : Rd w' w'.heap.size u1 (fl a1)) => (show Calls Try.prog 33 #[u0, .agg #[u1]] w' (RetTwo L M b w') by rw [hLe, hMe, hbe]; exact srS_any u0 u1 a0 a1 w' hr0 hr1 hm0 hm1 HX0.out HX1.out))
  have HI0 := Lib.hid (fun (hm0 : a0.length ≤ 1048576) (hm1 : a1.length ≤ 1048576) (w' : World) (u0 : Value) (u1 : Value) (hr0 : Rd w' w'.heap.size u0 (fl a0)) (hr1 : Rd w' w'.heap.size u1 (fl a1)) => (show Calls Try.prog 35 #[u0, .agg #[u1]] w' (RetTwo L M b w') by rw [hLe, hMe, hbe]; exact srI_any u0 u1 a0 a1 w' hr0 hr1 hm0 hm1 HX0.out HX1.out))
  clear hLe hMe hbe
  go_enter Try.func8, Try.ntmps8
  have F_a0_w : Rd w w.heap.size (.slice A0 a0.length c0) (fl a0) := h0
  have F_a1_w : Rd w w.heap.size (.slice A1 a1.length c1) (fl a1) := h1
  have B_w : Below w.heap.size w w := Below.refl _ _
  clear h0 h1
  go_wp2_with fail
  have hb1 : Below w.heap.size w (w.alloc (.cells #[(.slice A1 a1.length c1)] 29)) := (Below.refl _ _).alloc (Nat.le_refl _) _
  have O1 := own_box1 w ((.slice A1 a1.length c1)) 29
  generalize w.alloc (.cells #[(.slice A1 a1.length c1)] 29) = w1 at *
  have F_a0_w1 : Rd w1 w.heap.size (.slice A0 a0.length c0) (fl a0) := F_a0_w.below (hb1.mono B_w.size)
  have F_a1_w1 : Rd w1 w.heap.size (.slice A1 a1.length c1) (fl a1) := F_a1_w.below (hb1.mono B_w.size)
  have B_w1 : Below w.heap.size w w1 := B_w.trans (hb1.mono B_w.size)
  have S_pa1 : w.heap.size ≤ w.heap.size := B_w.size
  clear F_a0_w F_a1_w B_w
  have F_pa1_w1 : In w1 w.heap.size w1.heap.size (.slice (some ⟨w.heap.size, 0, none⟩) 1 1) ([(.slice A1 a1.length c1)]) := In.made O1
  have T_pa1_w1 : w1.heap.size ≤ w1.heap.size := Nat.le_refl _
  clear O1
  clear hb1
  refine (szPair_any _ a1 1048576 _ (F_a1_w1.more B_w1.size) (by omega) (by omega) hle1).mono ?_
  rintro e w2 ⟨rfl, hb2⟩
  have F_a0_w2 : Rd w2 w.heap.size (.slice A0 a0.length c0) (fl a0) := F_a0_w1.below (hb2.mono B_w1.size)
  have F_a1_w2 : Rd w2 w.heap.size (.slice A1 a1.length c1) (fl a1) := F_a1_w1.below (hb2.mono B_w1.size)
  have F_pa1_w2 : In w2 w.heap.size w1.heap.size (.slice (some ⟨w.heap.size, 0, none⟩) 1 1) ([(.slice A1 a1.length c1)]) := F_pa1_w1.step hb2
  have T_pa1_w2 : w1.heap.size ≤ w2.heap.size := Nat.le_trans T_pa1_w1 hb2.size
  have B_w2 : Below w.heap.size w w2 := B_w1.trans (hb2.mono B_w1.size)
  clear F_a0_w1 F_a1_w1 F_pa1_w1 T_pa1_w1 B_w1
  clear hb2
  by_cases hbig1 : (1048576 : Int) < a1.length
  · rw [if_pos hbig1]
    go_wp2_with fail
    go_ret
    exact ⟨rfl, B_w2⟩
  rw [if_neg hbig1]
  have hm1 : a1.length ≤ 1048576 := by omega
  have hl1 : 0 ≤ (1048576 : Int) - a1.length := by omega
  have HS := Lib.hid (HS0.out hm0 hm1)
  have HI := Lib.hid (HI0.out hm0 hm1)
  clear HS0 HI0
  clear hbig1
  obtain ⟨_, Z_pa1_w2, c36, _⟩ := F_pa1_w2.1.cells' (by decide)
  have Q_pa1_w2 : w2.cell? ⟨w.heap.size, 0, none⟩ = some (.slice A1 a1.length c1) := c36 0 _ rfl
  clear c36
  have E_a0_w2 : Rd w2 w2.heap.size (.slice A0 a0.length c0) (fl a0) := (F_a0_w2.more B_w2.size)
  have E_a1_w2 : Rd w2 w2.heap.size (.slice A1 a1.length c1) (fl a1) := (F_a1_w2.more B_w2.size)
  go_wp2_with fail
  go_region_held3 (fun w' => w'.cell? ⟨w.heap.size, 0, none⟩ = some (.slice A1 a1.length c1)) (first | exact Q_pa1_w2 | exact Q_pa1_w3 | exact Q_pa1_w4 | exact Q_pa1_w5) ((first | (go_at_call 34; refine (toFP_any (.slice A0 a0.length c0) a0 _ ?_ hm0).mono ?_; exact E_a0_w2; rintro e w3 ⟨g3, rfl, P3, hb3⟩; replace hb3 : Below w2.heap.size w2 w3 := below_draw1 hb3; replace P3 : Own w3 w2.heap.size (.slice (some ⟨g3, 0, none⟩) a0.length a0.length) (fl a0) := P3; have E_a0_w3 := E_a0_w2.step hb3; have E_a1_w3 := E_a1_w2.step hb3; have Q_pa1_w3 : w3.cell? ⟨w.heap.size, 0, none⟩ = some (.slice A1 a1.length c1) := (hb3.cell (p := ⟨w.heap.size, 0, none⟩) Z_pa1_w2).trans Q_pa1_w2; have Z_pa1_w3 := Nat.lt_of_lt_of_le Z_pa1_w2 hb3.size; have E_c0_w3 := P3.rd) | (go_at_call 24; refine (toPair_any (.slice A1 a1.length c1) a1 _ ?_ hm1).mono ?_; exact E_a1_w3; rintro e w4 ⟨g4, rfl, P4, hb4⟩; have E_a0_w4 := E_a0_w3.step hb4; have E_a1_w4 := E_a1_w3.step hb4; have E_c0_w4 := E_c0_w3.step hb4; have Q_pa1_w4 : w4.cell? ⟨w.heap.size, 0, none⟩ = some (.slice A1 a1.length c1) := (hb4.cell (p := ⟨w.heap.size, 0, none⟩) Z_pa1_w3).trans Q_pa1_w3; have Z_pa1_w4 := Nat.lt_of_lt_of_le Z_pa1_w3 hb4.size; have E_c1_w4 := P4.rd) | (go_at_call 33; refine (HS.out _ _ _ ?_ ?_).mono ?_; exact E_c0_w4; exact E_c1_w4; rintro e w5 ⟨r0, r1, l5a, k5a, l5b, k5b, rfl, O5a, O5b, la5, lb5, ka5, kb5, X5, hb5⟩; have E_a0_w5 := E_a0_w4.step hb5; have E_a1_w5 := E_a1_w4.step hb5; have E_c0_w5 := E_c0_w4.step hb5; have E_c1_w5 := E_c1_w4.step hb5; have Q_pa1_w5 : w5.cell? ⟨w.heap.size, 0, none⟩ = some (.slice A1 a1.length c1) := (hb5.cell (p := ⟨w.heap.size, 0, none⟩) Z_pa1_w4).trans Q_pa1_w4; have Z_pa1_w5 := Nat.lt_of_lt_of_le Z_pa1_w4 hb5.size)))
  have hc6 : Below w2.heap.size w2 w5 := ((hb3.trans (hb4.mono (by have := hb3.size; omega))).trans (hb5.mono (by have := hb3.size; have := hb4.size; omega)))
  have U5a : w2.heap.size ≤ l5a := by have := hb3.size; have := hb4.size; omega
  have U5b : w2.heap.size ≤ l5b := by have := hb3.size; have := hb4.size; omega
  have D_pa1_r0 : w1.heap.size ≤ l5a := Nat.le_trans T_pa1_w2 U5a
  have D_pa1_r1 : w1.heap.size ≤ l5b := Nat.le_trans T_pa1_w2 U5b
  have S_r0 : w.heap.size ≤ l5a := Nat.le_trans B_w2.size U5a
  have S_r1 : w.heap.size ≤ l5b := Nat.le_trans B_w2.size U5b
  have F_a0_w5 : Rd w5 w.heap.size (.slice A0 a0.length c0) (fl a0) := F_a0_w2.below (hc6.mono B_w2.size)
  have F_a1_w5 : Rd w5 w.heap.size (.slice A1 a1.length c1) (fl a1) := F_a1_w2.below (hc6.mono B_w2.size)
  have F_pa1_w5 : In w5 w.heap.size w1.heap.size (.slice (some ⟨w.heap.size, 0, none⟩) 1 1) ([(.slice A1 a1.length c1)]) := F_pa1_w2.step hc6
  have T_pa1_w5 : w1.heap.size ≤ w5.heap.size := Nat.le_trans T_pa1_w2 hc6.size
  have B_w5 : Below w.heap.size w w5 := B_w2.trans (hc6.mono B_w2.size)
  clear F_a0_w2 F_a1_w2 F_pa1_w2 T_pa1_w2 B_w2
  have F_r0_w5 : In w5 l5a k5a r0 (fl L) := O5a
  have T_r0_w5 : k5a ≤ w5.heap.size := ka5
  have F_r1_w5 : In w5 l5b k5b r1 (fl M) := O5b
  have T_r1_w5 : k5b ≤ w5.heap.size := kb5
  clear O5a O5b U5a U5b la5 lb5 ka5 kb5
  clear hc6
  go_wp2_with fail
  refine (toF_any _ a0 _ _ (F_a0_w5.more B_w5.size) (Nat.le_refl _) hm0).mono ?_
  rintro e w7 ⟨g7, rfl, P7, hb7⟩
  have O7 := Own.row P7
  clear P7
  have F_a0_w7 : Rd w7 w.heap.size (.slice A0 a0.length c0) (fl a0) := F_a0_w5.below (hb7.mono B_w5.size)
  have F_a1_w7 : Rd w7 w.heap.size (.slice A1 a1.length c1) (fl a1) := F_a1_w5.below (hb7.mono B_w5.size)
  have F_pa1_w7 : In w7 w.heap.size w1.heap.size (.slice (some ⟨w.heap.size, 0, none⟩) 1 1) ([(.slice A1 a1.length c1)]) := F_pa1_w5.step hb7
  have T_pa1_w7 : w1.heap.size ≤ w7.heap.size := Nat.le_trans T_pa1_w5 hb7.size
  have F_r0_w7 : In w7 l5a k5a r0 (fl L) := F_r0_w5.step hb7
  have T_r0_w7 : k5a ≤ w7.heap.size := Nat.le_trans T_r0_w5 hb7.size
  have F_r1_w7 : In w7 l5b k5b r1 (fl M) := F_r1_w5.step hb7
  have T_r1_w7 : k5b ≤ w7.heap.size := Nat.le_trans T_r1_w5 hb7.size
  have B_w7 : Below w.heap.size w w7 := B_w5.trans (hb7.mono B_w5.size)
  have S_x0 : w.heap.size ≤ w5.heap.size := B_w5.size
  have D_pa1_x0 : w1.heap.size ≤ w5.heap.size := T_pa1_w5
  have D_r0_x0 : k5a ≤ w5.heap.size := T_r0_w5
  have D_r1_x0 : k5b ≤ w5.heap.size := T_r1_w5
  clear F_a0_w5 F_a1_w5 F_pa1_w5 T_pa1_w5 F_r0_w5 T_r0_w5 F_r1_w5 T_r1_w5 B_w5
  have F_x0_w7 : In w7 w5.heap.size w7.heap.size (.slice (some ⟨g7, 0, none⟩) a0.length a0.length) (fl a0) := In.made O7
  have T_x0_w7 : w7.heap.size ≤ w7.heap.size := Nat.le_refl _
  clear O7
  clear hb7
  obtain ⟨_, Z_pa1_w7, c85, _⟩ := F_pa1_w7.1.cells' (by decide)
  have Q_pa1_w7 : w7.cell? ⟨w.heap.size, 0, none⟩ = some (.slice A1 a1.length c1) := c85 0 _ rfl
  clear c85
  go_wp2_with fail
  refine (toPair_any _ a1 _ (F_a1_w7.more B_w7.size) hm1).mono ?_
  rintro e w8 ⟨g8, rfl, O8, hb8⟩
  have F_a0_w8 : Rd w8 w.heap.size (.slice A0 a0.length c0) (fl a0) := F_a0_w7.below (hb8.mono B_w7.size)
  have F_a1_w8 : Rd w8 w.heap.size (.slice A1 a1.length c1) (fl a1) := F_a1_w7.below (hb8.mono B_w7.size)
  have F_pa1_w8 : In w8 w.heap.size w1.heap.size (.slice (some ⟨w.heap.size, 0, none⟩) 1 1) ([(.slice A1 a1.length c1)]) := F_pa1_w7.step hb8
  have T_pa1_w8 : w1.heap.size ≤ w8.heap.size := Nat.le_trans T_pa1_w7 hb8.size
  have F_r0_w8 : In w8 l5a k5a r0 (fl L) := F_r0_w7.step hb8
  have T_r0_w8 : k5a ≤ w8.heap.size := Nat.le_trans T_r0_w7 hb8.size
  have F_r1_w8 : In w8 l5b k5b r1 (fl M) := F_r1_w7.step hb8
  have T_r1_w8 : k5b ≤ w8.heap.size := Nat.le_trans T_r1_w7 hb8.size
  have F_x0_w8 : In w8 w5.heap.size w7.heap.size (.slice (some ⟨g7, 0, none⟩) a0.length a0.length) (fl a0) := F_x0_w7.step hb8
  have T_x0_w8 : w7.heap.size ≤ w8.heap.size := Nat.le_trans T_x0_w7 hb8.size
  have B_w8 : Below w.heap.size w w8 := B_w7.trans (hb8.mono B_w7.size)
  have S_x1 : w.heap.size ≤ w7.heap.size := B_w7.size
  have D_pa1_x1 : w1.heap.size ≤ w7.heap.size := T_pa1_w7
  have D_r0_x1 : k5a ≤ w7.heap.size := T_r0_w7
  have D_r1_x1 : k5b ≤ w7.heap.size := T_r1_w7
  have D_x0_x1 : w7.heap.size ≤ w7.heap.size := T_x0_w7
  clear F_a0_w7 F_a1_w7 F_pa1_w7 T_pa1_w7 F_r0_w7 T_r0_w7 F_r1_w7 T_r1_w7 F_x0_w7 T_x0_w7 B_w7
  have F_x1_w8 : In w8 w7.heap.size w8.heap.size (.slice (some ⟨g8, 0, none⟩) a1.length a1.length) (fl a1) := In.made O8
  have T_x1_w8 : w8.heap.size ≤ w8.heap.size := Nat.le_refl _
  clear O8
  clear hb8
  clear Z_pa1_w7 Q_pa1_w7
  go_wp2_with fail
  have hb9 : Below w8.heap.size w8 (w8.alloc (.cells #[(.slice (some ⟨g8, 0, none⟩) a1.length a1.length)] 24)) := (Below.refl _ _).alloc (Nat.le_refl _) _
  have O9 := own_box1 w8 ((.slice (some ⟨g8, 0, none⟩) a1.length a1.length)) 24
  generalize w8.alloc (.cells #[(.slice (some ⟨g8, 0, none⟩) a1.length a1.length)] 24) = w9 at *
  have F_a0_w9 : Rd w9 w.heap.size (.slice A0 a0.length c0) (fl a0) := F_a0_w8.below (hb9.mono B_w8.size)
  have F_a1_w9 : Rd w9 w.heap.size (.slice A1 a1.length c1) (fl a1) := F_a1_w8.below (hb9.mono B_w8.size)
  have F_pa1_w9 : In w9 w.heap.size w1.heap.size (.slice (some ⟨w.heap.size, 0, none⟩) 1 1) ([(.slice A1 a1.length c1)]) := F_pa1_w8.step hb9
  have T_pa1_w9 : w1.heap.size ≤ w9.heap.size := Nat.le_trans T_pa1_w8 hb9.size
  have F_r0_w9 : In w9 l5a k5a r0 (fl L) := F_r0_w8.step hb9
  have T_r0_w9 : k5a ≤ w9.heap.size := Nat.le_trans T_r0_w8 hb9.size
  have F_r1_w9 : In w9 l5b k5b r1 (fl M) := F_r1_w8.step hb9
  have T_r1_w9 : k5b ≤ w9.heap.size := Nat.le_trans T_r1_w8 hb9.size
  have F_x0_w9 : In w9 w5.heap.size w7.heap.size (.slice (some ⟨g7, 0, none⟩) a0.length a0.length) (fl a0) := F_x0_w8.step hb9
  have T_x0_w9 : w7.heap.size ≤ w9.heap.size := Nat.le_trans T_x0_w8 hb9.size
  have F_x1_w9 : In w9 w7.heap.size w8.heap.size (.slice (some ⟨g8, 0, none⟩) a1.length a1.length) (fl a1) := F_x1_w8.step hb9
  have T_x1_w9 : w8.heap.size ≤ w9.heap.size := Nat.le_trans T_x1_w8 hb9.size
  have B_w9 : Below w.heap.size w w9 := B_w8.trans (hb9.mono B_w8.size)
  have S_px1 : w.heap.size ≤ w8.heap.size := B_w8.size
  have D_pa1_px1 : w1.heap.size ≤ w8.heap.size := T_pa1_w8
  have D_r0_px1 : k5a ≤ w8.heap.size := T_r0_w8
  have D_r1_px1 : k5b ≤ w8.heap.size := T_r1_w8
  have D_x0_px1 : w7.heap.size ≤ w8.heap.size := T_x0_w8
  have D_x1_px1 : w8.heap.size ≤ w8.heap.size := T_x1_w8
  clear F_a0_w8 F_a1_w8 F_pa1_w8 T_pa1_w8 F_r0_w8 T_r0_w8 F_r1_w8 T_r1_w8 F_x0_w8 T_x0_w8 F_x1_w8 T_x1_w8 B_w8
  have F_px1_w9 : In w9 w8.heap.size w9.heap.size (.slice (some ⟨w8.heap.size, 0, none⟩) 1 1) ([(.slice (some ⟨g8, 0, none⟩) a1.length a1.length)]) := In.made O9
  have T_px1_w9 : w9.heap.size ≤ w9.heap.size := Nat.le_refl _
  clear O9
  clear hb9
  refine (HI.out _ _ _ F_x0_w9.rd F_x1_w9.rd).mono ?_
  rintro e w10 ⟨g0, g1, l10a, k10a, l10b, k10b, rfl, O10a, O10b, la10, lb10, ka10, kb10, X10, hb10⟩
  have U10a : w9.heap.size ≤ l10a := la10
  have U10b : w9.heap.size ≤ l10b := lb10
  have D_pa1_g0 : w1.heap.size ≤ l10a := Nat.le_trans T_pa1_w9 U10a
  have D_pa1_g1 : w1.heap.size ≤ l10b := Nat.le_trans T_pa1_w9 U10b
  have D_r0_g0 : k5a ≤ l10a := Nat.le_trans T_r0_w9 U10a
  have D_r0_g1 : k5a ≤ l10b := Nat.le_trans T_r0_w9 U10b
  have D_r1_g0 : k5b ≤ l10a := Nat.le_trans T_r1_w9 U10a
  have D_r1_g1 : k5b ≤ l10b := Nat.le_trans T_r1_w9 U10b
  have D_x0_g0 : w7.heap.size ≤ l10a := Nat.le_trans T_x0_w9 U10a
  have D_x0_g1 : w7.heap.size ≤ l10b := Nat.le_trans T_x0_w9 U10b
  have D_x1_g0 : w8.heap.size ≤ l10a := Nat.le_trans T_x1_w9 U10a
  have D_x1_g1 : w8.heap.size ≤ l10b := Nat.le_trans T_x1_w9 U10b
  have D_px1_g0 : w9.heap.size ≤ l10a := Nat.le_trans T_px1_w9 U10a
  have D_px1_g1 : w9.heap.size ≤ l10b := Nat.le_trans T_px1_w9 U10b
  have S_g0 : w.heap.size ≤ l10a := Nat.le_trans B_w9.size U10a
  have S_g1 : w.heap.size ≤ l10b := Nat.le_trans B_w9.size U10b
  have F_a0_w10 : Rd w10 w.heap.size (.slice A0 a0.length c0) (fl a0) := F_a0_w9.below (hb10.mono B_w9.size)
  have F_a1_w10 : Rd w10 w.heap.size (.slice A1 a1.length c1) (fl a1) := F_a1_w9.below (hb10.mono B_w9.size)
  have F_pa1_w10 : In w10 w.heap.size w1.heap.size (.slice (some ⟨w.heap.size, 0, none⟩) 1 1) ([(.slice A1 a1.length c1)]) := F_pa1_w9.step hb10
  have T_pa1_w10 : w1.heap.size ≤ w10.heap.size := Nat.le_trans T_pa1_w9 hb10.size
  have F_r0_w10 : In w10 l5a k5a r0 (fl L) := F_r0_w9.step hb10
  have T_r0_w10 : k5a ≤ w10.heap.size := Nat.le_trans T_r0_w9 hb10.size
  have F_r1_w10 : In w10 l5b k5b r1 (fl M) := F_r1_w9.step hb10
  have T_r1_w10 : k5b ≤ w10.heap.size := Nat.le_trans T_r1_w9 hb10.size
  have F_x0_w10 : In w10 w5.heap.size w7.heap.size (.slice (some ⟨g7, 0, none⟩) a0.length a0.length) (fl a0) := F_x0_w9.step hb10
  have T_x0_w10 : w7.heap.size ≤ w10.heap.size := Nat.le_trans T_x0_w9 hb10.size
  have F_x1_w10 : In w10 w7.heap.size w8.heap.size (.slice (some ⟨g8, 0, none⟩) a1.length a1.length) (fl a1) := F_x1_w9.step hb10
  have T_x1_w10 : w8.heap.size ≤ w10.heap.size := Nat.le_trans T_x1_w9 hb10.size
  have F_px1_w10 : In w10 w8.heap.size w9.heap.size (.slice (some ⟨w8.heap.size, 0, none⟩) 1 1) ([(.slice (some ⟨g8, 0, none⟩) a1.length a1.length)]) := F_px1_w9.step hb10
  have T_px1_w10 : w9.heap.size ≤ w10.heap.size := Nat.le_trans T_px1_w9 hb10.size
  have B_w10 : Below w.heap.size w w10 := B_w9.trans (hb10.mono B_w9.size)
  clear F_a0_w9 F_a1_w9 F_pa1_w9 T_pa1_w9 F_r0_w9 T_r0_w9 F_r1_w9 T_r1_w9 F_x0_w9 T_x0_w9 F_x1_w9 T_x1_w9 F_px1_w9 T_px1_w9 B_w9
  have F_g0_w10 : In w10 l10a k10a g0 (fl L) := O10a
  have T_g0_w10 : k10a ≤ w10.heap.size := ka10
  have F_g1_w10 : In w10 l10b k10b g1 (fl M) := O10b
  have T_g1_w10 : k10b ≤ w10.heap.size := kb10
  clear O10a O10b U10a U10b la10 lb10 ka10 kb10
  clear hb10
  go_wp2_with fail
  refine (eqF_any _ _ L L _ _ F_g0_w10.rd F_r0_w10.rd (Worth.refl _) hL).mono ?_
  rintro e w11 ⟨rfl, q11, hw11⟩
  have hb11 : Below w10.heap.size w10 w11 := by rw [hw11]; exact below_drawn (Below.refl _ _) _
  clear hw11
  have F_a0_w11 : Rd w11 w.heap.size (.slice A0 a0.length c0) (fl a0) := F_a0_w10.below (hb11.mono B_w10.size)
  have F_a1_w11 : Rd w11 w.heap.size (.slice A1 a1.length c1) (fl a1) := F_a1_w10.below (hb11.mono B_w10.size)
  have F_pa1_w11 : In w11 w.heap.size w1.heap.size (.slice (some ⟨w.heap.size, 0, none⟩) 1 1) ([(.slice A1 a1.length c1)]) := F_pa1_w10.step hb11
  have T_pa1_w11 : w1.heap.size ≤ w11.heap.size := Nat.le_trans T_pa1_w10 hb11.size
  have F_r0_w11 : In w11 l5a k5a r0 (fl L) := F_r0_w10.step hb11
  have T_r0_w11 : k5a ≤ w11.heap.size := Nat.le_trans T_r0_w10 hb11.size
  have F_r1_w11 : In w11 l5b k5b r1 (fl M) := F_r1_w10.step hb11
  have T_r1_w11 : k5b ≤ w11.heap.size := Nat.le_trans T_r1_w10 hb11.size
  have F_x0_w11 : In w11 w5.heap.size w7.heap.size (.slice (some ⟨g7, 0, none⟩) a0.length a0.length) (fl a0) := F_x0_w10.step hb11
  have T_x0_w11 : w7.heap.size ≤ w11.heap.size := Nat.le_trans T_x0_w10 hb11.size
  have F_x1_w11 : In w11 w7.heap.size w8.heap.size (.slice (some ⟨g8, 0, none⟩) a1.length a1.length) (fl a1) := F_x1_w10.step hb11
  have T_x1_w11 : w8.heap.size ≤ w11.heap.size := Nat.le_trans T_x1_w10 hb11.size
  have F_px1_w11 : In w11 w8.heap.size w9.heap.size (.slice (some ⟨w8.heap.size, 0, none⟩) 1 1) ([(.slice (some ⟨g8, 0, none⟩) a1.length a1.length)]) := F_px1_w10.step hb11
  have T_px1_w11 : w9.heap.size ≤ w11.heap.size := Nat.le_trans T_px1_w10 hb11.size
  have F_g0_w11 : In w11 l10a k10a g0 (fl L) := F_g0_w10.step hb11
  have T_g0_w11 : k10a ≤ w11.heap.size := Nat.le_trans T_g0_w10 hb11.size
  have F_g1_w11 : In w11 l10b k10b g1 (fl M) := F_g1_w10.step hb11
  have T_g1_w11 : k10b ≤ w11.heap.size := Nat.le_trans T_g1_w10 hb11.size
  have B_w11 : Below w.heap.size w w11 := B_w10.trans (hb11.mono B_w10.size)
  clear F_a0_w10 F_a1_w10 F_pa1_w10 T_pa1_w10 F_r0_w10 T_r0_w10 F_r1_w10 T_r1_w10 F_x0_w10 T_x0_w10 F_x1_w10 T_x1_w10 F_px1_w10 T_px1_w10 F_g0_w10 T_g0_w10 F_g1_w10 T_g1_w10 B_w10
  clear hb11
  go_wp2_with fail
  refine (eqF_any _ _ M M _ _ F_g1_w11.rd F_r1_w11.rd (Worth.refl _) hM).mono ?_
  rintro e w12 ⟨rfl, q12, hw12⟩
  have hb12 : Below w11.heap.size w11 w12 := by rw [hw12]; exact below_drawn (Below.refl _ _) _
  clear hw12
  have F_a0_w12 : Rd w12 w.heap.size (.slice A0 a0.length c0) (fl a0) := F_a0_w11.below (hb12.mono B_w11.size)
  have F_a1_w12 : Rd w12 w.heap.size (.slice A1 a1.length c1) (fl a1) := F_a1_w11.below (hb12.mono B_w11.size)
  have F_pa1_w12 : In w12 w.heap.size w1.heap.size (.slice (some ⟨w.heap.size, 0, none⟩) 1 1) ([(.slice A1 a1.length c1)]) := F_pa1_w11.step hb12
  have T_pa1_w12 : w1.heap.size ≤ w12.heap.size := Nat.le_trans T_pa1_w11 hb12.size
  have F_r0_w12 : In w12 l5a k5a r0 (fl L) := F_r0_w11.step hb12
  have T_r0_w12 : k5a ≤ w12.heap.size := Nat.le_trans T_r0_w11 hb12.size
  have F_r1_w12 : In w12 l5b k5b r1 (fl M) := F_r1_w11.step hb12
  have T_r1_w12 : k5b ≤ w12.heap.size := Nat.le_trans T_r1_w11 hb12.size
  have F_x0_w12 : In w12 w5.heap.size w7.heap.size (.slice (some ⟨g7, 0, none⟩) a0.length a0.length) (fl a0) := F_x0_w11.step hb12
  have T_x0_w12 : w7.heap.size ≤ w12.heap.size := Nat.le_trans T_x0_w11 hb12.size
  have F_x1_w12 : In w12 w7.heap.size w8.heap.size (.slice (some ⟨g8, 0, none⟩) a1.length a1.length) (fl a1) := F_x1_w11.step hb12
  have T_x1_w12 : w8.heap.size ≤ w12.heap.size := Nat.le_trans T_x1_w11 hb12.size
  have F_px1_w12 : In w12 w8.heap.size w9.heap.size (.slice (some ⟨w8.heap.size, 0, none⟩) 1 1) ([(.slice (some ⟨g8, 0, none⟩) a1.length a1.length)]) := F_px1_w11.step hb12
  have T_px1_w12 : w9.heap.size ≤ w12.heap.size := Nat.le_trans T_px1_w11 hb12.size
  have F_g0_w12 : In w12 l10a k10a g0 (fl L) := F_g0_w11.step hb12
  have T_g0_w12 : k10a ≤ w12.heap.size := Nat.le_trans T_g0_w11 hb12.size
  have F_g1_w12 : In w12 l10b k10b g1 (fl M) := F_g1_w11.step hb12
  have T_g1_w12 : k10b ≤ w12.heap.size := Nat.le_trans T_g1_w11 hb12.size
  have B_w12 : Below w.heap.size w w12 := B_w11.trans (hb12.mono B_w11.size)
  clear F_a0_w11 F_a1_w11 F_pa1_w11 T_pa1_w11 F_r0_w11 T_r0_w11 F_r1_w11 T_r1_w11 F_x0_w11 T_x0_w11 F_x1_w11 T_x1_w11 F_px1_w11 T_px1_w11 F_g0_w11 T_g0_w11 F_g1_w11 T_g1_w11 B_w11
  clear hb12
  go_wp2_with fail
  refine (toF_any _ a0 _ _ (F_a0_w12.more B_w12.size) (Nat.le_refl _) hm0).mono ?_
  rintro e w13 ⟨g13, rfl, P13, hb13⟩
  have O13 := Own.row P13
  clear P13
  have F_a0_w13 : Rd w13 w.heap.size (.slice A0 a0.length c0) (fl a0) := F_a0_w12.below (hb13.mono B_w12.size)
  have F_a1_w13 : Rd w13 w.heap.size (.slice A1 a1.length c1) (fl a1) := F_a1_w12.below (hb13.mono B_w12.size)
  have F_pa1_w13 : In w13 w.heap.size w1.heap.size (.slice (some ⟨w.heap.size, 0, none⟩) 1 1) ([(.slice A1 a1.length c1)]) := F_pa1_w12.step hb13
  have T_pa1_w13 : w1.heap.size ≤ w13.heap.size := Nat.le_trans T_pa1_w12 hb13.size
  have F_r0_w13 : In w13 l5a k5a r0 (fl L) := F_r0_w12.step hb13
  have T_r0_w13 : k5a ≤ w13.heap.size := Nat.le_trans T_r0_w12 hb13.size
  have F_r1_w13 : In w13 l5b k5b r1 (fl M) := F_r1_w12.step hb13
  have T_r1_w13 : k5b ≤ w13.heap.size := Nat.le_trans T_r1_w12 hb13.size
  have F_x0_w13 : In w13 w5.heap.size w7.heap.size (.slice (some ⟨g7, 0, none⟩) a0.length a0.length) (fl a0) := F_x0_w12.step hb13
  have T_x0_w13 : w7.heap.size ≤ w13.heap.size := Nat.le_trans T_x0_w12 hb13.size
  have F_x1_w13 : In w13 w7.heap.size w8.heap.size (.slice (some ⟨g8, 0, none⟩) a1.length a1.length) (fl a1) := F_x1_w12.step hb13
  have T_x1_w13 : w8.heap.size ≤ w13.heap.size := Nat.le_trans T_x1_w12 hb13.size
  have F_px1_w13 : In w13 w8.heap.size w9.heap.size (.slice (some ⟨w8.heap.size, 0, none⟩) 1 1) ([(.slice (some ⟨g8, 0, none⟩) a1.length a1.length)]) := F_px1_w12.step hb13
  have T_px1_w13 : w9.heap.size ≤ w13.heap.size := Nat.le_trans T_px1_w12 hb13.size
  have F_g0_w13 : In w13 l10a k10a g0 (fl L) := F_g0_w12.step hb13
  have T_g0_w13 : k10a ≤ w13.heap.size := Nat.le_trans T_g0_w12 hb13.size
  have F_g1_w13 : In w13 l10b k10b g1 (fl M) := F_g1_w12.step hb13
  have T_g1_w13 : k10b ≤ w13.heap.size := Nat.le_trans T_g1_w12 hb13.size
  have B_w13 : Below w.heap.size w w13 := B_w12.trans (hb13.mono B_w12.size)
  have S_d0 : w.heap.size ≤ w12.heap.size := B_w12.size
  have D_pa1_d0 : w1.heap.size ≤ w12.heap.size := T_pa1_w12
  have D_r0_d0 : k5a ≤ w12.heap.size := T_r0_w12
  have D_r1_d0 : k5b ≤ w12.heap.size := T_r1_w12
  have D_x0_d0 : w7.heap.size ≤ w12.heap.size := T_x0_w12
  have D_x1_d0 : w8.heap.size ≤ w12.heap.size := T_x1_w12
  have D_px1_d0 : w9.heap.size ≤ w12.heap.size := T_px1_w12
  have D_g0_d0 : k10a ≤ w12.heap.size := T_g0_w12
  have D_g1_d0 : k10b ≤ w12.heap.size := T_g1_w12
  clear F_a0_w12 F_a1_w12 F_pa1_w12 T_pa1_w12 F_r0_w12 T_r0_w12 F_r1_w12 T_r1_w12 F_x0_w12 T_x0_w12 F_x1_w12 T_x1_w12 F_px1_w12 T_px1_w12 F_g0_w12 T_g0_w12 F_g1_w12 T_g1_w12 B_w12
  have F_d0_w13 : In w13 w12.heap.size w13.heap.size (.slice (some ⟨g13, 0, none⟩) a0.length a0.length) (fl a0) := In.made O13
  have T_d0_w13 : w13.heap.size ≤ w13.heap.size := Nat.le_refl _
  clear O13
  clear hb13
  go_wp2_with fail
  refine (eqF_any _ _ a0 a0 _ _ F_x0_w13.rd F_d0_w13.rd (Worth.refl _) hm0).mono ?_
  rintro e w14 ⟨rfl, q14, hw14⟩
  have hb14 : Below w13.heap.size w13 w14 := by rw [hw14]; exact below_drawn (Below.refl _ _) _
  clear hw14
  have F_a0_w14 : Rd w14 w.heap.size (.slice A0 a0.length c0) (fl a0) := F_a0_w13.below (hb14.mono B_w13.size)
  have F_a1_w14 : Rd w14 w.heap.size (.slice A1 a1.length c1) (fl a1) := F_a1_w13.below (hb14.mono B_w13.size)
  have F_pa1_w14 : In w14 w.heap.size w1.heap.size (.slice (some ⟨w.heap.size, 0, none⟩) 1 1) ([(.slice A1 a1.length c1)]) := F_pa1_w13.step hb14
  have T_pa1_w14 : w1.heap.size ≤ w14.heap.size := Nat.le_trans T_pa1_w13 hb14.size
  have F_r0_w14 : In w14 l5a k5a r0 (fl L) := F_r0_w13.step hb14
  have T_r0_w14 : k5a ≤ w14.heap.size := Nat.le_trans T_r0_w13 hb14.size
  have F_r1_w14 : In w14 l5b k5b r1 (fl M) := F_r1_w13.step hb14
  have T_r1_w14 : k5b ≤ w14.heap.size := Nat.le_trans T_r1_w13 hb14.size
  have F_x0_w14 : In w14 w5.heap.size w7.heap.size (.slice (some ⟨g7, 0, none⟩) a0.length a0.length) (fl a0) := F_x0_w13.step hb14
  have T_x0_w14 : w7.heap.size ≤ w14.heap.size := Nat.le_trans T_x0_w13 hb14.size
  have F_x1_w14 : In w14 w7.heap.size w8.heap.size (.slice (some ⟨g8, 0, none⟩) a1.length a1.length) (fl a1) := F_x1_w13.step hb14
  have T_x1_w14 : w8.heap.size ≤ w14.heap.size := Nat.le_trans T_x1_w13 hb14.size
  have F_px1_w14 : In w14 w8.heap.size w9.heap.size (.slice (some ⟨w8.heap.size, 0, none⟩) 1 1) ([(.slice (some ⟨g8, 0, none⟩) a1.length a1.length)]) := F_px1_w13.step hb14
  have T_px1_w14 : w9.heap.size ≤ w14.heap.size := Nat.le_trans T_px1_w13 hb14.size
  have F_g0_w14 : In w14 l10a k10a g0 (fl L) := F_g0_w13.step hb14
  have T_g0_w14 : k10a ≤ w14.heap.size := Nat.le_trans T_g0_w13 hb14.size
  have F_g1_w14 : In w14 l10b k10b g1 (fl M) := F_g1_w13.step hb14
  have T_g1_w14 : k10b ≤ w14.heap.size := Nat.le_trans T_g1_w13 hb14.size
  have F_d0_w14 : In w14 w12.heap.size w13.heap.size (.slice (some ⟨g13, 0, none⟩) a0.length a0.length) (fl a0) := F_d0_w13.step hb14
  have T_d0_w14 : w13.heap.size ≤ w14.heap.size := Nat.le_trans T_d0_w13 hb14.size
  have B_w14 : Below w.heap.size w w14 := B_w13.trans (hb14.mono B_w13.size)
  clear F_a0_w13 F_a1_w13 F_pa1_w13 T_pa1_w13 F_r0_w13 T_r0_w13 F_r1_w13 T_r1_w13 F_x0_w13 T_x0_w13 F_x1_w13 T_x1_w13 F_px1_w13 T_px1_w13 F_g0_w13 T_g0_w13 F_g1_w13 T_g1_w13 F_d0_w13 T_d0_w13 B_w13
  clear hb14
  clear F_d0_w14 T_d0_w14
  obtain ⟨_, Z_pa1_w14, c300, _⟩ := F_pa1_w14.1.cells' (by decide)
  have Q_pa1_w14 : w14.cell? ⟨w.heap.size, 0, none⟩ = some (.slice A1 a1.length c1) := c300 0 _ rfl
  clear c300
  obtain ⟨_, Z_px1_w14, c303, _⟩ := F_px1_w14.1.cells' (by decide)
  have Q_px1_w14 : w14.cell? ⟨w8.heap.size, 0, none⟩ = some (.slice (some ⟨g8, 0, none⟩) a1.length a1.length) := c303 0 _ rfl
  clear c303
  have E_a1_w14 : Rd w14 w14.heap.size (.slice A1 a1.length c1) (fl a1) := (F_a1_w14.more B_w14.size)
  have E_x1_w14 : Rd w14 w14.heap.size (.slice (some ⟨g8, 0, none⟩) a1.length a1.length) (fl a1) := F_x1_w14.rd
  go_wp2_with fail
  go_region_held3 (fun w' => w'.cell? ⟨w.heap.size, 0, none⟩ = some (.slice A1 a1.length c1) ∧ w'.cell? ⟨w8.heap.size, 0, none⟩ = some (.slice (some ⟨g8, 0, none⟩) a1.length a1.length)) (first | exact ⟨Q_pa1_w14, Q_px1_w14⟩ | exact ⟨Q_pa1_w15, Q_px1_w15⟩ | exact ⟨Q_pa1_w16, Q_px1_w16⟩) ((first | (go_at_call 24; refine (toPair_any (.slice A1 a1.length c1) a1 _ ?_ hm1).mono ?_; exact E_a1_w14; rintro e w15 ⟨g15, rfl, P15, hb15⟩; replace hb15 : Below w14.heap.size w14 w15 := below_draw1 hb15; replace P15 : Own w15 w14.heap.size (.slice (some ⟨g15, 0, none⟩) a1.length a1.length) (fl a1) := P15; have E_a1_w15 := E_a1_w14.step hb15; have E_x1_w15 := E_x1_w14.step hb15; have Q_pa1_w15 : w15.cell? ⟨w.heap.size, 0, none⟩ = some (.slice A1 a1.length c1) := (hb15.cell (p := ⟨w.heap.size, 0, none⟩) Z_pa1_w14).trans Q_pa1_w14; have Z_pa1_w15 := Nat.lt_of_lt_of_le Z_pa1_w14 hb15.size; have Q_px1_w15 : w15.cell? ⟨w8.heap.size, 0, none⟩ = some (.slice (some ⟨g8, 0, none⟩) a1.length a1.length) := (hb15.cell (p := ⟨w8.heap.size, 0, none⟩) Z_px1_w14).trans Q_px1_w14; have Z_px1_w15 := Nat.lt_of_lt_of_le Z_px1_w14 hb15.size; have E_d1_w15 := P15.rd) | (go_at_call 17; refine (eqPair_any _ _ a1 a1 _ ?_ ?_ (Worth.refl _) hm1).mono ?_; exact E_x1_w15; exact E_d1_w15; rintro e w16 ⟨rfl, hb16⟩; have E_a1_w16 := E_a1_w15.step hb16; have E_x1_w16 := E_x1_w15.step hb16; have E_d1_w16 := E_d1_w15.step hb16; have Q_pa1_w16 : w16.cell? ⟨w.heap.size, 0, none⟩ = some (.slice A1 a1.length c1) := (hb16.cell (p := ⟨w.heap.size, 0, none⟩) Z_pa1_w15).trans Q_pa1_w15; have Z_pa1_w16 := Nat.lt_of_lt_of_le Z_pa1_w15 hb16.size; have Q_px1_w16 : w16.cell? ⟨w8.heap.size, 0, none⟩ = some (.slice (some ⟨g8, 0, none⟩) a1.length a1.length) := (hb16.cell (p := ⟨w8.heap.size, 0, none⟩) Z_px1_w15).trans Q_px1_w15; have Z_px1_w16 := Nat.lt_of_lt_of_le Z_px1_w15 hb16.size)))
  have hc17 : Below w14.heap.size w14 w16 := (hb15.trans (hb16.mono (by have := hb15.size; omega)))
  have F_a0_w16 : Rd w16 w.heap.size (.slice A0 a0.length c0) (fl a0) := F_a0_w14.below (hc17.mono B_w14.size)
  have F_a1_w16 : Rd w16 w.heap.size (.slice A1 a1.length c1) (fl a1) := F_a1_w14.below (hc17.mono B_w14.size)
  have F_pa1_w16 : In w16 w.heap.size w1.heap.size (.slice (some ⟨w.heap.size, 0, none⟩) 1 1) ([(.slice A1 a1.length c1)]) := F_pa1_w14.step hc17
  have T_pa1_w16 : w1.heap.size ≤ w16.heap.size := Nat.le_trans T_pa1_w14 hc17.size
  have F_r0_w16 : In w16 l5a k5a r0 (fl L) := F_r0_w14.step hc17
  have T_r0_w16 : k5a ≤ w16.heap.size := Nat.le_trans T_r0_w14 hc17.size
  have F_r1_w16 : In w16 l5b k5b r1 (fl M) := F_r1_w14.step hc17
  have T_r1_w16 : k5b ≤ w16.heap.size := Nat.le_trans T_r1_w14 hc17.size
  have F_x0_w16 : In w16 w5.heap.size w7.heap.size (.slice (some ⟨g7, 0, none⟩) a0.length a0.length) (fl a0) := F_x0_w14.step hc17
  have T_x0_w16 : w7.heap.size ≤ w16.heap.size := Nat.le_trans T_x0_w14 hc17.size
  have F_x1_w16 : In w16 w7.heap.size w8.heap.size (.slice (some ⟨g8, 0, none⟩) a1.length a1.length) (fl a1) := F_x1_w14.step hc17
  have T_x1_w16 : w8.heap.size ≤ w16.heap.size := Nat.le_trans T_x1_w14 hc17.size
  have F_px1_w16 : In w16 w8.heap.size w9.heap.size (.slice (some ⟨w8.heap.size, 0, none⟩) 1 1) ([(.slice (some ⟨g8, 0, none⟩) a1.length a1.length)]) := F_px1_w14.step hc17
  have T_px1_w16 : w9.heap.size ≤ w16.heap.size := Nat.le_trans T_px1_w14 hc17.size
  have F_g0_w16 : In w16 l10a k10a g0 (fl L) := F_g0_w14.step hc17
  have T_g0_w16 : k10a ≤ w16.heap.size := Nat.le_trans T_g0_w14 hc17.size
  have F_g1_w16 : In w16 l10b k10b g1 (fl M) := F_g1_w14.step hc17
  have T_g1_w16 : k10b ≤ w16.heap.size := Nat.le_trans T_g1_w14 hc17.size
  have B_w16 : Below w.heap.size w w16 := B_w14.trans (hc17.mono B_w14.size)
  clear F_a0_w14 F_a1_w14 F_pa1_w14 T_pa1_w14 F_r0_w14 T_r0_w14 F_r1_w14 T_r1_w14 F_x0_w14 T_x0_w14 F_x1_w14 T_x1_w14 F_px1_w14 T_px1_w14 F_g0_w14 T_g0_w14 F_g1_w14 T_g1_w14 B_w14
  clear hc17
  go_wp2_with fail
  refine (markF_any _ a0 _ _ _ F_x0_w16.1 hm0 (by omega) (by omega)).mono ?_
  rintro e w18 ⟨rfl, hw18⟩
  have ht18 : Tw w5.heap.size w7.heap.size w16 w18 := by rw [hw18]; exact over_tw F_x0_w16.1 F_x0_w16.2 _
  have NF18 : In w18 w5.heap.size w7.heap.size (.slice (some ⟨g7, 0, none⟩) a0.length a0.length) ((List.range a0.length).map (mkF (1))) := by rw [hw18]; have := F_x0_w16.over (mkF (1)); rw [fl_len] at this; exact this
  clear hw18
  have F_a0_w18 : Rd w18 w.heap.size (.slice A0 a0.length c0) (fl a0) := F_a0_w16.tw ht18 S_x0 B_w16.size
  have F_a1_w18 : Rd w18 w.heap.size (.slice A1 a1.length c1) (fl a1) := F_a1_w16.tw ht18 S_x0 B_w16.size
  have F_pa1_w18 : In w18 w.heap.size w1.heap.size (.slice (some ⟨w.heap.size, 0, none⟩) 1 1) ([(.slice A1 a1.length c1)]) := F_pa1_w16.tw ht18 (.inl D_pa1_x0)
  have T_pa1_w18 : w1.heap.size ≤ w18.heap.size := Nat.le_trans T_pa1_w16 ht18.size
  have F_r0_w18 : In w18 l5a k5a r0 (fl L) := F_r0_w16.tw ht18 (.inl D_r0_x0)
  have T_r0_w18 : k5a ≤ w18.heap.size := Nat.le_trans T_r0_w16 ht18.size
  have F_r1_w18 : In w18 l5b k5b r1 (fl M) := F_r1_w16.tw ht18 (.inl D_r1_x0)
  have T_r1_w18 : k5b ≤ w18.heap.size := Nat.le_trans T_r1_w16 ht18.size
  have F_x0_w18 : In w18 w5.heap.size w7.heap.size (.slice (some ⟨g7, 0, none⟩) a0.length a0.length) ((List.range a0.length).map (mkF (1))) := NF18
  have T_x0_w18 : w7.heap.size ≤ w18.heap.size := Nat.le_trans T_x0_w16 ht18.size
  have F_x1_w18 : In w18 w7.heap.size w8.heap.size (.slice (some ⟨g8, 0, none⟩) a1.length a1.length) (fl a1) := F_x1_w16.tw ht18 (.inr D_x0_x1)
  have T_x1_w18 : w8.heap.size ≤ w18.heap.size := Nat.le_trans T_x1_w16 ht18.size
  have F_px1_w18 : In w18 w8.heap.size w9.heap.size (.slice (some ⟨w8.heap.size, 0, none⟩) 1 1) ([(.slice (some ⟨g8, 0, none⟩) a1.length a1.length)]) := F_px1_w16.tw ht18 (.inr D_x0_px1)
  have T_px1_w18 : w9.heap.size ≤ w18.heap.size := Nat.le_trans T_px1_w16 ht18.size
  have F_g0_w18 : In w18 l10a k10a g0 (fl L) := F_g0_w16.tw ht18 (.inr D_x0_g0)
  have T_g0_w18 : k10a ≤ w18.heap.size := Nat.le_trans T_g0_w16 ht18.size
  have F_g1_w18 : In w18 l10b k10b g1 (fl M) := F_g1_w16.tw ht18 (.inr D_x0_g1)
  have T_g1_w18 : k10b ≤ w18.heap.size := Nat.le_trans T_g1_w16 ht18.size
  have B_w18 : Below w.heap.size w w18 := B_w16.trans (ht18.below S_x0 B_w16.size)
  clear F_a0_w16 F_a1_w16 F_pa1_w16 T_pa1_w16 F_r0_w16 T_r0_w16 F_r1_w16 T_r1_w16 F_x0_w16 T_x0_w16 F_x1_w16 T_x1_w16 F_px1_w16 T_px1_w16 F_g0_w16 T_g0_w16 F_g1_w16 T_g1_w16 B_w16
  clear ht18 NF18
  obtain ⟨_, Z_px1_w18, c359, _⟩ := F_px1_w18.1.cells' (by decide)
  have Q_px1_w18 : w18.cell? ⟨w8.heap.size, 0, none⟩ = some (.slice (some ⟨g8, 0, none⟩) a1.length a1.length) := c359 0 _ rfl
  clear c359
  go_wp2_with fail
  refine (markP_any _ a1 _ _ _ F_x1_w18.1 hm1 (by omega) (by omega)).mono ?_
  rintro e w20 ⟨rfl, w19, hb19, hw20⟩
  clear Z_px1_w18 Q_px1_w18
  have F_a0_w19 : Rd w19 w.heap.size (.slice A0 a0.length c0) (fl a0) := F_a0_w18.below (hb19.mono B_w18.size)
  have F_a1_w19 : Rd w19 w.heap.size (.slice A1 a1.length c1) (fl a1) := F_a1_w18.below (hb19.mono B_w18.size)
  have F_pa1_w19 : In w19 w.heap.size w1.heap.size (.slice (some ⟨w.heap.size, 0, none⟩) 1 1) ([(.slice A1 a1.length c1)]) := F_pa1_w18.step hb19
  have T_pa1_w19 : w1.heap.size ≤ w19.heap.size := Nat.le_trans T_pa1_w18 hb19.size
  have F_r0_w19 : In w19 l5a k5a r0 (fl L) := F_r0_w18.step hb19
  have T_r0_w19 : k5a ≤ w19.heap.size := Nat.le_trans T_r0_w18 hb19.size
  have F_r1_w19 : In w19 l5b k5b r1 (fl M) := F_r1_w18.step hb19
  have T_r1_w19 : k5b ≤ w19.heap.size := Nat.le_trans T_r1_w18 hb19.size
  have F_x0_w19 : In w19 w5.heap.size w7.heap.size (.slice (some ⟨g7, 0, none⟩) a0.length a0.length) ((List.range a0.length).map (mkF (1))) := F_x0_w18.step hb19
  have T_x0_w19 : w7.heap.size ≤ w19.heap.size := Nat.le_trans T_x0_w18 hb19.size
  have F_x1_w19 : In w19 w7.heap.size w8.heap.size (.slice (some ⟨g8, 0, none⟩) a1.length a1.length) (fl a1) := F_x1_w18.step hb19
  have T_x1_w19 : w8.heap.size ≤ w19.heap.size := Nat.le_trans T_x1_w18 hb19.size
  have F_px1_w19 : In w19 w8.heap.size w9.heap.size (.slice (some ⟨w8.heap.size, 0, none⟩) 1 1) ([(.slice (some ⟨g8, 0, none⟩) a1.length a1.length)]) := F_px1_w18.step hb19
  have T_px1_w19 : w9.heap.size ≤ w19.heap.size := Nat.le_trans T_px1_w18 hb19.size
  have F_g0_w19 : In w19 l10a k10a g0 (fl L) := F_g0_w18.step hb19
  have T_g0_w19 : k10a ≤ w19.heap.size := Nat.le_trans T_g0_w18 hb19.size
  have F_g1_w19 : In w19 l10b k10b g1 (fl M) := F_g1_w18.step hb19
  have T_g1_w19 : k10b ≤ w19.heap.size := Nat.le_trans T_g1_w18 hb19.size
  have B_w19 : Below w.heap.size w w19 := B_w18.trans (hb19.mono B_w18.size)
  clear F_a0_w18 F_a1_w18 F_pa1_w18 T_pa1_w18 F_r0_w18 T_r0_w18 F_r1_w18 T_r1_w18 F_x0_w18 T_x0_w18 F_x1_w18 T_x1_w18 F_px1_w18 T_px1_w18 F_g0_w18 T_g0_w18 F_g1_w18 T_g1_w18 B_w18
  clear hb19
  have ht20 : Tw w7.heap.size w8.heap.size w19 w20 := by rw [hw20]; exact over_tw F_x1_w19.1 F_x1_w19.2 _
  have NF20 : In w20 w7.heap.size w8.heap.size (.slice (some ⟨g8, 0, none⟩) a1.length a1.length) ((List.range a1.length).map (mkF (1 + a0.length))) := by rw [hw20]; have := F_x1_w19.over (mkF (1 + a0.length)); rw [fl_len] at this; exact this
  clear hw20
  have F_a0_w20 : Rd w20 w.heap.size (.slice A0 a0.length c0) (fl a0) := F_a0_w19.tw ht20 S_x1 B_w19.size
  have F_a1_w20 : Rd w20 w.heap.size (.slice A1 a1.length c1) (fl a1) := F_a1_w19.tw ht20 S_x1 B_w19.size
  have F_pa1_w20 : In w20 w.heap.size w1.heap.size (.slice (some ⟨w.heap.size, 0, none⟩) 1 1) ([(.slice A1 a1.length c1)]) := F_pa1_w19.tw ht20 (.inl D_pa1_x1)
  have T_pa1_w20 : w1.heap.size ≤ w20.heap.size := Nat.le_trans T_pa1_w19 ht20.size
  have F_r0_w20 : In w20 l5a k5a r0 (fl L) := F_r0_w19.tw ht20 (.inl D_r0_x1)
  have T_r0_w20 : k5a ≤ w20.heap.size := Nat.le_trans T_r0_w19 ht20.size
  have F_r1_w20 : In w20 l5b k5b r1 (fl M) := F_r1_w19.tw ht20 (.inl D_r1_x1)
  have T_r1_w20 : k5b ≤ w20.heap.size := Nat.le_trans T_r1_w19 ht20.size
  have F_x0_w20 : In w20 w5.heap.size w7.heap.size (.slice (some ⟨g7, 0, none⟩) a0.length a0.length) ((List.range a0.length).map (mkF (1))) := F_x0_w19.tw ht20 (.inl D_x0_x1)
  have T_x0_w20 : w7.heap.size ≤ w20.heap.size := Nat.le_trans T_x0_w19 ht20.size
  have F_x1_w20 : In w20 w7.heap.size w8.heap.size (.slice (some ⟨g8, 0, none⟩) a1.length a1.length) ((List.range a1.length).map (mkF (1 + a0.length))) := NF20
  have T_x1_w20 : w8.heap.size ≤ w20.heap.size := Nat.le_trans T_x1_w19 ht20.size
  have F_px1_w20 : In w20 w8.heap.size w9.heap.size (.slice (some ⟨w8.heap.size, 0, none⟩) 1 1) ([(.slice (some ⟨g8, 0, none⟩) a1.length a1.length)]) := F_px1_w19.tw ht20 (.inr D_x1_px1)
  have T_px1_w20 : w9.heap.size ≤ w20.heap.size := Nat.le_trans T_px1_w19 ht20.size
  have F_g0_w20 : In w20 l10a k10a g0 (fl L) := F_g0_w19.tw ht20 (.inr D_x1_g0)
  have T_g0_w20 : k10a ≤ w20.heap.size := Nat.le_trans T_g0_w19 ht20.size
  have F_g1_w20 : In w20 l10b k10b g1 (fl M) := F_g1_w19.tw ht20 (.inr D_x1_g1)
  have T_g1_w20 : k10b ≤ w20.heap.size := Nat.le_trans T_g1_w19 ht20.size
  have B_w20 : Below w.heap.size w w20 := B_w19.trans (ht20.below S_x1 B_w19.size)
  clear F_a0_w19 F_a1_w19 F_pa1_w19 T_pa1_w19 F_r0_w19 T_r0_w19 F_r1_w19 T_r1_w19 F_x0_w19 T_x0_w19 F_x1_w19 T_x1_w19 F_px1_w19 T_px1_w19 F_g0_w19 T_g0_w19 F_g1_w19 T_g1_w19 B_w19
  clear ht20 NF20
  go_wp2_with fail
  refine (eqF_any _ _ L L _ _ F_g0_w20.rd F_r0_w20.rd (Worth.refl _) hL).mono ?_
  rintro e w21 ⟨rfl, q21, hw21⟩
  have hb21 : Below w20.heap.size w20 w21 := by rw [hw21]; exact below_drawn (Below.refl _ _) _
  clear hw21
  have F_a0_w21 : Rd w21 w.heap.size (.slice A0 a0.length c0) (fl a0) := F_a0_w20.below (hb21.mono B_w20.size)
  have F_a1_w21 : Rd w21 w.heap.size (.slice A1 a1.length c1) (fl a1) := F_a1_w20.below (hb21.mono B_w20.size)
  have F_pa1_w21 : In w21 w.heap.size w1.heap.size (.slice (some ⟨w.heap.size, 0, none⟩) 1 1) ([(.slice A1 a1.length c1)]) := F_pa1_w20.step hb21
  have T_pa1_w21 : w1.heap.size ≤ w21.heap.size := Nat.le_trans T_pa1_w20 hb21.size
  have F_r0_w21 : In w21 l5a k5a r0 (fl L) := F_r0_w20.step hb21
  have T_r0_w21 : k5a ≤ w21.heap.size := Nat.le_trans T_r0_w20 hb21.size
  have F_r1_w21 : In w21 l5b k5b r1 (fl M) := F_r1_w20.step hb21
  have T_r1_w21 : k5b ≤ w21.heap.size := Nat.le_trans T_r1_w20 hb21.size
  have F_x0_w21 : In w21 w5.heap.size w7.heap.size (.slice (some ⟨g7, 0, none⟩) a0.length a0.length) ((List.range a0.length).map (mkF (1))) := F_x0_w20.step hb21
  have T_x0_w21 : w7.heap.size ≤ w21.heap.size := Nat.le_trans T_x0_w20 hb21.size
  have F_x1_w21 : In w21 w7.heap.size w8.heap.size (.slice (some ⟨g8, 0, none⟩) a1.length a1.length) ((List.range a1.length).map (mkF (1 + a0.length))) := F_x1_w20.step hb21
  have T_x1_w21 : w8.heap.size ≤ w21.heap.size := Nat.le_trans T_x1_w20 hb21.size
  have F_px1_w21 : In w21 w8.heap.size w9.heap.size (.slice (some ⟨w8.heap.size, 0, none⟩) 1 1) ([(.slice (some ⟨g8, 0, none⟩) a1.length a1.length)]) := F_px1_w20.step hb21
  have T_px1_w21 : w9.heap.size ≤ w21.heap.size := Nat.le_trans T_px1_w20 hb21.size
  have F_g0_w21 : In w21 l10a k10a g0 (fl L) := F_g0_w20.step hb21
  have T_g0_w21 : k10a ≤ w21.heap.size := Nat.le_trans T_g0_w20 hb21.size
  have F_g1_w21 : In w21 l10b k10b g1 (fl M) := F_g1_w20.step hb21
  have T_g1_w21 : k10b ≤ w21.heap.size := Nat.le_trans T_g1_w20 hb21.size
  have B_w21 : Below w.heap.size w w21 := B_w20.trans (hb21.mono B_w20.size)
  clear F_a0_w20 F_a1_w20 F_pa1_w20 T_pa1_w20 F_r0_w20 T_r0_w20 F_r1_w20 T_r1_w20 F_x0_w20 T_x0_w20 F_x1_w20 T_x1_w20 F_px1_w20 T_px1_w20 F_g0_w20 T_g0_w20 F_g1_w20 T_g1_w20 B_w20
  clear hb21
  go_wp2_with fail
  refine (eqF_any _ _ M M _ _ F_g1_w21.rd F_r1_w21.rd (Worth.refl _) hM).mono ?_
  rintro e w22 ⟨rfl, q22, hw22⟩
  have hb22 : Below w21.heap.size w21 w22 := by rw [hw22]; exact below_drawn (Below.refl _ _) _
  clear hw22
  have F_a0_w22 : Rd w22 w.heap.size (.slice A0 a0.length c0) (fl a0) := F_a0_w21.below (hb22.mono B_w21.size)
  have F_a1_w22 : Rd w22 w.heap.size (.slice A1 a1.length c1) (fl a1) := F_a1_w21.below (hb22.mono B_w21.size)
  have F_pa1_w22 : In w22 w.heap.size w1.heap.size (.slice (some ⟨w.heap.size, 0, none⟩) 1 1) ([(.slice A1 a1.length c1)]) := F_pa1_w21.step hb22
  have T_pa1_w22 : w1.heap.size ≤ w22.heap.size := Nat.le_trans T_pa1_w21 hb22.size
  have F_r0_w22 : In w22 l5a k5a r0 (fl L) := F_r0_w21.step hb22
  have T_r0_w22 : k5a ≤ w22.heap.size := Nat.le_trans T_r0_w21 hb22.size
  have F_r1_w22 : In w22 l5b k5b r1 (fl M) := F_r1_w21.step hb22
  have T_r1_w22 : k5b ≤ w22.heap.size := Nat.le_trans T_r1_w21 hb22.size
  have F_x0_w22 : In w22 w5.heap.size w7.heap.size (.slice (some ⟨g7, 0, none⟩) a0.length a0.length) ((List.range a0.length).map (mkF (1))) := F_x0_w21.step hb22
  have T_x0_w22 : w7.heap.size ≤ w22.heap.size := Nat.le_trans T_x0_w21 hb22.size
  have F_x1_w22 : In w22 w7.heap.size w8.heap.size (.slice (some ⟨g8, 0, none⟩) a1.length a1.length) ((List.range a1.length).map (mkF (1 + a0.length))) := F_x1_w21.step hb22
  have T_x1_w22 : w8.heap.size ≤ w22.heap.size := Nat.le_trans T_x1_w21 hb22.size
  have F_px1_w22 : In w22 w8.heap.size w9.heap.size (.slice (some ⟨w8.heap.size, 0, none⟩) 1 1) ([(.slice (some ⟨g8, 0, none⟩) a1.length a1.length)]) := F_px1_w21.step hb22
  have T_px1_w22 : w9.heap.size ≤ w22.heap.size := Nat.le_trans T_px1_w21 hb22.size
  have F_g0_w22 : In w22 l10a k10a g0 (fl L) := F_g0_w21.step hb22
  have T_g0_w22 : k10a ≤ w22.heap.size := Nat.le_trans T_g0_w21 hb22.size
  have F_g1_w22 : In w22 l10b k10b g1 (fl M) := F_g1_w21.step hb22
  have T_g1_w22 : k10b ≤ w22.heap.size := Nat.le_trans T_g1_w21 hb22.size
  have B_w22 : Below w.heap.size w w22 := B_w21.trans (hb22.mono B_w21.size)
  clear F_a0_w21 F_a1_w21 F_pa1_w21 T_pa1_w21 F_r0_w21 T_r0_w21 F_r1_w21 T_r1_w21 F_x0_w21 T_x0_w21 F_x1_w21 T_x1_w21 F_px1_w21 T_px1_w21 F_g0_w21 T_g0_w21 F_g1_w21 T_g1_w21 B_w21
  clear hb22
  clear F_x0_w22 T_x0_w22 F_x1_w22 T_x1_w22 F_px1_w22 T_px1_w22
  go_wp2_with fail
  refine (markF_any _ L _ _ _ F_g0_w22.1 hL (by omega) (by omega)).mono ?_
  rintro e w23 ⟨rfl, hw23⟩
  have ht23 : Tw l10a k10a w22 w23 := by rw [hw23]; exact over_tw F_g0_w22.1 F_g0_w22.2 _
  have NF23 : In w23 l10a k10a g0 ((List.range L.length).map (mkF (1))) := by rw [hw23]; have := F_g0_w22.over (mkF (1)); rw [fl_len] at this; exact this
  clear hw23
  have F_a0_w23 : Rd w23 w.heap.size (.slice A0 a0.length c0) (fl a0) := F_a0_w22.tw ht23 S_g0 B_w22.size
  have F_a1_w23 : Rd w23 w.heap.size (.slice A1 a1.length c1) (fl a1) := F_a1_w22.tw ht23 S_g0 B_w22.size
  have F_pa1_w23 : In w23 w.heap.size w1.heap.size (.slice (some ⟨w.heap.size, 0, none⟩) 1 1) ([(.slice A1 a1.length c1)]) := F_pa1_w22.tw ht23 (.inl D_pa1_g0)
  have T_pa1_w23 : w1.heap.size ≤ w23.heap.size := Nat.le_trans T_pa1_w22 ht23.size
  have F_r0_w23 : In w23 l5a k5a r0 (fl L) := F_r0_w22.tw ht23 (.inl D_r0_g0)
  have T_r0_w23 : k5a ≤ w23.heap.size := Nat.le_trans T_r0_w22 ht23.size
  have F_r1_w23 : In w23 l5b k5b r1 (fl M) := F_r1_w22.tw ht23 (.inl D_r1_g0)
  have T_r1_w23 : k5b ≤ w23.heap.size := Nat.le_trans T_r1_w22 ht23.size
  have F_g0_w23 : In w23 l10a k10a g0 ((List.range L.length).map (mkF (1))) := NF23
  have T_g0_w23 : k10a ≤ w23.heap.size := Nat.le_trans T_g0_w22 ht23.size
  have F_g1_w23 : In w23 l10b k10b g1 (fl M) := F_g1_w22.tw ht23 (X10.symm)
  have T_g1_w23 : k10b ≤ w23.heap.size := Nat.le_trans T_g1_w22 ht23.size
  have B_w23 : Below w.heap.size w w23 := B_w22.trans (ht23.below S_g0 B_w22.size)
  clear F_a0_w22 F_a1_w22 F_pa1_w22 T_pa1_w22 F_r0_w22 T_r0_w22 F_r1_w22 T_r1_w22 F_g0_w22 T_g0_w22 F_g1_w22 T_g1_w22 B_w22
  clear ht23 NF23
  go_wp2_with fail
  refine (markF_any _ M _ _ _ F_g1_w23.1 hM (by omega) (by omega)).mono ?_
  rintro e w24 ⟨rfl, hw24⟩
  have ht24 : Tw l10b k10b w23 w24 := by rw [hw24]; exact over_tw F_g1_w23.1 F_g1_w23.2 _
  have NF24 : In w24 l10b k10b g1 ((List.range M.length).map (mkF (1 + L.length))) := by rw [hw24]; have := F_g1_w23.over (mkF (1 + L.length)); rw [fl_len] at this; exact this
  clear hw24
  have F_a0_w24 : Rd w24 w.heap.size (.slice A0 a0.length c0) (fl a0) := F_a0_w23.tw ht24 S_g1 B_w23.size
  have F_a1_w24 : Rd w24 w.heap.size (.slice A1 a1.length c1) (fl a1) := F_a1_w23.tw ht24 S_g1 B_w23.size
  have F_pa1_w24 : In w24 w.heap.size w1.heap.size (.slice (some ⟨w.heap.size, 0, none⟩) 1 1) ([(.slice A1 a1.length c1)]) := F_pa1_w23.tw ht24 (.inl D_pa1_g1)
  have T_pa1_w24 : w1.heap.size ≤ w24.heap.size := Nat.le_trans T_pa1_w23 ht24.size
  have F_r0_w24 : In w24 l5a k5a r0 (fl L) := F_r0_w23.tw ht24 (.inl D_r0_g1)
  have T_r0_w24 : k5a ≤ w24.heap.size := Nat.le_trans T_r0_w23 ht24.size
  have F_r1_w24 : In w24 l5b k5b r1 (fl M) := F_r1_w23.tw ht24 (.inl D_r1_g1)
  have T_r1_w24 : k5b ≤ w24.heap.size := Nat.le_trans T_r1_w23 ht24.size
  have F_g0_w24 : In w24 l10a k10a g0 ((List.range L.length).map (mkF (1))) := F_g0_w23.tw ht24 X10
  have T_g0_w24 : k10a ≤ w24.heap.size := Nat.le_trans T_g0_w23 ht24.size
  have F_g1_w24 : In w24 l10b k10b g1 ((List.range M.length).map (mkF (1 + L.length))) := NF24
  have T_g1_w24 : k10b ≤ w24.heap.size := Nat.le_trans T_g1_w23 ht24.size
  have B_w24 : Below w.heap.size w w24 := B_w23.trans (ht24.below S_g1 B_w23.size)
  clear F_a0_w23 F_a1_w23 F_pa1_w23 T_pa1_w23 F_r0_w23 T_r0_w23 F_r1_w23 T_r1_w23 F_g0_w23 T_g0_w23 F_g1_w23 T_g1_w23 B_w23
  clear ht24 NF24
  go_wp2_with fail
  refine (heldF_any _ L.length _ _ _ F_g0_w24.rd hL (by omega) (by omega)).mono ?_
  rintro e w' ⟨rfl, rfl⟩
  go_wp2_with fail
  refine (heldF_any _ M.length _ _ _ F_g1_w24.rd hM (by omega) (by omega)).mono ?_
  rintro e w' ⟨rfl, rfl⟩
  obtain ⟨_, Z_pa1_w24, c512, _⟩ := F_pa1_w24.1.cells' (by decide)
  have Q_pa1_w24 : w24.cell? ⟨w.heap.size, 0, none⟩ = some (.slice A1 a1.length c1) := c512 0 _ rfl
  clear c512
  have E_a0_w24 : Rd w24 w24.heap.size (.slice A0 a0.length c0) (fl a0) := (F_a0_w24.more B_w24.size)
  have E_a1_w24 : Rd w24 w24.heap.size (.slice A1 a1.length c1) (fl a1) := (F_a1_w24.more B_w24.size)
  go_wp2_with fail
  go_region_held3 (fun w' => w'.cell? ⟨w.heap.size, 0, none⟩ = some (.slice A1 a1.length c1)) (first | exact Q_pa1_w24 | exact Q_pa1_w25 | exact Q_pa1_w26 | exact Q_pa1_w27) ((first | (go_at_call 34; refine (toFP_any (.slice A0 a0.length c0) a0 _ ?_ hm0).mono ?_; exact E_a0_w24; rintro e w25 ⟨g25, rfl, P25, hb25⟩; replace hb25 : Below w24.heap.size w24 w25 := below_draw1 hb25; replace P25 : Own w25 w24.heap.size (.slice (some ⟨g25, 0, none⟩) a0.length a0.length) (fl a0) := P25; have E_a0_w25 := E_a0_w24.step hb25; have E_a1_w25 := E_a1_w24.step hb25; have Q_pa1_w25 : w25.cell? ⟨w.heap.size, 0, none⟩ = some (.slice A1 a1.length c1) := (hb25.cell (p := ⟨w.heap.size, 0, none⟩) Z_pa1_w24).trans Q_pa1_w24; have Z_pa1_w25 := Nat.lt_of_lt_of_le Z_pa1_w24 hb25.size; have E_y0_w25 := P25.rd) | (go_at_call 24; refine (toPair_any (.slice A1 a1.length c1) a1 _ ?_ hm1).mono ?_; exact E_a1_w25; rintro e w26 ⟨g26, rfl, P26, hb26⟩; have E_a0_w26 := E_a0_w25.step hb26; have E_a1_w26 := E_a1_w25.step hb26; have E_y0_w26 := E_y0_w25.step hb26; have Q_pa1_w26 : w26.cell? ⟨w.heap.size, 0, none⟩ = some (.slice A1 a1.length c1) := (hb26.cell (p := ⟨w.heap.size, 0, none⟩) Z_pa1_w25).trans Q_pa1_w25; have Z_pa1_w26 := Nat.lt_of_lt_of_le Z_pa1_w25 hb26.size; have E_y1_w26 := P26.rd) | (go_at_call 35; refine (HI.out _ _ _ ?_ ?_).mono ?_; exact E_y0_w26; exact E_y1_w26; rintro e w27 ⟨h0, h1, l27a, k27a, l27b, k27b, rfl, O27a, O27b, la27, lb27, ka27, kb27, X27, hb27⟩; have E_a0_w27 := E_a0_w26.step hb27; have E_a1_w27 := E_a1_w26.step hb27; have E_y0_w27 := E_y0_w26.step hb27; have E_y1_w27 := E_y1_w26.step hb27; have Q_pa1_w27 : w27.cell? ⟨w.heap.size, 0, none⟩ = some (.slice A1 a1.length c1) := (hb27.cell (p := ⟨w.heap.size, 0, none⟩) Z_pa1_w26).trans Q_pa1_w26; have Z_pa1_w27 := Nat.lt_of_lt_of_le Z_pa1_w26 hb27.size)))
  have hc28 : Below w24.heap.size w24 w27 := ((hb25.trans (hb26.mono (by have := hb25.size; omega))).trans (hb27.mono (by have := hb25.size; have := hb26.size; omega)))
  have U27a : w24.heap.size ≤ l27a := by have := hb25.size; have := hb26.size; omega
  have U27b : w24.heap.size ≤ l27b := by have := hb25.size; have := hb26.size; omega
  have D_pa1_h0 : w1.heap.size ≤ l27a := Nat.le_trans T_pa1_w24 U27a
  have D_pa1_h1 : w1.heap.size ≤ l27b := Nat.le_trans T_pa1_w24 U27b
  have D_r0_h0 : k5a ≤ l27a := Nat.le_trans T_r0_w24 U27a
  have D_r0_h1 : k5a ≤ l27b := Nat.le_trans T_r0_w24 U27b
  have D_r1_h0 : k5b ≤ l27a := Nat.le_trans T_r1_w24 U27a
  have D_r1_h1 : k5b ≤ l27b := Nat.le_trans T_r1_w24 U27b
  have D_g0_h0 : k10a ≤ l27a := Nat.le_trans T_g0_w24 U27a
  have D_g0_h1 : k10a ≤ l27b := Nat.le_trans T_g0_w24 U27b
  have D_g1_h0 : k10b ≤ l27a := Nat.le_trans T_g1_w24 U27a
  have D_g1_h1 : k10b ≤ l27b := Nat.le_trans T_g1_w24 U27b
  have S_h0 : w.heap.size ≤ l27a := Nat.le_trans B_w24.size U27a
  have S_h1 : w.heap.size ≤ l27b := Nat.le_trans B_w24.size U27b
  have F_a0_w27 : Rd w27 w.heap.size (.slice A0 a0.length c0) (fl a0) := F_a0_w24.below (hc28.mono B_w24.size)
  have F_a1_w27 : Rd w27 w.heap.size (.slice A1 a1.length c1) (fl a1) := F_a1_w24.below (hc28.mono B_w24.size)
  have F_pa1_w27 : In w27 w.heap.size w1.heap.size (.slice (some ⟨w.heap.size, 0, none⟩) 1 1) ([(.slice A1 a1.length c1)]) := F_pa1_w24.step hc28
  have T_pa1_w27 : w1.heap.size ≤ w27.heap.size := Nat.le_trans T_pa1_w24 hc28.size
  have F_r0_w27 : In w27 l5a k5a r0 (fl L) := F_r0_w24.step hc28
  have T_r0_w27 : k5a ≤ w27.heap.size := Nat.le_trans T_r0_w24 hc28.size
  have F_r1_w27 : In w27 l5b k5b r1 (fl M) := F_r1_w24.step hc28
  have T_r1_w27 : k5b ≤ w27.heap.size := Nat.le_trans T_r1_w24 hc28.size
  have F_g0_w27 : In w27 l10a k10a g0 ((List.range L.length).map (mkF (1))) := F_g0_w24.step hc28
  have T_g0_w27 : k10a ≤ w27.heap.size := Nat.le_trans T_g0_w24 hc28.size
  have F_g1_w27 : In w27 l10b k10b g1 ((List.range M.length).map (mkF (1 + L.length))) := F_g1_w24.step hc28
  have T_g1_w27 : k10b ≤ w27.heap.size := Nat.le_trans T_g1_w24 hc28.size
  have B_w27 : Below w.heap.size w w27 := B_w24.trans (hc28.mono B_w24.size)
  clear F_a0_w24 F_a1_w24 F_pa1_w24 T_pa1_w24 F_r0_w24 T_r0_w24 F_r1_w24 T_r1_w24 F_g0_w24 T_g0_w24 F_g1_w24 T_g1_w24 B_w24
  have F_h0_w27 : In w27 l27a k27a h0 (fl L) := O27a
  have T_h0_w27 : k27a ≤ w27.heap.size := ka27
  have F_h1_w27 : In w27 l27b k27b h1 (fl M) := O27b
  have T_h1_w27 : k27b ≤ w27.heap.size := kb27
  clear O27a O27b U27a U27b la27 lb27 ka27 kb27
  clear hc28
  go_wp2_with fail
  refine (eqF_any _ _ L L _ _ F_h0_w27.rd F_r0_w27.rd (Worth.refl _) hL).mono ?_
  rintro e w29 ⟨rfl, q29, hw29⟩
  have hb29 : Below w27.heap.size w27 w29 := by rw [hw29]; exact below_drawn (Below.refl _ _) _
  clear hw29
  have F_a0_w29 : Rd w29 w.heap.size (.slice A0 a0.length c0) (fl a0) := F_a0_w27.below (hb29.mono B_w27.size)
  have F_a1_w29 : Rd w29 w.heap.size (.slice A1 a1.length c1) (fl a1) := F_a1_w27.below (hb29.mono B_w27.size)
  have F_pa1_w29 : In w29 w.heap.size w1.heap.size (.slice (some ⟨w.heap.size, 0, none⟩) 1 1) ([(.slice A1 a1.length c1)]) := F_pa1_w27.step hb29
  have T_pa1_w29 : w1.heap.size ≤ w29.heap.size := Nat.le_trans T_pa1_w27 hb29.size
  have F_r0_w29 : In w29 l5a k5a r0 (fl L) := F_r0_w27.step hb29
  have T_r0_w29 : k5a ≤ w29.heap.size := Nat.le_trans T_r0_w27 hb29.size
  have F_r1_w29 : In w29 l5b k5b r1 (fl M) := F_r1_w27.step hb29
  have T_r1_w29 : k5b ≤ w29.heap.size := Nat.le_trans T_r1_w27 hb29.size
  have F_g0_w29 : In w29 l10a k10a g0 ((List.range L.length).map (mkF (1))) := F_g0_w27.step hb29
  have T_g0_w29 : k10a ≤ w29.heap.size := Nat.le_trans T_g0_w27 hb29.size
  have F_g1_w29 : In w29 l10b k10b g1 ((List.range M.length).map (mkF (1 + L.length))) := F_g1_w27.step hb29
  have T_g1_w29 : k10b ≤ w29.heap.size := Nat.le_trans T_g1_w27 hb29.size
  have F_h0_w29 : In w29 l27a k27a h0 (fl L) := F_h0_w27.step hb29
  have T_h0_w29 : k27a ≤ w29.heap.size := Nat.le_trans T_h0_w27 hb29.size
  have F_h1_w29 : In w29 l27b k27b h1 (fl M) := F_h1_w27.step hb29
  have T_h1_w29 : k27b ≤ w29.heap.size := Nat.le_trans T_h1_w27 hb29.size
  have B_w29 : Below w.heap.size w w29 := B_w27.trans (hb29.mono B_w27.size)
  clear F_a0_w27 F_a1_w27 F_pa1_w27 T_pa1_w27 F_r0_w27 T_r0_w27 F_r1_w27 T_r1_w27 F_g0_w27 T_g0_w27 F_g1_w27 T_g1_w27 F_h0_w27 T_h0_w27 F_h1_w27 T_h1_w27 B_w27
  clear hb29
  go_wp2_with fail
  refine (eqF_any _ _ M M _ _ F_h1_w29.rd F_r1_w29.rd (Worth.refl _) hM).mono ?_
  rintro e w30 ⟨rfl, q30, hw30⟩
  have hb30 : Below w29.heap.size w29 w30 := by rw [hw30]; exact below_drawn (Below.refl _ _) _
  clear hw30
  have F_a0_w30 : Rd w30 w.heap.size (.slice A0 a0.length c0) (fl a0) := F_a0_w29.below (hb30.mono B_w29.size)
  have F_a1_w30 : Rd w30 w.heap.size (.slice A1 a1.length c1) (fl a1) := F_a1_w29.below (hb30.mono B_w29.size)
  have F_pa1_w30 : In w30 w.heap.size w1.heap.size (.slice (some ⟨w.heap.size, 0, none⟩) 1 1) ([(.slice A1 a1.length c1)]) := F_pa1_w29.step hb30
  have T_pa1_w30 : w1.heap.size ≤ w30.heap.size := Nat.le_trans T_pa1_w29 hb30.size
  have F_r0_w30 : In w30 l5a k5a r0 (fl L) := F_r0_w29.step hb30
  have T_r0_w30 : k5a ≤ w30.heap.size := Nat.le_trans T_r0_w29 hb30.size
  have F_r1_w30 : In w30 l5b k5b r1 (fl M) := F_r1_w29.step hb30
  have T_r1_w30 : k5b ≤ w30.heap.size := Nat.le_trans T_r1_w29 hb30.size
  have F_g0_w30 : In w30 l10a k10a g0 ((List.range L.length).map (mkF (1))) := F_g0_w29.step hb30
  have T_g0_w30 : k10a ≤ w30.heap.size := Nat.le_trans T_g0_w29 hb30.size
  have F_g1_w30 : In w30 l10b k10b g1 ((List.range M.length).map (mkF (1 + L.length))) := F_g1_w29.step hb30
  have T_g1_w30 : k10b ≤ w30.heap.size := Nat.le_trans T_g1_w29 hb30.size
  have F_h0_w30 : In w30 l27a k27a h0 (fl L) := F_h0_w29.step hb30
  have T_h0_w30 : k27a ≤ w30.heap.size := Nat.le_trans T_h0_w29 hb30.size
  have F_h1_w30 : In w30 l27b k27b h1 (fl M) := F_h1_w29.step hb30
  have T_h1_w30 : k27b ≤ w30.heap.size := Nat.le_trans T_h1_w29 hb30.size
  have B_w30 : Below w.heap.size w w30 := B_w29.trans (hb30.mono B_w29.size)
  clear F_a0_w29 F_a1_w29 F_pa1_w29 T_pa1_w29 F_r0_w29 T_r0_w29 F_r1_w29 T_r1_w29 F_g0_w29 T_g0_w29 F_g1_w29 T_g1_w29 F_h0_w29 T_h0_w29 F_h1_w29 T_h1_w29 B_w29
  clear hb30
  go_wp2_with fail
  refine (heldF_any _ L.length _ _ _ F_g0_w30.rd hL (by omega) (by omega)).mono ?_
  rintro e w' ⟨rfl, rfl⟩
  go_wp2_with fail
  refine (heldF_any _ M.length _ _ _ F_g1_w30.rd hM (by omega) (by omega)).mono ?_
  rintro e w' ⟨rfl, rfl⟩
  go_wp2_with fail
  go_ret
  exact ⟨rfl, B_w30⟩

namespace fnExactSplitRing
open Go.ChangeShapes Go.WideShapes Go.ChangeAt Go.RowKit
open Go.ChangeMaps (open_string)
set_option linter.unusedVariables false
theorem own : ownKnob Try.prog.godebug = none := by kernel_rfl
theorem laidOut : laidOutB Try.prog = true := by kernel_rfl
set_option maxRecDepth 100000 in
theorem lifted (os : Os) (started : os.Started) (H : Type) (enc : TypeId × Value → H) :
    ReturnsInHanded {} Try.checked os 8 .any (Rows.fnExactSplitRingSpec.pre6 enc Try.prog Try.f8 Rows.fnExactSplitRingRow.domain false) (Rows.fnExactSplitRingSpec.post enc Try.prog Try.f8 false true false false) := by
  refine returnsInHanded_of_change (C := Try.checked) own started (by kernel_rfl) Try.func8
    (ChangeSpec.witness6 (enc := enc) (C := Try.checked) false ⟨#[], #[.slice none 0 0, .agg #[.slice none 0 0]], []⟩ 8 (by kernel_rfl) (by kernel_rfl) (by kernel_rfl) (by kernel_rfl)) ?_
  intro W base args ds gs before hval0 hW hcnd _
  have hval : ∀ (j : Nat) t v, Try.f8.params[j]? = some t → args[j]? = some v → Value.okWide Try.prog W .any base t v := hval0
  have hW' := hW
  have hlt0 := hW.lt
  obtain ⟨p, q, hA0, hV, rfl, hfz, hnd⟩ := hW
  have hA : DataW.TrodAll enc Try.prog W 0 (fun _ => true) true Try.f8.params.toList args.toList ds p := hA0
  have hAk := hA
  have hltp : ∀ x ∈ p, x.block < W.heap.size := fun x hx => hlt0 x (List.mem_append_left _ hx)
  have hread : ∀ t ∈ Try.f8.params.toList, Try.prog.readableRec t = true ∧ t < Try.prog.types.size := by
    rw [Try.params8]
    intro t ht
    simp only [List.mem_cons, List.not_mem_nil, or_false] at ht
    rcases ht with rfl | rfl <;> exact ⟨by kernel_rfl, of_decide_eq_true (by kernel_rfl)⟩
  rw [Try.params8] at hA hval
  obtain ⟨v0, vs0, d0, ds0, p0, q0, hargs, rfl, rfl, h0, r0⟩ := trodAll_cons hA
  obtain ⟨v1, vs1, d1, ds1, p1, q1, rfl, rfl, rfl, h1, r1⟩ := trodAll_cons r0
  obtain ⟨rfl, rfl, rfl⟩ := trodAll_nil r1
  obtain rfl : args = #[v0, v1] := by cases args; simp_all
  obtain ⟨rfl, rfl⟩ := trodVars_none hV
  obtain ⟨a0, g0, w0⟩ := open_floats Try.underlying22 Try.underlying62 (by kernel_rfl) (hval 0 22 v0 rfl rfl) h0 (fun x hx => hltp x (by simp [hx]))
  obtain ⟨b1, a1, rfl, g1, w1⟩ := open_pair Try.underlying29 (by kernel_rfl) (by kernel_rfl) Try.underlying22 Try.underlying62 (by kernel_rfl) (hval 1 29 v1 rfl rfl) h1 (fun x hx => hltp x (by simp [hx]))
  clear hA0 hval0
  refine (walk W v0 a0 g0 w0 b1 a1 g1 w1).mono fun e W' ⟨he, hg⟩ => ?_
  subst he
  exact ⟨_, rfl, post_grown (pv := []) hW' hg (fun _ _ _ => (trodAll_cons_mk (shut_bool Try.underlying4 _) trodAll_mk0)) (trodAll_low laidOut hg _ _ _ _ hread hltp hAk) rfl rfl⟩

theorem over : Rows.fnExactSplitRingRow.holds Try.pinned (OpenSpec.ofChange Rows.fnExactSplitRingSpec) :=
  OpenClaim.holds_of_wide 8 Try.f8 rfl rfl rfl rfl rfl rfl rfl ⟨rfl, rfl, rfl, rfl, rfl⟩ rfl rfl rfl rfl rfl (by kernel_rfl) Try.func8 (by kernel_rfl)
    (of_decide_eq_true (by kernel_rfl)) (by unfold Func.isWrapper; first | (rw [if_pos (by decide +kernel)]; kernel_rfl) | (rw [if_neg (by decide +kernel)]; exact ⟨rfl, rfl⟩))
    (fun os started H enc _ => lifted os started H enc)

theorem proved : Rows.FnExactSplitRingSaid := over
end fnExactSplitRing
end Go.Proofs.Ytfhngajodfjkeaa
