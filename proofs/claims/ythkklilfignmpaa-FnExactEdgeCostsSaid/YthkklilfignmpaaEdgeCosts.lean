/-
  At any list of costs, EdgeCosts answers as its model does, in memory of its own, and leaves the list as it was.
-/
import Derived.Test.YthkklilfignmpaaRows
import Derived.ProofKit
import Derived.OpenShut
import Derived.WalkLawsBesides
import Derived.KernelRfl
import Derived.Test.YthkklilfignmpaaEcS
import Derived.Test.YthkklilfignmpaaEcI
import Derived.Test.YthkklilfignmpaaCsm
import Derived.Test.YthkklilfignmpaaOpC
import Derived.Test.YthkklilfignmpaaMkF
namespace Go.Proofs.Ythkklilfignmpaa
open Go.RowKit Fl
set_option linter.unusedVariables false
set_option maxRecDepth 100000 in
set_option maxHeartbeats 8000000 in
theorem fnExactEdgeCosts.walk (w : World) (v0 : Value) (a0 : List (Int × Nat)) (h0 : RdC w w.heap.size v0 a0) (hl0 : a0.length ≤ maxLen) (hx0 : ∀ x ∈ a0, x.2 < 2 ^ 32) :
    Calls Try.prog 7 #[v0] w fun e w' => e = .returned (.bool true) ∧ Below w.heap.size w w' := by
  unfold maxLen at hl0
  obtain ⟨A, c, hv, _⟩ := id h0
  subst hv
  by_cases hbig : 1048576 < a0.length
  · clear h0 hx0
    go_enter Try.func7, Try.ntmps7
    go_wp2_with fail
    refine (szC_any _ _ _ _ _ (by omega) (by omega) (by omega)).mono ?_
    rintro e w' ⟨rfl, rfl⟩
    rw [if_pos (by omega)]
    go_wp2_with fail
    go_ret
    exact ⟨rfl, Below.refl _ _⟩
  have hm0 : a0.length ≤ 1048576 := by omega
  clear hbig
  have key : ∃ L0 : List Int, ∃ b : Bool, L0.length ≤ 1048576 ∧ (∀ (W : World) (u : Value), RdC W W.heap.size u a0 → Calls Try.prog 33 #[u] W (RetJ L0 b W)) ∧ ∀ (W : World) (u : Value), RdC W W.heap.size u a0 → Calls Try.prog 35 #[u] W (RetJ L0 b W) := by
    cases hg : acB a0 with
    | false =>
      have e : ∀ X, ecV a0 X = [] := fun X => ecV_no hg
      refine ⟨[], false, Nat.zero_le _, fun W u h => ?_, fun W u h => ?_⟩
      · rw [← e [], ← hg]; exact ecS_any u a0 [] W h hm0 hx0 (fun h => by rw [hg] at h; cases h)
      · rw [← e [], ← hg]; exact ecI_any u a0 [] W h hm0 hx0 (fun h => by rw [hg] at h; cases h)
    | true =>
      obtain ⟨X, hX, hl⟩ := edge_ex hg a0.length 0 (by omega)
      have hn := (acB_out hg).2.1
      refine ⟨ecV a0 X, acB a0, by rw [ecV_yes hg]; simp; omega, fun W u h => ecS_any u a0 X W h hm0 hx0 (fun _ => hX), fun W u h => ecI_any u a0 X W h hm0 hx0 (fun _ => hX)⟩
  obtain ⟨L0, b, hL0, hS, hI⟩ := key
  have HS := Lib.hid hS
  have HI := Lib.hid hI
  clear hS hI hx0
  go_enter Try.func7, Try.ntmps7
  have F_a0_w : RdC w w.heap.size (.slice A a0.length c) (a0) := h0
  have B_w : Below w.heap.size w w := Below.refl _ _
  clear h0
  go_wp2_with fail
  refine (szC_any _ _ _ _ _ (by omega) (by omega) (by omega)).mono ?_
  rintro e w' ⟨rfl, rfl⟩
  rw [if_neg (by omega)]
  go_wp2_with fail
  refine (toC2_any _ a0 _ (F_a0_w.more B_w.size) hm0).mono ?_
  rintro e w1 ⟨g1, rfl, O1, hb1⟩
  have F_a0_w1 : RdC w1 w.heap.size (.slice A a0.length c) (a0) := F_a0_w.below (hb1.mono B_w.size)
  have B_w1 : Below w.heap.size w w1 := B_w.trans (hb1.mono B_w.size)
  have S_c0 : w.heap.size ≤ w.heap.size := B_w.size
  clear F_a0_w B_w
  have F_c0_w1 : InC w1 w.heap.size w1.heap.size (.slice (some ⟨g1, 0, none⟩) a0.length a0.length) (a0) := InC.made O1
  have T_c0_w1 : w1.heap.size ≤ w1.heap.size := Nat.le_refl _
  clear O1
  clear hb1
  go_wp2_with fail
  refine (HS.out _ _ F_c0_w1.rd).mono ?_
  rintro e w2 ⟨r0, rfl, O2x0, hb2⟩
  have F_a0_w2 : RdC w2 w.heap.size (.slice A a0.length c) (a0) := F_a0_w1.below (hb2.mono B_w1.size)
  have F_c0_w2 : InC w2 w.heap.size w1.heap.size (.slice (some ⟨g1, 0, none⟩) a0.length a0.length) (a0) := F_c0_w1.step hb2
  have T_c0_w2 : w1.heap.size ≤ w2.heap.size := Nat.le_trans T_c0_w1 hb2.size
  have B_w2 : Below w.heap.size w w2 := B_w1.trans (hb2.mono B_w1.size)
  have S_r0 : w.heap.size ≤ w1.heap.size := B_w1.size
  have D_c0_r0 : w1.heap.size ≤ w1.heap.size := T_c0_w1
  clear F_a0_w1 F_c0_w1 T_c0_w1 B_w1
  have F_r0_w2 : In w2 w1.heap.size w2.heap.size r0 (il L0) := In.made O2x0
  have T_r0_w2 : w2.heap.size ≤ w2.heap.size := Nat.le_refl _
  clear O2x0
  clear hb2
  clear F_c0_w2 T_c0_w2
  go_wp2_with fail
  refine (toC2_any _ a0 _ (F_a0_w2.more B_w2.size) hm0).mono ?_
  rintro e w3 ⟨g3, rfl, O3, hb3⟩
  have F_a0_w3 : RdC w3 w.heap.size (.slice A a0.length c) (a0) := F_a0_w2.below (hb3.mono B_w2.size)
  have F_r0_w3 : In w3 w1.heap.size w2.heap.size r0 (il L0) := F_r0_w2.step hb3
  have T_r0_w3 : w2.heap.size ≤ w3.heap.size := Nat.le_trans T_r0_w2 hb3.size
  have B_w3 : Below w.heap.size w w3 := B_w2.trans (hb3.mono B_w2.size)
  have S_x0 : w.heap.size ≤ w2.heap.size := B_w2.size
  have D_r0_x0 : w2.heap.size ≤ w2.heap.size := T_r0_w2
  clear F_a0_w2 F_r0_w2 T_r0_w2 B_w2
  have F_x0_w3 : InC w3 w2.heap.size w3.heap.size (.slice (some ⟨g3, 0, none⟩) a0.length a0.length) (a0) := InC.made O3
  have T_x0_w3 : w3.heap.size ≤ w3.heap.size := Nat.le_refl _
  clear O3
  clear hb3
  go_wp2_with fail
  refine (HI.out _ _ F_x0_w3.rd).mono ?_
  rintro e w4 ⟨g0, rfl, O4x0, hb4⟩
  have F_a0_w4 : RdC w4 w.heap.size (.slice A a0.length c) (a0) := F_a0_w3.below (hb4.mono B_w3.size)
  have F_r0_w4 : In w4 w1.heap.size w2.heap.size r0 (il L0) := F_r0_w3.step hb4
  have T_r0_w4 : w2.heap.size ≤ w4.heap.size := Nat.le_trans T_r0_w3 hb4.size
  have F_x0_w4 : InC w4 w2.heap.size w3.heap.size (.slice (some ⟨g3, 0, none⟩) a0.length a0.length) (a0) := F_x0_w3.step hb4
  have T_x0_w4 : w3.heap.size ≤ w4.heap.size := Nat.le_trans T_x0_w3 hb4.size
  have B_w4 : Below w.heap.size w w4 := B_w3.trans (hb4.mono B_w3.size)
  have S_g0 : w.heap.size ≤ w3.heap.size := B_w3.size
  have D_r0_g0 : w2.heap.size ≤ w3.heap.size := T_r0_w3
  have D_x0_g0 : w3.heap.size ≤ w3.heap.size := T_x0_w3
  clear F_a0_w3 F_r0_w3 T_r0_w3 F_x0_w3 T_x0_w3 B_w3
  have F_g0_w4 : In w4 w3.heap.size w4.heap.size g0 (il L0) := In.made O4x0
  have T_g0_w4 : w4.heap.size ≤ w4.heap.size := Nat.le_refl _
  clear O4x0
  clear hb4
  go_wp2_with fail
  refine (eqI_any _ _ L0 _ _ _ F_g0_w4.rd F_r0_w4.rd hL0).mono ?_
  rintro e w5 ⟨rfl, q5, hw5⟩
  have hb5 : Below w4.heap.size w4 w5 := by rw [hw5]; exact below_drawn (Below.refl _ _) _
  clear hw5
  have F_a0_w5 : RdC w5 w.heap.size (.slice A a0.length c) (a0) := F_a0_w4.below (hb5.mono B_w4.size)
  have F_r0_w5 : In w5 w1.heap.size w2.heap.size r0 (il L0) := F_r0_w4.step hb5
  have T_r0_w5 : w2.heap.size ≤ w5.heap.size := Nat.le_trans T_r0_w4 hb5.size
  have F_x0_w5 : InC w5 w2.heap.size w3.heap.size (.slice (some ⟨g3, 0, none⟩) a0.length a0.length) (a0) := F_x0_w4.step hb5
  have T_x0_w5 : w3.heap.size ≤ w5.heap.size := Nat.le_trans T_x0_w4 hb5.size
  have F_g0_w5 : In w5 w3.heap.size w4.heap.size g0 (il L0) := F_g0_w4.step hb5
  have T_g0_w5 : w4.heap.size ≤ w5.heap.size := Nat.le_trans T_g0_w4 hb5.size
  have B_w5 : Below w.heap.size w w5 := B_w4.trans (hb5.mono B_w4.size)
  clear F_a0_w4 F_r0_w4 T_r0_w4 F_x0_w4 T_x0_w4 F_g0_w4 T_g0_w4 B_w4
  clear hb5
  go_wp2_with fail
  refine (toC2_any _ a0 _ (F_a0_w5.more B_w5.size) hm0).mono ?_
  rintro e w6 ⟨g6, rfl, O6, hb6⟩
  have F_a0_w6 : RdC w6 w.heap.size (.slice A a0.length c) (a0) := F_a0_w5.below (hb6.mono B_w5.size)
  have F_r0_w6 : In w6 w1.heap.size w2.heap.size r0 (il L0) := F_r0_w5.step hb6
  have T_r0_w6 : w2.heap.size ≤ w6.heap.size := Nat.le_trans T_r0_w5 hb6.size
  have F_x0_w6 : InC w6 w2.heap.size w3.heap.size (.slice (some ⟨g3, 0, none⟩) a0.length a0.length) (a0) := F_x0_w5.step hb6
  have T_x0_w6 : w3.heap.size ≤ w6.heap.size := Nat.le_trans T_x0_w5 hb6.size
  have F_g0_w6 : In w6 w3.heap.size w4.heap.size g0 (il L0) := F_g0_w5.step hb6
  have T_g0_w6 : w4.heap.size ≤ w6.heap.size := Nat.le_trans T_g0_w5 hb6.size
  have B_w6 : Below w.heap.size w w6 := B_w5.trans (hb6.mono B_w5.size)
  have S_d0 : w.heap.size ≤ w5.heap.size := B_w5.size
  have D_r0_d0 : w2.heap.size ≤ w5.heap.size := T_r0_w5
  have D_x0_d0 : w3.heap.size ≤ w5.heap.size := T_x0_w5
  have D_g0_d0 : w4.heap.size ≤ w5.heap.size := T_g0_w5
  clear F_a0_w5 F_r0_w5 T_r0_w5 F_x0_w5 T_x0_w5 F_g0_w5 T_g0_w5 B_w5
  have F_d0_w6 : InC w6 w5.heap.size w6.heap.size (.slice (some ⟨g6, 0, none⟩) a0.length a0.length) (a0) := InC.made O6
  have T_d0_w6 : w6.heap.size ≤ w6.heap.size := Nat.le_refl _
  clear O6
  clear hb6
  go_wp2_with fail
  refine (eqC_any _ _ a0 _ F_x0_w6.rd F_d0_w6.rd hm0).mono ?_
  rintro e w7 ⟨rfl, hb7⟩
  have F_a0_w7 : RdC w7 w.heap.size (.slice A a0.length c) (a0) := F_a0_w6.below (hb7.mono B_w6.size)
  have F_r0_w7 : In w7 w1.heap.size w2.heap.size r0 (il L0) := F_r0_w6.step hb7
  have T_r0_w7 : w2.heap.size ≤ w7.heap.size := Nat.le_trans T_r0_w6 hb7.size
  have F_x0_w7 : InC w7 w2.heap.size w3.heap.size (.slice (some ⟨g3, 0, none⟩) a0.length a0.length) (a0) := F_x0_w6.step hb7
  have T_x0_w7 : w3.heap.size ≤ w7.heap.size := Nat.le_trans T_x0_w6 hb7.size
  have F_g0_w7 : In w7 w3.heap.size w4.heap.size g0 (il L0) := F_g0_w6.step hb7
  have T_g0_w7 : w4.heap.size ≤ w7.heap.size := Nat.le_trans T_g0_w6 hb7.size
  have F_d0_w7 : InC w7 w5.heap.size w6.heap.size (.slice (some ⟨g6, 0, none⟩) a0.length a0.length) (a0) := F_d0_w6.step hb7
  have T_d0_w7 : w6.heap.size ≤ w7.heap.size := Nat.le_trans T_d0_w6 hb7.size
  have B_w7 : Below w.heap.size w w7 := B_w6.trans (hb7.mono B_w6.size)
  clear F_a0_w6 F_r0_w6 T_r0_w6 F_x0_w6 T_x0_w6 F_g0_w6 T_g0_w6 F_d0_w6 T_d0_w6 B_w6
  clear hb7
  clear F_d0_w7 T_d0_w7
  go_wp2_with fail
  refine (markC_any _ a0 _ _ _ F_x0_w7 hm0).mono ?_
  rintro e w8 ⟨rfl, ht8⟩
  have F_a0_w8 : RdC w8 w.heap.size (.slice A a0.length c) (a0) := F_a0_w7.tw ht8 S_x0 B_w7.size
  have F_r0_w8 : In w8 w1.heap.size w2.heap.size r0 (il L0) := F_r0_w7.tw ht8 (.inl D_r0_x0)
  have T_r0_w8 : w2.heap.size ≤ w8.heap.size := Nat.le_trans T_r0_w7 ht8.size
  have F_g0_w8 : In w8 w3.heap.size w4.heap.size g0 (il L0) := F_g0_w7.tw ht8 (.inr D_x0_g0)
  have T_g0_w8 : w4.heap.size ≤ w8.heap.size := Nat.le_trans T_g0_w7 ht8.size
  have B_w8 : Below w.heap.size w w8 := B_w7.trans (ht8.below S_x0 B_w7.size)
  clear F_a0_w7 F_r0_w7 T_r0_w7 F_x0_w7 T_x0_w7 F_g0_w7 T_g0_w7 B_w7 ht8
  go_wp2_with fail
  refine (eqI_any _ _ L0 _ _ _ F_g0_w8.rd F_r0_w8.rd hL0).mono ?_
  rintro e w9 ⟨rfl, q9, hw9⟩
  have hb9 : Below w8.heap.size w8 w9 := by rw [hw9]; exact below_drawn (Below.refl _ _) _
  clear hw9
  have F_a0_w9 : RdC w9 w.heap.size (.slice A a0.length c) (a0) := F_a0_w8.below (hb9.mono B_w8.size)
  have F_r0_w9 : In w9 w1.heap.size w2.heap.size r0 (il L0) := F_r0_w8.step hb9
  have T_r0_w9 : w2.heap.size ≤ w9.heap.size := Nat.le_trans T_r0_w8 hb9.size
  have F_g0_w9 : In w9 w3.heap.size w4.heap.size g0 (il L0) := F_g0_w8.step hb9
  have T_g0_w9 : w4.heap.size ≤ w9.heap.size := Nat.le_trans T_g0_w8 hb9.size
  have B_w9 : Below w.heap.size w w9 := B_w8.trans (hb9.mono B_w8.size)
  clear F_a0_w8 F_r0_w8 T_r0_w8 F_g0_w8 T_g0_w8 B_w8
  clear hb9
  go_wp2_with fail
  refine (markI_any _ L0 _ _ _ F_g0_w9.1 hL0 (by omega) (by omega)).mono ?_
  rintro e w10 ⟨rfl, hw10⟩
  have ht10 : Tw w3.heap.size w4.heap.size w9 w10 := by rw [hw10]; exact over_tw F_g0_w9.1 F_g0_w9.2 _
  have NF10 : In w10 w3.heap.size w4.heap.size g0 ((List.range L0.length).map (mkI (1))) := by rw [hw10]; have := F_g0_w9.over (mkI (1)); rw [il_len] at this; exact this
  clear hw10
  have F_a0_w10 : RdC w10 w.heap.size (.slice A a0.length c) (a0) := F_a0_w9.tw ht10 S_g0 B_w9.size
  have F_r0_w10 : In w10 w1.heap.size w2.heap.size r0 (il L0) := F_r0_w9.tw ht10 (.inl D_r0_g0)
  have T_r0_w10 : w2.heap.size ≤ w10.heap.size := Nat.le_trans T_r0_w9 ht10.size
  have F_g0_w10 : In w10 w3.heap.size w4.heap.size g0 ((List.range L0.length).map (mkI (1))) := NF10
  have T_g0_w10 : w4.heap.size ≤ w10.heap.size := Nat.le_trans T_g0_w9 ht10.size
  have B_w10 : Below w.heap.size w w10 := B_w9.trans (ht10.below S_g0 B_w9.size)
  clear F_a0_w9 F_r0_w9 T_r0_w9 F_g0_w9 T_g0_w9 B_w9
  clear ht10 NF10
  go_wp2_with fail
  refine (heldI_any _ L0.length _ _ _ F_g0_w10.rd hL0 (by omega) (by omega)).mono ?_
  rintro e w' ⟨rfl, rfl⟩
  go_wp2_with fail
  refine (toC2_any _ a0 _ (F_a0_w10.more B_w10.size) hm0).mono ?_
  rintro e w11 ⟨g11, rfl, O11, hb11⟩
  have F_a0_w11 : RdC w11 w.heap.size (.slice A a0.length c) (a0) := F_a0_w10.below (hb11.mono B_w10.size)
  have F_r0_w11 : In w11 w1.heap.size w2.heap.size r0 (il L0) := F_r0_w10.step hb11
  have T_r0_w11 : w2.heap.size ≤ w11.heap.size := Nat.le_trans T_r0_w10 hb11.size
  have F_g0_w11 : In w11 w3.heap.size w4.heap.size g0 ((List.range L0.length).map (mkI (1))) := F_g0_w10.step hb11
  have T_g0_w11 : w4.heap.size ≤ w11.heap.size := Nat.le_trans T_g0_w10 hb11.size
  have B_w11 : Below w.heap.size w w11 := B_w10.trans (hb11.mono B_w10.size)
  have S_y0 : w.heap.size ≤ w10.heap.size := B_w10.size
  have D_r0_y0 : w2.heap.size ≤ w10.heap.size := T_r0_w10
  have D_g0_y0 : w4.heap.size ≤ w10.heap.size := T_g0_w10
  clear F_a0_w10 F_r0_w10 T_r0_w10 F_g0_w10 T_g0_w10 B_w10
  have F_y0_w11 : InC w11 w10.heap.size w11.heap.size (.slice (some ⟨g11, 0, none⟩) a0.length a0.length) (a0) := InC.made O11
  have T_y0_w11 : w11.heap.size ≤ w11.heap.size := Nat.le_refl _
  clear O11
  clear hb11
  go_wp2_with fail
  refine (HI.out _ _ F_y0_w11.rd).mono ?_
  rintro e w12 ⟨h0, rfl, O12x0, hb12⟩
  have F_a0_w12 : RdC w12 w.heap.size (.slice A a0.length c) (a0) := F_a0_w11.below (hb12.mono B_w11.size)
  have F_r0_w12 : In w12 w1.heap.size w2.heap.size r0 (il L0) := F_r0_w11.step hb12
  have T_r0_w12 : w2.heap.size ≤ w12.heap.size := Nat.le_trans T_r0_w11 hb12.size
  have F_g0_w12 : In w12 w3.heap.size w4.heap.size g0 ((List.range L0.length).map (mkI (1))) := F_g0_w11.step hb12
  have T_g0_w12 : w4.heap.size ≤ w12.heap.size := Nat.le_trans T_g0_w11 hb12.size
  have F_y0_w12 : InC w12 w10.heap.size w11.heap.size (.slice (some ⟨g11, 0, none⟩) a0.length a0.length) (a0) := F_y0_w11.step hb12
  have T_y0_w12 : w11.heap.size ≤ w12.heap.size := Nat.le_trans T_y0_w11 hb12.size
  have B_w12 : Below w.heap.size w w12 := B_w11.trans (hb12.mono B_w11.size)
  have S_h0 : w.heap.size ≤ w11.heap.size := B_w11.size
  have D_r0_h0 : w2.heap.size ≤ w11.heap.size := T_r0_w11
  have D_g0_h0 : w4.heap.size ≤ w11.heap.size := T_g0_w11
  have D_y0_h0 : w11.heap.size ≤ w11.heap.size := T_y0_w11
  clear F_a0_w11 F_r0_w11 T_r0_w11 F_g0_w11 T_g0_w11 F_y0_w11 T_y0_w11 B_w11
  have F_h0_w12 : In w12 w11.heap.size w12.heap.size h0 (il L0) := In.made O12x0
  have T_h0_w12 : w12.heap.size ≤ w12.heap.size := Nat.le_refl _
  clear O12x0
  clear hb12
  clear F_y0_w12 T_y0_w12
  go_wp2_with fail
  refine (eqI_any _ _ L0 _ _ _ F_h0_w12.rd F_r0_w12.rd hL0).mono ?_
  rintro e w13 ⟨rfl, q13, hw13⟩
  have hb13 : Below w12.heap.size w12 w13 := by rw [hw13]; exact below_drawn (Below.refl _ _) _
  clear hw13
  have F_a0_w13 : RdC w13 w.heap.size (.slice A a0.length c) (a0) := F_a0_w12.below (hb13.mono B_w12.size)
  have F_r0_w13 : In w13 w1.heap.size w2.heap.size r0 (il L0) := F_r0_w12.step hb13
  have T_r0_w13 : w2.heap.size ≤ w13.heap.size := Nat.le_trans T_r0_w12 hb13.size
  have F_g0_w13 : In w13 w3.heap.size w4.heap.size g0 ((List.range L0.length).map (mkI (1))) := F_g0_w12.step hb13
  have T_g0_w13 : w4.heap.size ≤ w13.heap.size := Nat.le_trans T_g0_w12 hb13.size
  have F_h0_w13 : In w13 w11.heap.size w12.heap.size h0 (il L0) := F_h0_w12.step hb13
  have T_h0_w13 : w12.heap.size ≤ w13.heap.size := Nat.le_trans T_h0_w12 hb13.size
  have B_w13 : Below w.heap.size w w13 := B_w12.trans (hb13.mono B_w12.size)
  clear F_a0_w12 F_r0_w12 T_r0_w12 F_g0_w12 T_g0_w12 F_h0_w12 T_h0_w12 B_w12
  clear hb13
  go_wp2_with fail
  refine (heldI_any _ L0.length _ _ _ F_g0_w13.rd hL0 (by omega) (by omega)).mono ?_
  rintro e w' ⟨rfl, rfl⟩
  go_wp2_with fail
  go_ret
  exact ⟨rfl, B_w13⟩
namespace fnExactEdgeCosts
open Go.ChangeShapes Go.WideShapes Go.ChangeAt Go.RowKit
open Go.ChangeMaps (open_string)
set_option linter.unusedVariables false
theorem own : ownKnob Try.prog.godebug = none := by kernel_rfl
theorem laidOut : laidOutB Try.prog = true := by kernel_rfl
set_option maxRecDepth 100000 in
theorem lifted (os : Os) (started : os.Started) (H : Type) (enc : TypeId × Value → H) :
    ReturnsInHanded {} Try.checked os 7 .any (Rows.fnExactEdgeCostsSpec.pre6 enc Try.prog Try.f7 Rows.fnExactEdgeCostsRow.domain false) (Rows.fnExactEdgeCostsSpec.post enc Try.prog Try.f7 false true false false) := by
  refine returnsInHanded_of_change (C := Try.checked) own started (by kernel_rfl) Try.func7
    (ChangeSpec.witness6 (enc := enc) (C := Try.checked) false ⟨#[], #[.slice none 0 0], []⟩ 8 (by kernel_rfl) (by kernel_rfl) (by kernel_rfl) (by kernel_rfl)) ?_
  intro W base args ds gs before hval0 hW hcnd _
  have hval : ∀ (j : Nat) t v, Try.f7.params[j]? = some t → args[j]? = some v → Value.okWide Try.prog W .any base t v := hval0
  have hW' := hW
  have hlt0 := hW.lt
  obtain ⟨p, q, hA0, hV, rfl, hfz, hnd⟩ := hW
  have hA : DataW.TrodAll enc Try.prog W 0 (fun _ => true) true Try.f7.params.toList args.toList ds p := hA0
  have hAk := hA
  have hltp : ∀ x ∈ p, x.block < W.heap.size := fun x hx => hlt0 x (List.mem_append_left _ hx)
  have hread : ∀ t ∈ Try.f7.params.toList, Try.prog.readableRec t = true ∧ t < Try.prog.types.size := by
    rw [Try.params7]
    intro t ht
    simp only [List.mem_cons, List.not_mem_nil, or_false] at ht
    rcases ht with rfl <;> exact ⟨by kernel_rfl, of_decide_eq_true (by kernel_rfl)⟩
  rw [Try.params7] at hA hval
  obtain ⟨v0, vs0, d0, ds0, p0, q0, hargs, rfl, rfl, h0, r0⟩ := trodAll_cons hA
  obtain ⟨rfl, rfl, rfl⟩ := trodAll_nil r0
  obtain rfl : args = #[v0] := by cases args; simp_all
  obtain ⟨rfl, rfl⟩ := trodVars_none hV
  obtain ⟨a0, g0, l0, w0⟩ := open_costs Try.underlying58 Try.underlying128 (by kernel_rfl) rfl rfl (by kernel_rfl) (by kernel_rfl) Try.underlying2 Try.underlying23 (hval 0 58 v0 rfl rfl) h0 (fun x hx => hltp x (by simp [hx]))
  clear hA0 hval0
  refine (walk W v0 a0 g0 l0 w0).mono fun e W' ⟨he, hg⟩ => ?_
  subst he
  exact ⟨_, rfl, post_grown (pv := []) hW' hg (fun _ _ _ => (trodAll_cons_mk (shut_bool Try.underlying4 _) trodAll_mk0)) (trodAll_low laidOut hg _ _ _ _ hread hltp hAk) rfl rfl⟩

theorem over : Rows.fnExactEdgeCostsRow.holds Try.pinned (OpenSpec.ofChange Rows.fnExactEdgeCostsSpec) :=
  OpenClaim.holds_of_wide 7 Try.f7 rfl rfl rfl rfl rfl rfl rfl ⟨rfl, rfl, rfl, rfl, rfl⟩ rfl rfl rfl rfl rfl (by kernel_rfl) Try.func7 (by kernel_rfl)
    (of_decide_eq_true (by kernel_rfl)) (by unfold Func.isWrapper; first | (rw [if_pos (by decide +kernel)]; kernel_rfl) | (rw [if_neg (by decide +kernel)]; exact ⟨rfl, rfl⟩))
    (fun os started H enc _ => lifted os started H enc)

theorem proved : Rows.FnExactEdgeCostsSaid := over
end fnExactEdgeCosts
end Go.Proofs.Ythkklilfignmpaa
