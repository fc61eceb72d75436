/-
  At any table, LastOfHull answers as its model does, and leaves both lists as they were.
-/
import Derived.Test.YtfcegkighjnmeaaRows
import Derived.ProofKit
import Derived.OpenShut
import Derived.WalkLawsBesides
import Derived.KernelRfl
import Derived.Test.YtfcegkighjnmeaaHo
import Derived.Test.YtfcegkighjnmeaaMkF
import Derived.Test.YtfcegkighjnmeaaTw
import Derived.Test.YtfcegkighjnmeaaBls
namespace Go.Proofs.Ytfcegkighjnmeaa
open Go.RowKit Fl
set_option linter.unusedVariables false
set_option maxRecDepth 100000 in
set_option maxHeartbeats 8000000 in
theorem fnExactLastOfHull.walk (w : World) (v0 : Value) (a0 : List Int) (h0 : Rd w w.heap.size v0 (il a0)) (w0 : ∀ x ∈ a0, (Lit.int .i64 x).wf = true) (v1 : Value) (a1 : List Nat) (h1 : Rd w w.heap.size v1 (a1.map (.float .f32))) (w1 : ∀ x ∈ a1, x < 2 ^ 32) :
    Calls Try.prog 6 #[v0, v1] w fun e w' => e = .returned (.bool true) ∧ Below w.heap.size w w' := by
  have hle0 := h0.le
  rw [il_len] at hle0
  unfold maxLen at hle0
  obtain ⟨A0, c0, hv0, hc01, hc02, hcell0⟩ := id h0
  rw [il_len] at hv0
  clear hcell0 hc01 hc02
  subst hv0
  have HX0 := Lib.hid w0
  clear w0
  have hle1 := h1.le
  rw [show (a1.map (.float .f32)) = fl a1 from rfl, fl_len] at hle1
  replace h1 : Rd w w.heap.size v1 (fl a1) := h1
  unfold maxLen at hle1
  obtain ⟨A1, c1, hv1, hc11, hc12, hcell1⟩ := id h1
  rw [fl_len] at hv1
  clear hcell1 hc11 hc12
  subst hv1
  have HX1 := Lib.hid w1
  clear w1
  by_cases hbig0 : 1048576 < a0.length
  · go_enter Try.func6, Try.ntmps6
    go_wp2_with fail
    go_ret
    exact ⟨rfl, Below.refl _ _⟩
  have hm0 : a0.length ≤ 1048576 := by omega
  clear hbig0
  by_cases hbig1 : 1048576 < a1.length
  · go_enter Try.func6, Try.ntmps6
    go_wp2_with fail
    go_ret
    exact ⟨rfl, Below.refl _ _⟩
  have hm1 : a1.length ≤ 1048576 := by omega
  clear hbig1
  obtain ⟨X, hX, hXl⟩ := hull_ex a0 a1 a0.length a0.length 0 (by omega)
  obtain ⟨z, hze⟩ : ∃ x, x = laV a0 a1 X := ⟨_, rfl⟩
  obtain ⟨b, hbe⟩ : ∃ x, x = tbB a0 a1 := ⟨_, rfl⟩
  have HS := Lib.hid (fun (w' : World) (u0 : Value) (u1 : Value) (hr0 : Rd w' w'.heap.size u0 (il a0)) (hr1 : Rd w' w'.heap.size u1 (fl a1)) => (show Calls Try.prog 32 #[u0, u1] w' (RetV (.tuple #[.int .i64 z, .bool b]) w') by rw [hze, hbe]; exact (laS_any u0 u1 a0 a1 X w' hr0 hr1 hm0 hm1 HX1.out HX0.out hX hXl)))
  have HI := Lib.hid (fun (w' : World) (u0 : Value) (u1 : Value) (hr0 : Rd w' w'.heap.size u0 (il a0)) (hr1 : Rd w' w'.heap.size u1 (fl a1)) => (show Calls Try.prog 33 #[u0, u1] w' (RetV (.tuple #[.int .i64 z, .bool b]) w') by rw [hze, hbe]; exact (laI_any u0 u1 a0 a1 X w' hr0 hr1 hm0 hm1 HX1.out HX0.out hX hXl)))
  clear hze hbe
  go_enter Try.func6, Try.ntmps6
  have F_a0_w : Rd w w.heap.size (.slice A0 a0.length c0) (il a0) := h0
  have F_a1_w : Rd w w.heap.size (.slice A1 a1.length c1) (fl a1) := h1
  have B_w : Below w.heap.size w w := Below.refl _ _
  clear h0 h1
  go_wp2_with fail
  refine (toI_any _ a0 _ _ (F_a0_w.more B_w.size) (Nat.le_refl _) hm0).mono ?_
  rintro e w1 ⟨g1, rfl, P1, hb1⟩
  have O1 := P1
  clear P1
  have F_a0_w1 : Rd w1 w.heap.size (.slice A0 a0.length c0) (il a0) := F_a0_w.below (hb1.mono B_w.size)
  have F_a1_w1 : Rd w1 w.heap.size (.slice A1 a1.length c1) (fl a1) := F_a1_w.below (hb1.mono B_w.size)
  have B_w1 : Below w.heap.size w w1 := B_w.trans (hb1.mono B_w.size)
  have S_c0 : w.heap.size ≤ w.heap.size := B_w.size
  clear F_a0_w F_a1_w B_w
  have F_c0_w1 : In w1 w.heap.size w1.heap.size (.slice (some ⟨g1, 0, none⟩) a0.length a0.length) (il a0) := In.made O1
  have T_c0_w1 : w1.heap.size ≤ w1.heap.size := Nat.le_refl _
  clear O1
  clear hb1
  go_wp2_with fail
  refine (toF_any _ a1 _ _ (F_a1_w1.more B_w1.size) (Nat.le_refl _) hm1).mono ?_
  rintro e w2 ⟨g2, rfl, P2, hb2⟩
  have O2 := Own.row P2
  clear P2
  have F_a0_w2 : Rd w2 w.heap.size (.slice A0 a0.length c0) (il a0) := F_a0_w1.below (hb2.mono B_w1.size)
  have F_a1_w2 : Rd w2 w.heap.size (.slice A1 a1.length c1) (fl a1) := F_a1_w1.below (hb2.mono B_w1.size)
  have F_c0_w2 : In w2 w.heap.size w1.heap.size (.slice (some ⟨g1, 0, none⟩) a0.length a0.length) (il a0) := F_c0_w1.step hb2
  have T_c0_w2 : w1.heap.size ≤ w2.heap.size := Nat.le_trans T_c0_w1 hb2.size
  have B_w2 : Below w.heap.size w w2 := B_w1.trans (hb2.mono B_w1.size)
  have S_c1 : w.heap.size ≤ w1.heap.size := B_w1.size
  have D_c0_c1 : w1.heap.size ≤ w1.heap.size := T_c0_w1
  clear F_a0_w1 F_a1_w1 F_c0_w1 T_c0_w1 B_w1
  have F_c1_w2 : In w2 w1.heap.size w2.heap.size (.slice (some ⟨g2, 0, none⟩) a1.length a1.length) (fl a1) := In.made O2
  have T_c1_w2 : w2.heap.size ≤ w2.heap.size := Nat.le_refl _
  clear O2
  clear hb2
  go_wp2_with fail
  refine (HS.out _ _ _ F_c0_w2.rd F_c1_w2.rd).mono ?_
  rintro e w3 ⟨rfl, hb3⟩
  have F_a0_w3 : Rd w3 w.heap.size (.slice A0 a0.length c0) (il a0) := F_a0_w2.below (hb3.mono B_w2.size)
  have F_a1_w3 : Rd w3 w.heap.size (.slice A1 a1.length c1) (fl a1) := F_a1_w2.below (hb3.mono B_w2.size)
  have F_c0_w3 : In w3 w.heap.size w1.heap.size (.slice (some ⟨g1, 0, none⟩) a0.length a0.length) (il a0) := F_c0_w2.step hb3
  have T_c0_w3 : w1.heap.size ≤ w3.heap.size := Nat.le_trans T_c0_w2 hb3.size
  have F_c1_w3 : In w3 w1.heap.size w2.heap.size (.slice (some ⟨g2, 0, none⟩) a1.length a1.length) (fl a1) := F_c1_w2.step hb3
  have T_c1_w3 : w2.heap.size ≤ w3.heap.size := Nat.le_trans T_c1_w2 hb3.size
  have B_w3 : Below w.heap.size w w3 := B_w2.trans (hb3.mono B_w2.size)
  clear F_a0_w2 F_a1_w2 F_c0_w2 T_c0_w2 F_c1_w2 T_c1_w2 B_w2
  clear hb3
  clear F_c0_w3 T_c0_w3 F_c1_w3 T_c1_w3
  go_wp2_with fail
  refine (toI_any _ a0 _ _ (F_a0_w3.more B_w3.size) (Nat.le_refl _) hm0).mono ?_
  rintro e w4 ⟨g4, rfl, P4, hb4⟩
  have O4 := P4
  clear P4
  have F_a0_w4 : Rd w4 w.heap.size (.slice A0 a0.length c0) (il a0) := F_a0_w3.below (hb4.mono B_w3.size)
  have F_a1_w4 : Rd w4 w.heap.size (.slice A1 a1.length c1) (fl a1) := F_a1_w3.below (hb4.mono B_w3.size)
  have B_w4 : Below w.heap.size w w4 := B_w3.trans (hb4.mono B_w3.size)
  have S_x0 : w.heap.size ≤ w3.heap.size := B_w3.size
  clear F_a0_w3 F_a1_w3 B_w3
  have F_x0_w4 : In w4 w3.heap.size w4.heap.size (.slice (some ⟨g4, 0, none⟩) a0.length a0.length) (il a0) := In.made O4
  have T_x0_w4 : w4.heap.size ≤ w4.heap.size := Nat.le_refl _
  clear O4
  clear hb4
  go_wp2_with fail
  refine (toF_any _ a1 _ _ (F_a1_w4.more B_w4.size) (Nat.le_refl _) hm1).mono ?_
  rintro e w5 ⟨g5, rfl, P5, hb5⟩
  have O5 := Own.row P5
  clear P5
  have F_a0_w5 : Rd w5 w.heap.size (.slice A0 a0.length c0) (il a0) := F_a0_w4.below (hb5.mono B_w4.size)
  have F_a1_w5 : Rd w5 w.heap.size (.slice A1 a1.length c1) (fl a1) := F_a1_w4.below (hb5.mono B_w4.size)
  have F_x0_w5 : In w5 w3.heap.size w4.heap.size (.slice (some ⟨g4, 0, none⟩) a0.length a0.length) (il a0) := F_x0_w4.step hb5
  have T_x0_w5 : w4.heap.size ≤ w5.heap.size := Nat.le_trans T_x0_w4 hb5.size
  have B_w5 : Below w.heap.size w w5 := B_w4.trans (hb5.mono B_w4.size)
  have S_x1 : w.heap.size ≤ w4.heap.size := B_w4.size
  have D_x0_x1 : w4.heap.size ≤ w4.heap.size := T_x0_w4
  clear F_a0_w4 F_a1_w4 F_x0_w4 T_x0_w4 B_w4
  have F_x1_w5 : In w5 w4.heap.size w5.heap.size (.slice (some ⟨g5, 0, none⟩) a1.length a1.length) (fl a1) := In.made O5
  have T_x1_w5 : w5.heap.size ≤ w5.heap.size := Nat.le_refl _
  clear O5
  clear hb5
  go_wp2_with fail
  refine (HI.out _ _ _ F_x0_w5.rd F_x1_w5.rd).mono ?_
  rintro e w6 ⟨rfl, hb6⟩
  have F_a0_w6 : Rd w6 w.heap.size (.slice A0 a0.length c0) (il a0) := F_a0_w5.below (hb6.mono B_w5.size)
  have F_a1_w6 : Rd w6 w.heap.size (.slice A1 a1.length c1) (fl a1) := F_a1_w5.below (hb6.mono B_w5.size)
  have F_x0_w6 : In w6 w3.heap.size w4.heap.size (.slice (some ⟨g4, 0, none⟩) a0.length a0.length) (il a0) := F_x0_w5.step hb6
  have T_x0_w6 : w4.heap.size ≤ w6.heap.size := Nat.le_trans T_x0_w5 hb6.size
  have F_x1_w6 : In w6 w4.heap.size w5.heap.size (.slice (some ⟨g5, 0, none⟩) a1.length a1.length) (fl a1) := F_x1_w5.step hb6
  have T_x1_w6 : w5.heap.size ≤ w6.heap.size := Nat.le_trans T_x1_w5 hb6.size
  have B_w6 : Below w.heap.size w w6 := B_w5.trans (hb6.mono B_w5.size)
  clear F_a0_w5 F_a1_w5 F_x0_w5 T_x0_w5 F_x1_w5 T_x1_w5 B_w5
  clear hb6
  go_wp2_with fail
  refine (toI_any _ a0 _ _ (F_a0_w6.more B_w6.size) (Nat.le_refl _) hm0).mono ?_
  rintro e w7 ⟨g7, rfl, P7, hb7⟩
  have O7 := P7
  clear P7
  have F_a0_w7 : Rd w7 w.heap.size (.slice A0 a0.length c0) (il a0) := F_a0_w6.below (hb7.mono B_w6.size)
  have F_a1_w7 : Rd w7 w.heap.size (.slice A1 a1.length c1) (fl a1) := F_a1_w6.below (hb7.mono B_w6.size)
  have F_x0_w7 : In w7 w3.heap.size w4.heap.size (.slice (some ⟨g4, 0, none⟩) a0.length a0.length) (il a0) := F_x0_w6.step hb7
  have T_x0_w7 : w4.heap.size ≤ w7.heap.size := Nat.le_trans T_x0_w6 hb7.size
  have F_x1_w7 : In w7 w4.heap.size w5.heap.size (.slice (some ⟨g5, 0, none⟩) a1.length a1.length) (fl a1) := F_x1_w6.step hb7
  have T_x1_w7 : w5.heap.size ≤ w7.heap.size := Nat.le_trans T_x1_w6 hb7.size
  have B_w7 : Below w.heap.size w w7 := B_w6.trans (hb7.mono B_w6.size)
  have S_d0 : w.heap.size ≤ w6.heap.size := B_w6.size
  have D_x0_d0 : w4.heap.size ≤ w6.heap.size := T_x0_w6
  have D_x1_d0 : w5.heap.size ≤ w6.heap.size := T_x1_w6
  clear F_a0_w6 F_a1_w6 F_x0_w6 T_x0_w6 F_x1_w6 T_x1_w6 B_w6
  have F_d0_w7 : In w7 w6.heap.size w7.heap.size (.slice (some ⟨g7, 0, none⟩) a0.length a0.length) (il a0) := In.made O7
  have T_d0_w7 : w7.heap.size ≤ w7.heap.size := Nat.le_refl _
  clear O7
  clear hb7
  go_wp2_with fail
  refine (eqI_any _ _ a0 _ _ _ F_x0_w7.rd F_d0_w7.rd hm0).mono ?_
  rintro e w8 ⟨rfl, q8, hw8⟩
  have hb8 : Below w7.heap.size w7 w8 := by rw [hw8]; exact below_drawn (Below.refl _ _) _
  clear hw8
  have F_a0_w8 : Rd w8 w.heap.size (.slice A0 a0.length c0) (il a0) := F_a0_w7.below (hb8.mono B_w7.size)
  have F_a1_w8 : Rd w8 w.heap.size (.slice A1 a1.length c1) (fl a1) := F_a1_w7.below (hb8.mono B_w7.size)
  have F_x0_w8 : In w8 w3.heap.size w4.heap.size (.slice (some ⟨g4, 0, none⟩) a0.length a0.length) (il a0) := F_x0_w7.step hb8
  have T_x0_w8 : w4.heap.size ≤ w8.heap.size := Nat.le_trans T_x0_w7 hb8.size
  have F_x1_w8 : In w8 w4.heap.size w5.heap.size (.slice (some ⟨g5, 0, none⟩) a1.length a1.length) (fl a1) := F_x1_w7.step hb8
  have T_x1_w8 : w5.heap.size ≤ w8.heap.size := Nat.le_trans T_x1_w7 hb8.size
  have F_d0_w8 : In w8 w6.heap.size w7.heap.size (.slice (some ⟨g7, 0, none⟩) a0.length a0.length) (il a0) := F_d0_w7.step hb8
  have T_d0_w8 : w7.heap.size ≤ w8.heap.size := Nat.le_trans T_d0_w7 hb8.size
  have B_w8 : Below w.heap.size w w8 := B_w7.trans (hb8.mono B_w7.size)
  clear F_a0_w7 F_a1_w7 F_x0_w7 T_x0_w7 F_x1_w7 T_x1_w7 F_d0_w7 T_d0_w7 B_w7
  clear hb8
  clear F_d0_w8 T_d0_w8
  go_wp2_with fail
  refine (toF_any _ a1 _ _ (F_a1_w8.more B_w8.size) (Nat.le_refl _) hm1).mono ?_
  rintro e w9 ⟨g9, rfl, P9, hb9⟩
  have O9 := Own.row P9
  clear P9
  have F_a0_w9 : Rd w9 w.heap.size (.slice A0 a0.length c0) (il a0) := F_a0_w8.below (hb9.mono B_w8.size)
  have F_a1_w9 : Rd w9 w.heap.size (.slice A1 a1.length c1) (fl a1) := F_a1_w8.below (hb9.mono B_w8.size)
  have F_x0_w9 : In w9 w3.heap.size w4.heap.size (.slice (some ⟨g4, 0, none⟩) a0.length a0.length) (il a0) := F_x0_w8.step hb9
  have T_x0_w9 : w4.heap.size ≤ w9.heap.size := Nat.le_trans T_x0_w8 hb9.size
  have F_x1_w9 : In w9 w4.heap.size w5.heap.size (.slice (some ⟨g5, 0, none⟩) a1.length a1.length) (fl a1) := F_x1_w8.step hb9
  have T_x1_w9 : w5.heap.size ≤ w9.heap.size := Nat.le_trans T_x1_w8 hb9.size
  have B_w9 : Below w.heap.size w w9 := B_w8.trans (hb9.mono B_w8.size)
  have S_d1 : w.heap.size ≤ w8.heap.size := B_w8.size
  have D_x0_d1 : w4.heap.size ≤ w8.heap.size := T_x0_w8
  have D_x1_d1 : w5.heap.size ≤ w8.heap.size := T_x1_w8
  clear F_a0_w8 F_a1_w8 F_x0_w8 T_x0_w8 F_x1_w8 T_x1_w8 B_w8
  have F_d1_w9 : In w9 w8.heap.size w9.heap.size (.slice (some ⟨g9, 0, none⟩) a1.length a1.length) (fl a1) := In.made O9
  have T_d1_w9 : w9.heap.size ≤ w9.heap.size := Nat.le_refl _
  clear O9
  clear hb9
  go_wp2_with fail
  refine (eqF_any _ _ a1 a1 _ _ F_x1_w9.rd F_d1_w9.rd (Worth.refl _) hm1).mono ?_
  rintro e w10 ⟨rfl, q10, hw10⟩
  have hb10 : Below w9.heap.size w9 w10 := by rw [hw10]; exact below_drawn (Below.refl _ _) _
  clear hw10
  have F_a0_w10 : Rd w10 w.heap.size (.slice A0 a0.length c0) (il a0) := F_a0_w9.below (hb10.mono B_w9.size)
  have F_a1_w10 : Rd w10 w.heap.size (.slice A1 a1.length c1) (fl a1) := F_a1_w9.below (hb10.mono B_w9.size)
  have F_x0_w10 : In w10 w3.heap.size w4.heap.size (.slice (some ⟨g4, 0, none⟩) a0.length a0.length) (il a0) := F_x0_w9.step hb10
  have T_x0_w10 : w4.heap.size ≤ w10.heap.size := Nat.le_trans T_x0_w9 hb10.size
  have F_x1_w10 : In w10 w4.heap.size w5.heap.size (.slice (some ⟨g5, 0, none⟩) a1.length a1.length) (fl a1) := F_x1_w9.step hb10
  have T_x1_w10 : w5.heap.size ≤ w10.heap.size := Nat.le_trans T_x1_w9 hb10.size
  have F_d1_w10 : In w10 w8.heap.size w9.heap.size (.slice (some ⟨g9, 0, none⟩) a1.length a1.length) (fl a1) := F_d1_w9.step hb10
  have T_d1_w10 : w9.heap.size ≤ w10.heap.size := Nat.le_trans T_d1_w9 hb10.size
  have B_w10 : Below w.heap.size w w10 := B_w9.trans (hb10.mono B_w9.size)
  clear F_a0_w9 F_a1_w9 F_x0_w9 T_x0_w9 F_x1_w9 T_x1_w9 F_d1_w9 T_d1_w9 B_w9
  clear hb10
  clear F_d1_w10 T_d1_w10
  go_wp2_with fail
  go_ret
  exact ⟨rfl, B_w10⟩

namespace fnExactLastOfHull
open Go.ChangeShapes Go.WideShapes Go.ChangeAt Go.RowKit
open Go.ChangeMaps (open_string)
set_option linter.unusedVariables false
theorem own : ownKnob Try.prog.godebug = none := by kernel_rfl
theorem laidOut : laidOutB Try.prog = true := by kernel_rfl
set_option maxRecDepth 100000 in
theorem lifted (os : Os) (started : os.Started) (H : Type) (enc : TypeId × Value → H) :
    ReturnsInHanded {} Try.checked os 6 .any (Rows.fnExactLastOfHullSpec.pre6 enc Try.prog Try.f6 Rows.fnExactLastOfHullRow.domain false) (Rows.fnExactLastOfHullSpec.post enc Try.prog Try.f6 false true false false) := by
  refine returnsInHanded_of_change (C := Try.checked) own started (by kernel_rfl) Try.func6
    (ChangeSpec.witness6 (enc := enc) (C := Try.checked) false ⟨#[], #[.slice none 0 0, .slice none 0 0], []⟩ 8 (by kernel_rfl) (by kernel_rfl) (by kernel_rfl) (by kernel_rfl)) ?_
  intro W base args ds gs before hval0 hW hcnd _
  have hval : ∀ (j : Nat) t v, Try.f6.params[j]? = some t → args[j]? = some v → Value.okWide Try.prog W .any base t v := hval0
  have hW' := hW
  have hlt0 := hW.lt
  obtain ⟨p, q, hA0, hV, rfl, hfz, hnd⟩ := hW
  have hA : DataW.TrodAll enc Try.prog W 0 (fun _ => true) true Try.f6.params.toList args.toList ds p := hA0
  have hAk := hA
  have hltp : ∀ x ∈ p, x.block < W.heap.size := fun x hx => hlt0 x (List.mem_append_left _ hx)
  have hread : ∀ t ∈ Try.f6.params.toList, Try.prog.readableRec t = true ∧ t < Try.prog.types.size := by
    rw [Try.params6]
    intro t ht
    simp only [List.mem_cons, List.not_mem_nil, or_false] at ht
    rcases ht with rfl | rfl <;> exact ⟨by kernel_rfl, of_decide_eq_true (by kernel_rfl)⟩
  rw [Try.params6] at hA hval
  obtain ⟨v0, vs0, d0, ds0, p0, q0, hargs, rfl, rfl, h0, r0⟩ := trodAll_cons hA
  obtain ⟨v1, vs1, d1, ds1, p1, q1, rfl, rfl, rfl, h1, r1⟩ := trodAll_cons r0
  obtain ⟨rfl, rfl, rfl⟩ := trodAll_nil r1
  obtain rfl : args = #[v0, v1] := by cases args; simp_all
  obtain ⟨rfl, rfl⟩ := trodVars_none hV
  obtain ⟨a0, g0, w0⟩ := open_i64s Try.underlying29 Try.underlying2 (by kernel_rfl) (hval 0 29 v0 rfl rfl) h0 (fun x hx => hltp x (by simp [hx]))
  obtain ⟨a1, g1, w1⟩ := open_floats Try.underlying35 Try.underlying47 (by kernel_rfl) (hval 1 35 v1 rfl rfl) h1 (fun x hx => hltp x (by simp [hx]))
  clear hA0 hval0
  refine (walk W v0 a0 g0 w0 v1 a1 g1 w1).mono fun e W' ⟨he, hg⟩ => ?_
  subst he
  exact ⟨_, rfl, post_grown (pv := []) hW' hg (fun _ _ _ => (trodAll_cons_mk (shut_bool Try.underlying4 _) trodAll_mk0)) (trodAll_low laidOut hg _ _ _ _ hread hltp hAk) rfl rfl⟩

theorem over : Rows.fnExactLastOfHullRow.holds Try.pinned (OpenSpec.ofChange Rows.fnExactLastOfHullSpec) :=
  OpenClaim.holds_of_wide 6 Try.f6 rfl rfl rfl rfl rfl rfl rfl ⟨rfl, rfl, rfl, rfl, rfl⟩ rfl rfl rfl rfl rfl (by kernel_rfl) Try.func6 (by kernel_rfl)
    (of_decide_eq_true (by kernel_rfl)) (by unfold Func.isWrapper; first | (rw [if_pos (by decide +kernel)]; kernel_rfl) | (rw [if_neg (by decide +kernel)]; exact ⟨rfl, rfl⟩))
    (fun os started H enc _ => lifted os started H enc)

theorem proved : Rows.FnExactLastOfHullSaid := over
end fnExactLastOfHull
end Go.Proofs.Ytfcegkighjnmeaa
