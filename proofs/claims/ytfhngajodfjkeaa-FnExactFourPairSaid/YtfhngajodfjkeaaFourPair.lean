/-
  FourPair answers as its model does, in memory of its own.
-/
import Derived.Test.YtfhngajodfjkeaaRows
import Derived.ProofKit
import Derived.OpenShut
import Derived.WalkLawsBesides
import Derived.KernelRfl
import Derived.Test.YtfhngajodfjkeaaMkP
namespace Go.Proofs.Ytfhngajodfjkeaa
open Go.RowKit Fl
set_option linter.unusedVariables false
theorem fnExactFourPair.walk (w : World)  :
    Calls Try.prog 4 #[] w fun e w' => e = .returned (.bool true) ∧ Below w.heap.size w w' := by
  have hm : fourW.length ≤ 1048576 := by decide
  have hsf : ∀ (a : Addr) (x : Nat) (w : World), (store a (.float .f32 x)).run Try.prog w = stored Try.prog w a (.float .f32 x) .plain := fun a x w => run_store _ w a _ _ rfl
  go_enter Try.func4, Try.ntmps4
  have B_0 : Below w.heap.size w w := Below.refl _ _
  go_wp2_with fail
  refine (frS_any _).mono ?_
  rintro e w1 ⟨g1, rfl, O1, hb1⟩
  have S1 : w.heap.size ≤ w.heap.size := B_0.size
  have B_1 : Below w.heap.size w w1 := B_0.trans (hb1.mono B_0.size)
  clear B_0
  clear hb1
  go_wp2_with fail
  have hb2 : Below w1.heap.size w1 (w1.alloc (.cells #[.slice (some ⟨g1, 0, none⟩) fourW.length fourW.length] 24)) := (Below.refl _ _).alloc (Nat.le_refl _) _
  have O2 := own_box1 w1 (.slice (some ⟨g1, 0, none⟩) fourW.length fourW.length) 24
  generalize w1.alloc (.cells #[.slice (some ⟨g1, 0, none⟩) fourW.length fourW.length] 24) = w2 at *
  have A2x0x0 : Apart (.slice (some ⟨w1.heap.size, 0, none⟩) 1 1) (.slice (some ⟨g1, 0, none⟩) fourW.length fourW.length) := apart_of O2 O1.rd (Nat.le_refl _)
  have S2 : w.heap.size ≤ w1.heap.size := B_1.size
  have O1_2 : Own w2 w.heap.size (.slice (some ⟨g1, 0, none⟩) fourW.length fourW.length) (fl fourW) := O1.below hb2
  have B_2 : Below w.heap.size w w2 := B_1.trans (hb2.mono B_1.size)
  clear O1 B_1
  clear hb2
  go_wp2_with fail
  refine (frI_any _).mono ?_
  rintro e w3 ⟨g3, rfl, O3, hb3⟩
  have A3x0x2 : Apart (.slice (some ⟨g3, 0, none⟩) fourW.length fourW.length) (.slice (some ⟨g1, 0, none⟩) fourW.length fourW.length) := apart_of O3 O1_2.rd (Nat.le_refl _)
  have A3x0x4 : Apart (.slice (some ⟨g3, 0, none⟩) fourW.length fourW.length) (.slice (some ⟨w1.heap.size, 0, none⟩) 1 1) := apart_of O3 O2.rd (Nat.le_refl _)
  have S3 : w.heap.size ≤ w2.heap.size := B_2.size
  have O1_3 : Own w3 w.heap.size (.slice (some ⟨g1, 0, none⟩) fourW.length fourW.length) (fl fourW) := O1_2.below hb3
  have O2_3 : Own w3 w1.heap.size (.slice (some ⟨w1.heap.size, 0, none⟩) 1 1) ([.slice (some ⟨g1, 0, none⟩) fourW.length fourW.length]) := O2.below hb3
  have B_3 : Below w.heap.size w w3 := B_2.trans (hb3.mono B_2.size)
  clear O1_2 O2 B_2
  clear hb3
  obtain ⟨_, lz30, c30, _⟩ := O2_3.cells' (by decide)
  have la30 : w3.cell? ⟨w1.heap.size, 0, none⟩ = some (.slice (some ⟨g1, 0, none⟩) fourW.length fourW.length) := c30 0 _ rfl
  clear c30
  go_wp2_with fail
  clear la30 lz30
  have hb4 : Below w3.heap.size w3 (w3.alloc (.cells #[.slice (some ⟨g3, 0, none⟩) fourW.length fourW.length] 24)) := (Below.refl _ _).alloc (Nat.le_refl _) _
  have O4 := own_box1 w3 (.slice (some ⟨g3, 0, none⟩) fourW.length fourW.length) 24
  generalize w3.alloc (.cells #[.slice (some ⟨g3, 0, none⟩) fourW.length fourW.length] 24) = w4 at *
  have A4x0x6 : Apart (.slice (some ⟨w3.heap.size, 0, none⟩) 1 1) (.slice (some ⟨g1, 0, none⟩) fourW.length fourW.length) := apart_of O4 O1_3.rd (Nat.le_refl _)
  have A4x0x8 : Apart (.slice (some ⟨w3.heap.size, 0, none⟩) 1 1) (.slice (some ⟨w1.heap.size, 0, none⟩) 1 1) := apart_of O4 O2_3.rd (Nat.le_refl _)
  have A4x0x10 : Apart (.slice (some ⟨w3.heap.size, 0, none⟩) 1 1) (.slice (some ⟨g3, 0, none⟩) fourW.length fourW.length) := apart_of O4 O3.rd (Nat.le_refl _)
  have S4 : w.heap.size ≤ w3.heap.size := B_3.size
  have O1_4 : Own w4 w.heap.size (.slice (some ⟨g1, 0, none⟩) fourW.length fourW.length) (fl fourW) := O1_3.below hb4
  have O2_4 : Own w4 w1.heap.size (.slice (some ⟨w1.heap.size, 0, none⟩) 1 1) ([.slice (some ⟨g1, 0, none⟩) fourW.length fourW.length]) := O2_3.below hb4
  have O3_4 : Own w4 w2.heap.size (.slice (some ⟨g3, 0, none⟩) fourW.length fourW.length) (fl fourW) := O3.below hb4
  have B_4 : Below w.heap.size w w4 := B_3.trans (hb4.mono B_3.size)
  clear O1_3 O2_3 O3 B_3
  clear hb4
  refine (eqPair_any _ _ fourW fourW _ O3_4.rd O1_4.rd (Worth.refl _) hm).mono ?_
  rintro e w5 ⟨rfl, hb5⟩
  have O1_5 : Own w5 w.heap.size (.slice (some ⟨g1, 0, none⟩) fourW.length fourW.length) (fl fourW) := O1_4.below hb5
  have O2_5 : Own w5 w1.heap.size (.slice (some ⟨w1.heap.size, 0, none⟩) 1 1) ([.slice (some ⟨g1, 0, none⟩) fourW.length fourW.length]) := O2_4.below hb5
  have O3_5 : Own w5 w2.heap.size (.slice (some ⟨g3, 0, none⟩) fourW.length fourW.length) (fl fourW) := O3_4.below hb5
  have O4_5 : Own w5 w3.heap.size (.slice (some ⟨w3.heap.size, 0, none⟩) 1 1) ([.slice (some ⟨g3, 0, none⟩) fourW.length fourW.length]) := O4.below hb5
  have B_5 : Below w.heap.size w w5 := B_4.trans (hb5.mono B_4.size)
  clear O1_4 O2_4 O3_4 O4 B_4
  clear hb5
  obtain ⟨_, lz57, c57, _⟩ := O4_5.cells' (by decide)
  have la57 : w5.cell? ⟨w3.heap.size, 0, none⟩ = some (.slice (some ⟨g3, 0, none⟩) fourW.length fourW.length) := c57 0 _ rfl
  clear c57
  go_wp2_with fail
  refine (markP_any _ fourW _ _ _ O3_5 hm (by omega) (by omega)).mono ?_
  rintro e w7 ⟨rfl, w6, hb6, hw7⟩
  clear la57 lz57
  have O1_6 : Own w6 w.heap.size (.slice (some ⟨g1, 0, none⟩) fourW.length fourW.length) (fl fourW) := O1_5.below hb6
  have O2_6 : Own w6 w1.heap.size (.slice (some ⟨w1.heap.size, 0, none⟩) 1 1) ([.slice (some ⟨g1, 0, none⟩) fourW.length fourW.length]) := O2_5.below hb6
  have O3_6 : Own w6 w2.heap.size (.slice (some ⟨g3, 0, none⟩) fourW.length fourW.length) (fl fourW) := O3_5.below hb6
  have O4_6 : Own w6 w3.heap.size (.slice (some ⟨w3.heap.size, 0, none⟩) 1 1) ([.slice (some ⟨g3, 0, none⟩) fourW.length fourW.length]) := O4_5.below hb6
  have B_6 : Below w.heap.size w w6 := B_5.trans (hb6.mono B_5.size)
  clear O1_5 O2_5 O3_5 O4_5 B_5
  clear hb6
  have O1_7 : Own w7 w.heap.size (.slice (some ⟨g1, 0, none⟩) fourW.length fourW.length) (fl fourW) := by subst hw7; exact over_ownOther O3_6 O1_6 A3x0x2 _
  have O2_7 : Own w7 w1.heap.size (.slice (some ⟨w1.heap.size, 0, none⟩) 1 1) ([.slice (some ⟨g1, 0, none⟩) fourW.length fourW.length]) := by subst hw7; exact over_ownOther O3_6 O2_6 A3x0x4 _
  have O3_7 : Own w7 w2.heap.size (.slice (some ⟨g3, 0, none⟩) fourW.length fourW.length) ((List.range fourW.length).map (mkF (1))) := by subst hw7; have := over_own O3_6 (mkF (1)); rw [fl_len] at this; exact this
  have O4_7 : Own w7 w3.heap.size (.slice (some ⟨w3.heap.size, 0, none⟩) 1 1) ([.slice (some ⟨g3, 0, none⟩) fourW.length fourW.length]) := by subst hw7; exact over_ownOther O3_6 O4_6 A4x0x10.symm _
  have B_7 : Below w.heap.size w w7 := by subst hw7; exact B_6.trans ((over_below O3_6 _).mono S3)
  clear O1_6 O2_6 O3_6 O4_6 B_6
  clear hw7
  obtain ⟨_, lz78, c78, _⟩ := O4_7.cells' (by decide)
  have la78 : w7.cell? ⟨w3.heap.size, 0, none⟩ = some (.slice (some ⟨g3, 0, none⟩) fourW.length fourW.length) := c78 0 _ rfl
  clear c78
  go_wp2_with fail
  refine (heldP_any _ fourW.length _ _ O3_7.rd hm (by omega) (by omega)).mono ?_
  rintro e w8 ⟨rfl, hb8⟩
  clear la78 lz78
  have O1_8 : Own w8 w.heap.size (.slice (some ⟨g1, 0, none⟩) fourW.length fourW.length) (fl fourW) := O1_7.below hb8
  have O2_8 : Own w8 w1.heap.size (.slice (some ⟨w1.heap.size, 0, none⟩) 1 1) ([.slice (some ⟨g1, 0, none⟩) fourW.length fourW.length]) := O2_7.below hb8
  have O3_8 : Own w8 w2.heap.size (.slice (some ⟨g3, 0, none⟩) fourW.length fourW.length) ((List.range fourW.length).map (mkF (1))) := O3_7.below hb8
  have O4_8 : Own w8 w3.heap.size (.slice (some ⟨w3.heap.size, 0, none⟩) 1 1) ([.slice (some ⟨g3, 0, none⟩) fourW.length fourW.length]) := O4_7.below hb8
  have B_8 : Below w.heap.size w w8 := B_7.trans (hb8.mono B_7.size)
  clear O1_7 O2_7 O3_7 O4_7 B_7
  clear hb8
  go_wp2_with fail
  refine (frI_any _).mono ?_
  rintro e w9 ⟨g9, rfl, O9, hb9⟩
  have A9x0x12 : Apart (.slice (some ⟨g9, 0, none⟩) fourW.length fourW.length) (.slice (some ⟨g1, 0, none⟩) fourW.length fourW.length) := apart_of O9 O1_8.rd (Nat.le_refl _)
  have A9x0x14 : Apart (.slice (some ⟨g9, 0, none⟩) fourW.length fourW.length) (.slice (some ⟨w1.heap.size, 0, none⟩) 1 1) := apart_of O9 O2_8.rd (Nat.le_refl _)
  have A9x0x16 : Apart (.slice (some ⟨g9, 0, none⟩) fourW.length fourW.length) (.slice (some ⟨g3, 0, none⟩) fourW.length fourW.length) := apart_of O9 O3_8.rd (Nat.le_refl _)
  have A9x0x18 : Apart (.slice (some ⟨g9, 0, none⟩) fourW.length fourW.length) (.slice (some ⟨w3.heap.size, 0, none⟩) 1 1) := apart_of O9 O4_8.rd (Nat.le_refl _)
  have S9 : w.heap.size ≤ w8.heap.size := B_8.size
  have O1_9 : Own w9 w.heap.size (.slice (some ⟨g1, 0, none⟩) fourW.length fourW.length) (fl fourW) := O1_8.below hb9
  have O2_9 : Own w9 w1.heap.size (.slice (some ⟨w1.heap.size, 0, none⟩) 1 1) ([.slice (some ⟨g1, 0, none⟩) fourW.length fourW.length]) := O2_8.below hb9
  have O3_9 : Own w9 w2.heap.size (.slice (some ⟨g3, 0, none⟩) fourW.length fourW.length) ((List.range fourW.length).map (mkF (1))) := O3_8.below hb9
  have O4_9 : Own w9 w3.heap.size (.slice (some ⟨w3.heap.size, 0, none⟩) 1 1) ([.slice (some ⟨g3, 0, none⟩) fourW.length fourW.length]) := O4_8.below hb9
  have B_9 : Below w.heap.size w w9 := B_8.trans (hb9.mono B_8.size)
  clear O1_8 O2_8 O3_8 O4_8 B_8
  clear hb9
  obtain ⟨_, lz107, c107, _⟩ := O2_9.cells' (by decide)
  have la107 : w9.cell? ⟨w1.heap.size, 0, none⟩ = some (.slice (some ⟨g1, 0, none⟩) fourW.length fourW.length) := c107 0 _ rfl
  clear c107
  go_wp2_with fail
  clear la107 lz107
  have hb10 : Below w9.heap.size w9 (w9.alloc (.cells #[.slice (some ⟨g9, 0, none⟩) fourW.length fourW.length] 24)) := (Below.refl _ _).alloc (Nat.le_refl _) _
  have O10 := own_box1 w9 (.slice (some ⟨g9, 0, none⟩) fourW.length fourW.length) 24
  generalize w9.alloc (.cells #[.slice (some ⟨g9, 0, none⟩) fourW.length fourW.length] 24) = w10 at *
  have A10x0x20 : Apart (.slice (some ⟨w9.heap.size, 0, none⟩) 1 1) (.slice (some ⟨g1, 0, none⟩) fourW.length fourW.length) := apart_of O10 O1_9.rd (Nat.le_refl _)
  have A10x0x22 : Apart (.slice (some ⟨w9.heap.size, 0, none⟩) 1 1) (.slice (some ⟨w1.heap.size, 0, none⟩) 1 1) := apart_of O10 O2_9.rd (Nat.le_refl _)
  have A10x0x24 : Apart (.slice (some ⟨w9.heap.size, 0, none⟩) 1 1) (.slice (some ⟨g3, 0, none⟩) fourW.length fourW.length) := apart_of O10 O3_9.rd (Nat.le_refl _)
  have A10x0x26 : Apart (.slice (some ⟨w9.heap.size, 0, none⟩) 1 1) (.slice (some ⟨w3.heap.size, 0, none⟩) 1 1) := apart_of O10 O4_9.rd (Nat.le_refl _)
  have A10x0x28 : Apart (.slice (some ⟨w9.heap.size, 0, none⟩) 1 1) (.slice (some ⟨g9, 0, none⟩) fourW.length fourW.length) := apart_of O10 O9.rd (Nat.le_refl _)
  have S10 : w.heap.size ≤ w9.heap.size := B_9.size
  have O1_10 : Own w10 w.heap.size (.slice (some ⟨g1, 0, none⟩) fourW.length fourW.length) (fl fourW) := O1_9.below hb10
  have O2_10 : Own w10 w1.heap.size (.slice (some ⟨w1.heap.size, 0, none⟩) 1 1) ([.slice (some ⟨g1, 0, none⟩) fourW.length fourW.length]) := O2_9.below hb10
  have O3_10 : Own w10 w2.heap.size (.slice (some ⟨g3, 0, none⟩) fourW.length fourW.length) ((List.range fourW.length).map (mkF (1))) := O3_9.below hb10
  have O4_10 : Own w10 w3.heap.size (.slice (some ⟨w3.heap.size, 0, none⟩) 1 1) ([.slice (some ⟨g3, 0, none⟩) fourW.length fourW.length]) := O4_9.below hb10
  have O9_10 : Own w10 w8.heap.size (.slice (some ⟨g9, 0, none⟩) fourW.length fourW.length) (fl fourW) := O9.below hb10
  have B_10 : Below w.heap.size w w10 := B_9.trans (hb10.mono B_9.size)
  clear O1_9 O2_9 O3_9 O4_9 O9 B_9
  clear hb10
  refine (eqPair_any _ _ fourW fourW _ O9_10.rd O1_10.rd (Worth.refl _) hm).mono ?_
  rintro e w11 ⟨rfl, hb11⟩
  have O1_11 : Own w11 w.heap.size (.slice (some ⟨g1, 0, none⟩) fourW.length fourW.length) (fl fourW) := O1_10.below hb11
  have O2_11 : Own w11 w1.heap.size (.slice (some ⟨w1.heap.size, 0, none⟩) 1 1) ([.slice (some ⟨g1, 0, none⟩) fourW.length fourW.length]) := O2_10.below hb11
  have O3_11 : Own w11 w2.heap.size (.slice (some ⟨g3, 0, none⟩) fourW.length fourW.length) ((List.range fourW.length).map (mkF (1))) := O3_10.below hb11
  have O4_11 : Own w11 w3.heap.size (.slice (some ⟨w3.heap.size, 0, none⟩) 1 1) ([.slice (some ⟨g3, 0, none⟩) fourW.length fourW.length]) := O4_10.below hb11
  have O9_11 : Own w11 w8.heap.size (.slice (some ⟨g9, 0, none⟩) fourW.length fourW.length) (fl fourW) := O9_10.below hb11
  have O10_11 : Own w11 w9.heap.size (.slice (some ⟨w9.heap.size, 0, none⟩) 1 1) ([.slice (some ⟨g9, 0, none⟩) fourW.length fourW.length]) := O10.below hb11
  have B_11 : Below w.heap.size w w11 := B_10.trans (hb11.mono B_10.size)
  clear O1_10 O2_10 O3_10 O4_10 O9_10 O10 B_10
  clear hb11
  obtain ⟨_, lz140, c140, _⟩ := O4_11.cells' (by decide)
  have la140 : w11.cell? ⟨w3.heap.size, 0, none⟩ = some (.slice (some ⟨g3, 0, none⟩) fourW.length fourW.length) := c140 0 _ rfl
  clear c140
  go_wp2_with fail
  refine (heldP_any _ fourW.length _ _ O3_11.rd hm (by omega) (by omega)).mono ?_
  rintro e w12 ⟨rfl, hb12⟩
  clear la140 lz140
  have O1_12 : Own w12 w.heap.size (.slice (some ⟨g1, 0, none⟩) fourW.length fourW.length) (fl fourW) := O1_11.below hb12
  have O2_12 : Own w12 w1.heap.size (.slice (some ⟨w1.heap.size, 0, none⟩) 1 1) ([.slice (some ⟨g1, 0, none⟩) fourW.length fourW.length]) := O2_11.below hb12
  have O3_12 : Own w12 w2.heap.size (.slice (some ⟨g3, 0, none⟩) fourW.length fourW.length) ((List.range fourW.length).map (mkF (1))) := O3_11.below hb12
  have O4_12 : Own w12 w3.heap.size (.slice (some ⟨w3.heap.size, 0, none⟩) 1 1) ([.slice (some ⟨g3, 0, none⟩) fourW.length fourW.length]) := O4_11.below hb12
  have O9_12 : Own w12 w8.heap.size (.slice (some ⟨g9, 0, none⟩) fourW.length fourW.length) (fl fourW) := O9_11.below hb12
  have O10_12 : Own w12 w9.heap.size (.slice (some ⟨w9.heap.size, 0, none⟩) 1 1) ([.slice (some ⟨g9, 0, none⟩) fourW.length fourW.length]) := O10_11.below hb12
  have B_12 : Below w.heap.size w w12 := B_11.trans (hb12.mono B_11.size)
  clear O1_11 O2_11 O3_11 O4_11 O9_11 O10_11 B_11
  clear hb12
  go_wp2_with fail
  go_ret
  exact ⟨rfl, B_12⟩

namespace fnExactFourPair
open Go.ChangeShapes Go.WideShapes Go.ChangeAt Go.RowKit
open Go.ChangeMaps (open_string)
set_option linter.unusedVariables false
theorem own : ownKnob Try.prog.godebug = none := by kernel_rfl
theorem laidOut : laidOutB Try.prog = true := by kernel_rfl
set_option maxRecDepth 100000 in
theorem lifted (os : Os) (started : os.Started) (H : Type) (enc : TypeId × Value → H) :
    ReturnsInHanded {} Try.checked os 4 .any (Rows.fnExactFourPairSpec.pre6 enc Try.prog Try.f4 Rows.fnExactFourPairRow.domain false) (Rows.fnExactFourPairSpec.post enc Try.prog Try.f4 false true false false) := by
  refine returnsInHanded_of_change (C := Try.checked) own started (by kernel_rfl) Try.func4
    (ChangeSpec.witness6 (enc := enc) (C := Try.checked) false ⟨#[], #[], []⟩ 8 (by kernel_rfl) (by kernel_rfl) (by kernel_rfl) (by kernel_rfl)) ?_
  intro W base args ds gs before hval0 hW hcnd _
  have hval : ∀ (j : Nat) t v, Try.f4.params[j]? = some t → args[j]? = some v → Value.okWide Try.prog W .any base t v := hval0
  have hW' := hW
  have hlt0 := hW.lt
  obtain ⟨p, q, hA0, hV, rfl, hfz, hnd⟩ := hW
  have hA : DataW.TrodAll enc Try.prog W 0 (fun _ => true) true Try.f4.params.toList args.toList ds p := hA0
  have hAk := hA
  have hltp : ∀ x ∈ p, x.block < W.heap.size := fun x hx => hlt0 x (List.mem_append_left _ hx)
  have hread : ∀ t ∈ Try.f4.params.toList, Try.prog.readableRec t = true ∧ t < Try.prog.types.size := by
    rw [Try.params4]
    intro t ht
    simp at ht
  rw [Try.params4] at hA hval
  obtain ⟨hargs0, rfl, rfl⟩ := trodAll_nil hA
  obtain rfl : args = #[] := by cases args; simp_all
  obtain ⟨rfl, rfl⟩ := trodVars_none hV
  clear hA0 hval0
  refine (walk W ).mono fun e W' ⟨he, hg⟩ => ?_
  subst he
  exact ⟨_, rfl, post_grown (pv := []) hW' hg (fun _ _ _ => (trodAll_cons_mk (shut_bool Try.underlying4 _) trodAll_mk0)) (trodAll_low laidOut hg _ _ _ _ hread hltp hAk) rfl rfl⟩

theorem over : Rows.fnExactFourPairRow.holds Try.pinned (OpenSpec.ofChange Rows.fnExactFourPairSpec) :=
  OpenClaim.holds_of_wide 4 Try.f4 rfl rfl rfl rfl rfl rfl rfl ⟨rfl, rfl, rfl, rfl, rfl⟩ rfl rfl rfl rfl rfl (by kernel_rfl) Try.func4 (by kernel_rfl)
    (of_decide_eq_true (by kernel_rfl)) (by unfold Func.isWrapper; first | (rw [if_pos (by decide +kernel)]; kernel_rfl) | (rw [if_neg (by decide +kernel)]; exact ⟨rfl, rfl⟩))
    (fun os started H enc _ => lifted os started H enc)

theorem proved : Rows.FnExactFourPairSaid := over
end fnExactFourPair
end Go.Proofs.Ytfhngajodfjkeaa
