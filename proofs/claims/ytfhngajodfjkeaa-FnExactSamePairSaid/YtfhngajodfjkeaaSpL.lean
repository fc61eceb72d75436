/-
  The walk of the law on pairs that are the same.
-/
import Derived.Test.YtfhngajodfjkeaaSpP
import Derived.Deep.RegionHeld3
namespace Go.Proofs.Ytfhngajodfjkeaa
open Go.RowKit Fl
set_option linter.unusedVariables false
set_option maxHeartbeats 4000000 in
theorem spL_walk (w : World) (va vb : Value) (xs ys : List Nat) (ha : Rd w w.heap.size va (fl xs)) (hb : Rd w w.heap.size vb (fl ys)) (hx : ∀ x ∈ xs, x < 2 ^ 32) (hy : ∀ x ∈ ys, x < 2 ^ 32) :
    Calls Try.prog 6 #[.agg #[va], .agg #[vb]] w fun e w' => e = .returned (.bool true) ∧ Below w.heap.size w w' := by
  have hle := ha.le
  have hle2 := hb.le
  rw [fl_len] at hle hle2
  unfold maxLen at hle hle2
  have hsf : ∀ (a : Addr) (x : Nat) (w : World), (store a (.float .f32 x)).run Try.prog w = stored Try.prog w a (.float .f32 x) .plain := fun a x w => run_store _ w a _ _ rfl
  obtain ⟨A, c, hva, _, _, _⟩ := id ha
  obtain ⟨A', c', hvb, _, _, _⟩ := id hb
  rw [fl_len] at hva hvb
  subst hva hvb
  have HX := Lib.hid hx
  have HY := Lib.hid hy
  clear hx hy
  have hb0 : Below w.heap.size w ((w.alloc (.cells #[.slice A xs.length c] 29)).alloc (.cells #[.slice A' ys.length c'] 29)) := ((Below.refl _ _).alloc (Nat.le_refl _) _).alloc (by simp) _
  have oA := (own_box1 w (.slice A xs.length c) 29).below ((Below.refl _ _).alloc (Nat.le_refl _) (.cells #[.slice A' ys.length c'] 29))
  have oB := own_box1 (w.alloc (.cells #[.slice A xs.length c] 29)) (.slice A' ys.length c') 29
  obtain ⟨_, zA, kA, _⟩ := oA.cells' (by decide)
  have A0 : ((w.alloc (.cells #[.slice A xs.length c] 29)).alloc (.cells #[.slice A' ys.length c'] 29)).cell? ⟨w.heap.size, 0, none⟩ = some (.slice A xs.length c) := kA 0 _ rfl
  have B0 : ((w.alloc (.cells #[.slice A xs.length c] 29)).alloc (.cells #[.slice A' ys.length c'] 29)).cell? ⟨w.heap.size + 1, 0, none⟩ = some (.slice A' ys.length c') := by simp
  have zz : w.heap.size + 1 < ((w.alloc (.cells #[.slice A xs.length c] 29)).alloc (.cells #[.slice A' ys.length c'] 29)).heap.size := by simp
  clear oA oB kA zA
  have HZ := fun (w1 : World) (hr : Rd w1 w1.heap.size (.slice A xs.length c) (fl xs)) => szPair_any (.slice A xs.length c) xs 1048576 w1 hr (by omega) (by omega) hle
  have HZ2 := fun (l : Int) (w1 : World) (h0 : 0 ≤ l) (h1 : l ≤ 1048576) (hr : Rd w1 w1.heap.size (.slice A' ys.length c') (fl ys)) => szPair_any (.slice A' ys.length c') ys l w1 hr h0 h1 hle2
  have KZ := Lib.hid HZ
  have KZ2 := Lib.hid HZ2
  clear HZ HZ2
  go_enter Try.func6, Try.ntmps6
  go_wp2_with fail
  refine (KZ.out _ (ha.step hb0)).mono ?_
  rintro e w1 ⟨rfl, hb1⟩
  have B_w1 : Below w.heap.size w w1 := hb0.trans (hb1.mono (by simp; omega))
  have RA_w1 : Rd w1 w1.heap.size (.slice A xs.length c) (fl xs) := (ha.step hb0).step hb1
  have RB_w1 : Rd w1 w1.heap.size (.slice A' ys.length c') (fl ys) := (hb.step hb0).step hb1
  have A0_w1 : w1.cell? ⟨w.heap.size, 0, none⟩ = some (.slice A xs.length c) := (hb1.cell (p := ⟨w.heap.size, 0, none⟩) (by simp; try omega)).trans A0
  have B0_w1 : w1.cell? ⟨w.heap.size + 1, 0, none⟩ = some (.slice A' ys.length c') := (hb1.cell (p := ⟨w.heap.size + 1, 0, none⟩) (by simp; try omega)).trans B0
  have Z_w1 : w.heap.size + 1 < w1.heap.size := by have := hb1.size; omega
  clear A0 B0 zz hb0 hb1
  by_cases hbig : (1048576 : Int) < xs.length
  · rw [if_pos hbig]
    go_wp2_with fail
    go_ret
    exact ⟨rfl, B_w1⟩
  rw [if_neg hbig]
  have hm : xs.length ≤ 1048576 := by omega
  have hl1 : 0 ≤ (1048576 : Int) - xs.length := by omega
  clear hbig
  go_wp2_with fail
  refine (KZ2.out _ _ hl1 (by omega) RB_w1).mono ?_
  rintro e w2 ⟨rfl, hb2⟩
  have B_w2 : Below w.heap.size w w2 := B_w1.trans (hb2.mono B_w1.size)
  have RA_w2 : Rd w2 w2.heap.size (.slice A xs.length c) (fl xs) := RA_w1.step hb2
  have RB_w2 : Rd w2 w2.heap.size (.slice A' ys.length c') (fl ys) := RB_w1.step hb2
  have A0_w2 : w2.cell? ⟨w.heap.size, 0, none⟩ = some (.slice A xs.length c) := (hb2.cell (by simp only []; omega)).trans A0_w1
  have B0_w2 : w2.cell? ⟨w.heap.size + 1, 0, none⟩ = some (.slice A' ys.length c') := (hb2.cell (by simp only []; omega)).trans B0_w1
  have Z_w2 : w.heap.size + 1 < w2.heap.size := by have := hb2.size; omega
  clear B_w1 RA_w1 RB_w1 A0_w1 B0_w1 Z_w1 hb2
  by_cases hbig : (1048576 : Int) - xs.length < ys.length
  · rw [if_pos hbig]
    go_wp2_with fail
    go_ret
    exact ⟨rfl, B_w2⟩
  rw [if_neg hbig]
  have hm' : ys.length ≤ 1048576 := by omega
  have hl2 : 0 ≤ (1048576 : Int) - xs.length - ys.length := by omega
  clear hbig KZ KZ2
  go_wp2_with fail
  have KA := Lib.hid (fun (w1 : World) (hr : Rd w1 w1.heap.size (.slice A xs.length c) (fl xs)) => toPair_any (.slice A xs.length c) xs w1 hr hm)
  have KB := Lib.hid (fun (w1 : World) (hr : Rd w1 w1.heap.size (.slice A' ys.length c') (fl ys)) => toPair_any (.slice A' ys.length c') ys w1 hr hm')
  go_region_held3 (fun w' => w'.cell? ⟨w.heap.size, 0, none⟩ = some (.slice A xs.length c) ∧ w'.cell? ⟨w.heap.size + 1, 0, none⟩ = some (.slice A' ys.length c')) (first | exact ⟨A0_w2, B0_w2⟩ | exact ⟨A0_w3, B0_w3⟩ | exact ⟨A0_w4, B0_w4⟩ | exact ⟨A0_w5, B0_w5⟩) ((first | (go_at_call_of 24 A; refine (KA.out _ ?_).mono ?_; exact RA_w2; rintro e w3 ⟨g3, rfl, O3, hb3⟩; replace hb3 : Below w2.heap.size w2 w3 := below_draw1 hb3; replace O3 : Own w3 w2.heap.size (.slice (some ⟨g3, 0, none⟩) xs.length xs.length) (fl xs) := O3; have Z_w3 : w.heap.size + 1 < w3.heap.size := Nat.lt_of_lt_of_le Z_w2 hb3.size; have RB_w3 := RB_w2.step hb3; have A0_w3 : w3.cell? ⟨w.heap.size, 0, none⟩ = some (.slice A xs.length c) := (hb3.cell (p := ⟨w.heap.size, 0, none⟩) (by simp only []; omega)).trans A0_w2; have B0_w3 : w3.cell? ⟨w.heap.size + 1, 0, none⟩ = some (.slice A' ys.length c') := (hb3.cell (p := ⟨w.heap.size + 1, 0, none⟩) (by simp only []; omega)).trans B0_w2) | (go_at_call_of 24 A'; refine (KB.out _ ?_).mono ?_; exact RB_w3; rintro e w4 ⟨g4, rfl, O4, hb4⟩; have O3_w4 := O3.below hb4; have A0_w4 : w4.cell? ⟨w.heap.size, 0, none⟩ = some (.slice A xs.length c) := (hb4.cell (p := ⟨w.heap.size, 0, none⟩) (by simp only []; omega)).trans A0_w3; have B0_w4 : w4.cell? ⟨w.heap.size + 1, 0, none⟩ = some (.slice A' ys.length c') := (hb4.cell (p := ⟨w.heap.size + 1, 0, none⟩) (by simp only []; omega)).trans B0_w3) | (go_at_call 26; refine (spS_any _ _ xs ys _ ?_ ?_ hm hm' HX.out HY.out).mono ?_; exact O3_w4.rd; exact O4.rd; rintro e w5 ⟨rfl, hb5⟩; have Z_w4 : w.heap.size + 1 < w4.heap.size := Nat.lt_of_lt_of_le Z_w3 hb4.size; have A0_w5 : w5.cell? ⟨w.heap.size, 0, none⟩ = some (.slice A xs.length c) := (hb5.cell (p := ⟨w.heap.size, 0, none⟩) (by simp only []; omega)).trans A0_w4; have B0_w5 : w5.cell? ⟨w.heap.size + 1, 0, none⟩ = some (.slice A' ys.length c') := (hb5.cell (p := ⟨w.heap.size + 1, 0, none⟩) (by simp only []; omega)).trans B0_w4)))
  have B_w5 : Below w.heap.size w w5 := B_w2.trans (((hb3.trans (hb4.mono hb3.size)).trans (hb5.mono (Nat.le_trans hb3.size hb4.size))).mono B_w2.size)
  have RA_w5 : Rd w5 w5.heap.size (.slice A xs.length c) (fl xs) := ((RA_w2.step hb3).step hb4).step hb5
  have RB_w5 : Rd w5 w5.heap.size (.slice A' ys.length c') (fl ys) := (RB_w3.step hb4).step hb5
  have Z_w5 : w.heap.size + 1 < w5.heap.size := Nat.lt_of_lt_of_le Z_w4 hb5.size
  clear B_w2 RA_w2 RB_w2 RB_w3 A0_w2 B0_w2 A0_w3 B0_w3 A0_w4 B0_w4 Z_w2 Z_w3 Z_w4 O3 O4 O3_w4 hb3 hb4 hb5
  go_wp2_with fail
  refine (KA.out _ RA_w5).mono ?_
  rintro e w6 ⟨g6, rfl, O6_w6, hb_w6⟩
  have B_w6 : Below w.heap.size w w6 := B_w5.trans (hb_w6.mono B_w5.size)
  have RA_w6 : Rd w6 w6.heap.size (.slice A xs.length c) (fl xs) := RA_w5.step hb_w6
  have RB_w6 : Rd w6 w6.heap.size (.slice A' ys.length c') (fl ys) := RB_w5.step hb_w6
  have A0_w6 : w6.cell? ⟨w.heap.size, 0, none⟩ = some (.slice A xs.length c) := (hb_w6.cell (p := ⟨w.heap.size, 0, none⟩) (by simp only []; omega)).trans A0_w5
  have B0_w6 : w6.cell? ⟨w.heap.size + 1, 0, none⟩ = some (.slice A' ys.length c') := (hb_w6.cell (p := ⟨w.heap.size + 1, 0, none⟩) (by simp only []; omega)).trans B0_w5
  have Z_w6 : w.heap.size + 1 < w6.heap.size := Nat.lt_of_lt_of_le Z_w5 hb_w6.size
  clear B_w5 RA_w5 RB_w5 A0_w5 B0_w5 Z_w5 hb_w6
  go_wp2_with fail
  have hb_w7 : Below w6.heap.size w6 (w6.alloc (.cells #[.slice (some ⟨g6, 0, none⟩) xs.length xs.length] 24)) := (Below.refl _ _).alloc (Nat.le_refl _) _
  have X0_w7 : (w6.alloc (.cells #[.slice (some ⟨g6, 0, none⟩) xs.length xs.length] 24)).cell? ⟨w6.heap.size, 0, none⟩ = some (.slice (some ⟨g6, 0, none⟩) xs.length xs.length) := (cell_of_row _ _ _ _ _ _ (heap_alloc_new w6 _)).trans rfl
  have Xz_w7 : w6.heap.size < (w6.alloc (.cells #[.slice (some ⟨g6, 0, none⟩) xs.length xs.length] 24)).heap.size := by simp
  generalize w6.alloc (.cells #[.slice (some ⟨g6, 0, none⟩) xs.length xs.length] 24) = w7 at *
  have B_w7 : Below w.heap.size w w7 := B_w6.trans (hb_w7.mono B_w6.size)
  have RA_w7 : Rd w7 w7.heap.size (.slice A xs.length c) (fl xs) := RA_w6.step hb_w7
  have RB_w7 : Rd w7 w7.heap.size (.slice A' ys.length c') (fl ys) := RB_w6.step hb_w7
  have A0_w7 : w7.cell? ⟨w.heap.size, 0, none⟩ = some (.slice A xs.length c) := (hb_w7.cell (p := ⟨w.heap.size, 0, none⟩) (by simp only []; omega)).trans A0_w6
  have B0_w7 : w7.cell? ⟨w.heap.size + 1, 0, none⟩ = some (.slice A' ys.length c') := (hb_w7.cell (p := ⟨w.heap.size + 1, 0, none⟩) (by simp only []; omega)).trans B0_w6
  have Z_w7 : w.heap.size + 1 < w7.heap.size := Nat.lt_of_lt_of_le Z_w6 hb_w7.size
  have O6_w7 : Own w7 w5.heap.size (.slice (some ⟨g6, 0, none⟩) xs.length xs.length) (fl xs) := O6_w6.below hb_w7
  clear B_w6 RA_w6 RB_w6 A0_w6 B0_w6 Z_w6 O6_w6 hb_w7
  go_wp2_with fail
  refine (KB.out _ RB_w7).mono ?_
  rintro e w8 ⟨g8, rfl, O8_w8, hb_w8⟩
  have B_w8 : Below w.heap.size w w8 := B_w7.trans (hb_w8.mono B_w7.size)
  have RA_w8 : Rd w8 w8.heap.size (.slice A xs.length c) (fl xs) := RA_w7.step hb_w8
  have RB_w8 : Rd w8 w8.heap.size (.slice A' ys.length c') (fl ys) := RB_w7.step hb_w8
  have A0_w8 : w8.cell? ⟨w.heap.size, 0, none⟩ = some (.slice A xs.length c) := (hb_w8.cell (p := ⟨w.heap.size, 0, none⟩) (by simp only []; omega)).trans A0_w7
  have B0_w8 : w8.cell? ⟨w.heap.size + 1, 0, none⟩ = some (.slice A' ys.length c') := (hb_w8.cell (p := ⟨w.heap.size + 1, 0, none⟩) (by simp only []; omega)).trans B0_w7
  have Z_w8 : w.heap.size + 1 < w8.heap.size := Nat.lt_of_lt_of_le Z_w7 hb_w8.size
  have O6_w8 : Own w8 w5.heap.size (.slice (some ⟨g6, 0, none⟩) xs.length xs.length) (fl xs) := O6_w7.below hb_w8
  have X0_w8 : w8.cell? ⟨w6.heap.size, 0, none⟩ = some (.slice (some ⟨g6, 0, none⟩) xs.length xs.length) := (hb_w8.cell (p := ⟨w6.heap.size, 0, none⟩) (by simp only []; omega)).trans X0_w7
  have Xz_w8 : w6.heap.size < w8.heap.size := Nat.lt_of_lt_of_le Xz_w7 hb_w8.size
  clear B_w7 RA_w7 RB_w7 A0_w7 B0_w7 Z_w7 O6_w7 X0_w7 Xz_w7 hb_w8
  go_wp2_with fail
  have hb_w9 : Below w8.heap.size w8 (w8.alloc (.cells #[.slice (some ⟨g8, 0, none⟩) ys.length ys.length] 24)) := (Below.refl _ _).alloc (Nat.le_refl _) _
  have Y0_w9 : (w8.alloc (.cells #[.slice (some ⟨g8, 0, none⟩) ys.length ys.length] 24)).cell? ⟨w8.heap.size, 0, none⟩ = some (.slice (some ⟨g8, 0, none⟩) ys.length ys.length) := (cell_of_row _ _ _ _ _ _ (heap_alloc_new w8 _)).trans rfl
  have Yz_w9 : w8.heap.size < (w8.alloc (.cells #[.slice (some ⟨g8, 0, none⟩) ys.length ys.length] 24)).heap.size := by simp
  generalize w8.alloc (.cells #[.slice (some ⟨g8, 0, none⟩) ys.length ys.length] 24) = w9 at *
  have B_w9 : Below w.heap.size w w9 := B_w8.trans (hb_w9.mono B_w8.size)
  have RA_w9 : Rd w9 w9.heap.size (.slice A xs.length c) (fl xs) := RA_w8.step hb_w9
  have RB_w9 : Rd w9 w9.heap.size (.slice A' ys.length c') (fl ys) := RB_w8.step hb_w9
  have A0_w9 : w9.cell? ⟨w.heap.size, 0, none⟩ = some (.slice A xs.length c) := (hb_w9.cell (p := ⟨w.heap.size, 0, none⟩) (by simp only []; omega)).trans A0_w8
  have B0_w9 : w9.cell? ⟨w.heap.size + 1, 0, none⟩ = some (.slice A' ys.length c') := (hb_w9.cell (p := ⟨w.heap.size + 1, 0, none⟩) (by simp only []; omega)).trans B0_w8
  have Z_w9 : w.heap.size + 1 < w9.heap.size := Nat.lt_of_lt_of_le Z_w8 hb_w9.size
  have O6_w9 : Own w9 w5.heap.size (.slice (some ⟨g6, 0, none⟩) xs.length xs.length) (fl xs) := O6_w8.below hb_w9
  have X0_w9 : w9.cell? ⟨w6.heap.size, 0, none⟩ = some (.slice (some ⟨g6, 0, none⟩) xs.length xs.length) := (hb_w9.cell (p := ⟨w6.heap.size, 0, none⟩) (by simp only []; omega)).trans X0_w8
  have Xz_w9 : w6.heap.size < w9.heap.size := Nat.lt_of_lt_of_le Xz_w8 hb_w9.size
  have O8_w9 : Own w9 w7.heap.size (.slice (some ⟨g8, 0, none⟩) ys.length ys.length) (fl ys) := O8_w8.below hb_w9
  clear B_w8 RA_w8 RB_w8 A0_w8 B0_w8 Z_w8 O6_w8 X0_w8 Xz_w8 O8_w8 hb_w9
  refine (spI_any _ _ xs ys _ O6_w9.rd O8_w9.rd hm hm' HX.out HY.out).mono ?_
  rintro e w10 ⟨rfl, hb_w10⟩
  have B_w10 : Below w.heap.size w w10 := B_w9.trans (hb_w10.mono B_w9.size)
  have RA_w10 : Rd w10 w10.heap.size (.slice A xs.length c) (fl xs) := RA_w9.step hb_w10
  have RB_w10 : Rd w10 w10.heap.size (.slice A' ys.length c') (fl ys) := RB_w9.step hb_w10
  have A0_w10 : w10.cell? ⟨w.heap.size, 0, none⟩ = some (.slice A xs.length c) := (hb_w10.cell (p := ⟨w.heap.size, 0, none⟩) (by simp only []; omega)).trans A0_w9
  have B0_w10 : w10.cell? ⟨w.heap.size + 1, 0, none⟩ = some (.slice A' ys.length c') := (hb_w10.cell (p := ⟨w.heap.size + 1, 0, none⟩) (by simp only []; omega)).trans B0_w9
  have Z_w10 : w.heap.size + 1 < w10.heap.size := Nat.lt_of_lt_of_le Z_w9 hb_w10.size
  have O6_w10 : Own w10 w5.heap.size (.slice (some ⟨g6, 0, none⟩) xs.length xs.length) (fl xs) := O6_w9.below hb_w10
  have X0_w10 : w10.cell? ⟨w6.heap.size, 0, none⟩ = some (.slice (some ⟨g6, 0, none⟩) xs.length xs.length) := (hb_w10.cell (p := ⟨w6.heap.size, 0, none⟩) (by simp only []; omega)).trans X0_w9
  have Xz_w10 : w6.heap.size < w10.heap.size := Nat.lt_of_lt_of_le Xz_w9 hb_w10.size
  have O8_w10 : Own w10 w7.heap.size (.slice (some ⟨g8, 0, none⟩) ys.length ys.length) (fl ys) := O8_w9.below hb_w10
  have Y0_w10 : w10.cell? ⟨w8.heap.size, 0, none⟩ = some (.slice (some ⟨g8, 0, none⟩) ys.length ys.length) := (hb_w10.cell (p := ⟨w8.heap.size, 0, none⟩) (by simp only []; omega)).trans Y0_w9
  have Yz_w10 : w8.heap.size < w10.heap.size := Nat.lt_of_lt_of_le Yz_w9 hb_w10.size
  clear B_w9 RA_w9 RB_w9 A0_w9 B0_w9 Z_w9 O6_w9 X0_w9 Xz_w9 O8_w9 Y0_w9 Yz_w9 hb_w10
  go_wp2_with fail
  go_region_held3 (fun w' => w'.cell? ⟨w.heap.size, 0, none⟩ = some (.slice A xs.length c) ∧ w'.cell? ⟨w6.heap.size, 0, none⟩ = some (.slice (some ⟨g6, 0, none⟩) xs.length xs.length)) (first | exact ⟨A0_w10, X0_w10⟩ | exact ⟨q0_w11, q2_w11⟩ | exact ⟨q0_w12, q2_w12⟩) ((first | (go_at_call_of 24 A; refine (KA.out _ ?_).mono ?_; exact RA_w10; rintro e w11 ⟨g11, rfl, P_w11, hb_w11⟩; replace hb_w11 : Below w10.heap.size w10 w11 := below_draw1 hb_w11; replace P_w11 : Own w11 w10.heap.size (.slice (some ⟨g11, 0, none⟩) xs.length xs.length) (fl xs) := P_w11; have z1_w11 := Nat.lt_of_lt_of_le Z_w10 hb_w11.size; have z2_w11 := Nat.lt_of_lt_of_le Xz_w10 hb_w11.size; have V_w11 := O6_w10.below hb_w11; have q0_w11 : w11.cell? ⟨w.heap.size, 0, none⟩ = some (.slice A xs.length c) := (hb_w11.cell (p := ⟨w.heap.size, 0, none⟩) (by simp only []; omega)).trans A0_w10; have q2_w11 : w11.cell? ⟨w6.heap.size, 0, none⟩ = some (.slice (some ⟨g6, 0, none⟩) xs.length xs.length) := (hb_w11.cell (p := ⟨w6.heap.size, 0, none⟩) (by simp only []; omega)).trans X0_w10) | (go_at_call 17; refine (eqPair_any _ _ xs xs _ ?_ ?_ (Worth.refl _) hm).mono ?_; exact V_w11.rd; exact P_w11.rd; rintro e w12 ⟨rfl, hb_w12⟩; have q0_w12 : w12.cell? ⟨w.heap.size, 0, none⟩ = some (.slice A xs.length c) := (hb_w12.cell (p := ⟨w.heap.size, 0, none⟩) (by simp only []; omega)).trans q0_w11; have q2_w12 : w12.cell? ⟨w6.heap.size, 0, none⟩ = some (.slice (some ⟨g6, 0, none⟩) xs.length xs.length) := (hb_w12.cell (p := ⟨w6.heap.size, 0, none⟩) (by simp only []; omega)).trans q2_w11)))
  have hc_w12 : Below w10.heap.size w10 w12 := hb_w11.trans (hb_w12.mono hb_w11.size)
  clear q0_w11 q0_w12 q2_w11 q2_w12 z1_w11 z2_w11 V_w11 P_w11 hb_w11 hb_w12
  have B_w12 : Below w.heap.size w w12 := B_w10.trans (hc_w12.mono B_w10.size)
  have RA_w12 : Rd w12 w12.heap.size (.slice A xs.length c) (fl xs) := RA_w10.step hc_w12
  have RB_w12 : Rd w12 w12.heap.size (.slice A' ys.length c') (fl ys) := RB_w10.step hc_w12
  have A0_w12 : w12.cell? ⟨w.heap.size, 0, none⟩ = some (.slice A xs.length c) := (hc_w12.cell (p := ⟨w.heap.size, 0, none⟩) (by simp only []; omega)).trans A0_w10
  have B0_w12 : w12.cell? ⟨w.heap.size + 1, 0, none⟩ = some (.slice A' ys.length c') := (hc_w12.cell (p := ⟨w.heap.size + 1, 0, none⟩) (by simp only []; omega)).trans B0_w10
  have Z_w12 : w.heap.size + 1 < w12.heap.size := Nat.lt_of_lt_of_le Z_w10 hc_w12.size
  have O6_w12 : Own w12 w5.heap.size (.slice (some ⟨g6, 0, none⟩) xs.length xs.length) (fl xs) := O6_w10.below hc_w12
  have X0_w12 : w12.cell? ⟨w6.heap.size, 0, none⟩ = some (.slice (some ⟨g6, 0, none⟩) xs.length xs.length) := (hc_w12.cell (p := ⟨w6.heap.size, 0, none⟩) (by simp only []; omega)).trans X0_w10
  have Xz_w12 : w6.heap.size < w12.heap.size := Nat.lt_of_lt_of_le Xz_w10 hc_w12.size
  have O8_w12 : Own w12 w7.heap.size (.slice (some ⟨g8, 0, none⟩) ys.length ys.length) (fl ys) := O8_w10.below hc_w12
  have Y0_w12 : w12.cell? ⟨w8.heap.size, 0, none⟩ = some (.slice (some ⟨g8, 0, none⟩) ys.length ys.length) := (hc_w12.cell (p := ⟨w8.heap.size, 0, none⟩) (by simp only []; omega)).trans Y0_w10
  have Yz_w12 : w8.heap.size < w12.heap.size := Nat.lt_of_lt_of_le Yz_w10 hc_w12.size
  clear B_w10 RA_w10 RB_w10 A0_w10 B0_w10 Z_w10 O6_w10 X0_w10 Xz_w10 O8_w10 Y0_w10 Yz_w10 hc_w12
  go_wp2_with fail
  go_region_held3 (fun w' => w'.cell? ⟨w.heap.size + 1, 0, none⟩ = some (.slice A' ys.length c') ∧ w'.cell? ⟨w8.heap.size, 0, none⟩ = some (.slice (some ⟨g8, 0, none⟩) ys.length ys.length)) (first | exact ⟨B0_w12, Y0_w12⟩ | exact ⟨q0_w13, q2_w13⟩ | exact ⟨q0_w14, q2_w14⟩) ((first | (go_at_call_of 24 A'; refine (KB.out _ ?_).mono ?_; exact RB_w12; rintro e w13 ⟨g13, rfl, P_w13, hb_w13⟩; replace hb_w13 : Below w12.heap.size w12 w13 := below_draw1 hb_w13; replace P_w13 : Own w13 w12.heap.size (.slice (some ⟨g13, 0, none⟩) ys.length ys.length) (fl ys) := P_w13; have z1_w13 := Nat.lt_of_lt_of_le Z_w12 hb_w13.size; have z2_w13 := Nat.lt_of_lt_of_le Yz_w12 hb_w13.size; have V_w13 := O8_w12.below hb_w13; have q0_w13 : w13.cell? ⟨w.heap.size + 1, 0, none⟩ = some (.slice A' ys.length c') := (hb_w13.cell (p := ⟨w.heap.size + 1, 0, none⟩) (by simp only []; omega)).trans B0_w12; have q2_w13 : w13.cell? ⟨w8.heap.size, 0, none⟩ = some (.slice (some ⟨g8, 0, none⟩) ys.length ys.length) := (hb_w13.cell (p := ⟨w8.heap.size, 0, none⟩) (by simp only []; omega)).trans Y0_w12) | (go_at_call 17; refine (eqPair_any _ _ ys ys _ ?_ ?_ (Worth.refl _) hm').mono ?_; exact V_w13.rd; exact P_w13.rd; rintro e w14 ⟨rfl, hb_w14⟩; have q0_w14 : w14.cell? ⟨w.heap.size + 1, 0, none⟩ = some (.slice A' ys.length c') := (hb_w14.cell (p := ⟨w.heap.size + 1, 0, none⟩) (by simp only []; omega)).trans q0_w13; have q2_w14 : w14.cell? ⟨w8.heap.size, 0, none⟩ = some (.slice (some ⟨g8, 0, none⟩) ys.length ys.length) := (hb_w14.cell (p := ⟨w8.heap.size, 0, none⟩) (by simp only []; omega)).trans q2_w13)))
  have hc_w14 : Below w12.heap.size w12 w14 := hb_w13.trans (hb_w14.mono hb_w13.size)
  clear q0_w13 q0_w14 q2_w13 q2_w14 z1_w13 z2_w13 V_w13 P_w13 hb_w13 hb_w14
  have B_w14 : Below w.heap.size w w14 := B_w12.trans (hc_w14.mono B_w12.size)
  have RA_w14 : Rd w14 w14.heap.size (.slice A xs.length c) (fl xs) := RA_w12.step hc_w14
  have RB_w14 : Rd w14 w14.heap.size (.slice A' ys.length c') (fl ys) := RB_w12.step hc_w14
  have A0_w14 : w14.cell? ⟨w.heap.size, 0, none⟩ = some (.slice A xs.length c) := (hc_w14.cell (p := ⟨w.heap.size, 0, none⟩) (by simp only []; omega)).trans A0_w12
  have B0_w14 : w14.cell? ⟨w.heap.size + 1, 0, none⟩ = some (.slice A' ys.length c') := (hc_w14.cell (p := ⟨w.heap.size + 1, 0, none⟩) (by simp only []; omega)).trans B0_w12
  have Z_w14 : w.heap.size + 1 < w14.heap.size := Nat.lt_of_lt_of_le Z_w12 hc_w14.size
  have O6_w14 : Own w14 w5.heap.size (.slice (some ⟨g6, 0, none⟩) xs.length xs.length) (fl xs) := O6_w12.below hc_w14
  have X0_w14 : w14.cell? ⟨w6.heap.size, 0, none⟩ = some (.slice (some ⟨g6, 0, none⟩) xs.length xs.length) := (hc_w14.cell (p := ⟨w6.heap.size, 0, none⟩) (by simp only []; omega)).trans X0_w12
  have Xz_w14 : w6.heap.size < w14.heap.size := Nat.lt_of_lt_of_le Xz_w12 hc_w14.size
  have O8_w14 : Own w14 w7.heap.size (.slice (some ⟨g8, 0, none⟩) ys.length ys.length) (fl ys) := O8_w12.below hc_w14
  have Y0_w14 : w14.cell? ⟨w8.heap.size, 0, none⟩ = some (.slice (some ⟨g8, 0, none⟩) ys.length ys.length) := (hc_w14.cell (p := ⟨w8.heap.size, 0, none⟩) (by simp only []; omega)).trans Y0_w12
  have Yz_w14 : w8.heap.size < w14.heap.size := Nat.lt_of_lt_of_le Yz_w12 hc_w14.size
  clear B_w12 RA_w12 RB_w12 A0_w12 B0_w12 Z_w12 O6_w12 X0_w12 Xz_w12 O8_w12 Y0_w12 Yz_w12 hc_w14
  go_wp2_with fail
  go_ret
  exact ⟨rfl, B_w14⟩
end Go.Proofs.Ytfhngajodfjkeaa
