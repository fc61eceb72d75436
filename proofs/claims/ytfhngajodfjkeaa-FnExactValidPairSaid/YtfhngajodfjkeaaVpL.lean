/-
  The walk of the law on valid pairs.
-/
import Derived.Test.YtfhngajodfjkeaaVpS
import Derived.Deep.RegionWith
import Derived.Outline
namespace Go.Proofs.Ytfhngajodfjkeaa
open Go.RowKit Fl
set_option linter.unusedVariables false
set_option maxHeartbeats 2000000 in
theorem vpL_walk (w : World) (v : Value) (xs : List Nat) (h : Rd w w.heap.size v (fl xs)) (hx : ∀ x ∈ xs, x < 2 ^ 32) :
    Calls Try.prog 5 #[.agg #[v]] w fun e w' => e = .returned (.bool true) ∧ Below w.heap.size w w' := by
  have hle := h.le
  rw [fl_len] at hle
  unfold maxLen at hle
  have hsf : ∀ (a : Addr) (x : Nat) (w : World), (store a (.float .f32 x)).run Try.prog w = stored Try.prog w a (.float .f32 x) .plain := fun a x w => run_store _ w a _ _ rfl
  obtain ⟨A, c, hv, q1, q2, q3⟩ := id h
  clear q1 q2 q3
  rw [fl_len] at hv
  subst hv
  have HX := Lib.hid hx
  clear hx
  have hW0 : Below w.heap.size w (w.alloc (.cells #[.slice A xs.length c] 29)) := (Below.refl _ _).alloc (Nat.le_refl _) _
  have HZ := Lib.hid (szPair_any _ xs 1048576 _ (h.step hW0) (by omega) (by omega) hle)
  by_cases hbig : 1048576 < xs.length
  · rw [if_pos (by omega)] at HZ
    go_enter Try.func5, Try.ntmps5
    go_wp2_with fail
    refine HZ.out.mono ?_
    rintro e w1 ⟨rfl, hb⟩
    go_wp2_with fail
    go_ret
    exact ⟨rfl, hW0.trans (hb.mono (by simp))⟩
  rw [if_neg (by omega)] at HZ
  have hm : xs.length ≤ 1048576 := by omega
  have hl' : 0 ≤ (1048576 : Int) - xs.length := by omega
  cases hv : vpB xs
  all_goals
    have HV := Lib.hid hv
    go_enter Try.func5, Try.ntmps5
    go_wp2_with fail
    refine HZ.out.mono ?_
    rintro e w1 ⟨rfl, hb⟩
    have B1 : Below w.heap.size w w1 := hW0.trans (hb.mono (by simp))
    have R1 := (h.step hW0).step hb
    have C0 : w1.cell? ⟨w.heap.size, 0, none⟩ = some (.slice A xs.length c) := (hb.cell (p := ⟨w.heap.size, 0, none⟩) (by simp)).trans ((cell_of_row _ _ _ _ _ _ (heap_alloc_new w _)).trans rfl)
    have Z1 : w.heap.size < w1.heap.size := by have := hb.size; simp at this; omega
    clear hb hv hbig
    go_wp2_with fail
    refine (toPair_any _ xs _ R1 hm).mono ?_
    rintro e w2 ⟨g2, rfl, O2, hb⟩
    have B2 : Below w.heap.size w w2 := B1.trans (hb.mono B1.size)
    have R2 := R1.step hb
    have D0 := (hb.cell (p := ⟨w.heap.size, 0, none⟩) Z1).trans C0
    have Z2 : w.heap.size < w2.heap.size := by have := hb.size; omega
    clear C0 R1 B1 Z1 hb
    go_wp2_with fail
    refine (vpS_any _ xs _ O2.rd hm HX.out).mono ?_
    rintro e w3 ⟨rfl, hb⟩
    rw [HV.out]
    have B3 : Below w.heap.size w w3 := B2.trans (hb.mono B2.size)
    have R3 := R2.step hb
    have E0 := (hb.cell (p := ⟨w.heap.size, 0, none⟩) Z2).trans D0
    have Z3 : w.heap.size < w3.heap.size := by have := hb.size; omega
    clear D0 R2 B2 Z2 hb O2
    go_wp2_with fail
    refine (toPair_any _ xs _ R3 hm).mono ?_
    rintro e w4 ⟨g4, rfl, O4, hb⟩
    have B4 : Below w.heap.size w w4 := B3.trans (hb.mono B3.size)
    have R4 := R3.step hb
    have F0 := (hb.cell (p := ⟨w.heap.size, 0, none⟩) Z3).trans E0
    have Z4 : w.heap.size < w4.heap.size := by have := hb.size; omega
    clear E0 R3 B3 hb
    go_wp2_with fail
    have hb4 : Below w4.heap.size w4 (w4.alloc (.cells #[.slice (some ⟨g4, 0, none⟩) xs.length xs.length] 24)) := (Below.refl _ _).alloc (Nat.le_refl _) _
    refine (vpI_any _ xs _ (O4.below hb4).rd hm HX.out).mono ?_
    rintro e w5 ⟨rfl, hb⟩
    rw [HV.out]
    have B5 : Below w.heap.size w w5 := (B4.trans (hb4.mono B4.size)).trans (hb.mono (by have := B4.size; simp; omega))
    have R5 := (R4.step hb4).step hb
    have O5 := (O4.below hb4).below hb
    have G0 := (hb.cell (p := ⟨w.heap.size, 0, none⟩) (by simp; omega)).trans ((hb4.cell (p := ⟨w.heap.size, 0, none⟩) Z4).trans F0)
    have X0 : w5.cell? ⟨w4.heap.size, 0, none⟩ = some (.slice (some ⟨g4, 0, none⟩) xs.length xs.length) := (hb.cell (p := ⟨w4.heap.size, 0, none⟩) (by simp)).trans ((cell_of_row _ _ _ _ _ _ (heap_alloc_new w4 _)).trans rfl)
    have Z5 : w.heap.size < w5.heap.size := by have := hb.size; simp at this; omega
    have Z5' : w4.heap.size < w5.heap.size := by have := hb.size; simp at this; omega
    clear F0 R4 B4 Z4 Z3 O4 hb4 hb
    go_wp2_with fail
    have HT := Lib.hid (fun (w' : World) (hr : Rd w' w'.heap.size (.slice A xs.length c) (fl xs)) => toPair_any (.slice A xs.length c) xs w' hr hm)
    go_region_with (first | (go_at_call 24; refine (HT.out _ ?_).mono ?_; exact R5; rintro e w6 ⟨g6, rfl, O6, hb⟩; have hb6 : Below w5.heap.size w5 w6 := ⟨hb.os, hb.tape, hb.output, hb.size, hb.block⟩; have O6' : Own w6 w5.heap.size (.slice (some ⟨g6, 0, none⟩) xs.length xs.length) (fl xs) := O6; have X0' := (hb6.cell (p := ⟨w4.heap.size, 0, none⟩) Z5').trans X0) | (go_at_call 17; refine (eqPair_any _ _ xs xs _ ?_ ?_ (Worth.refl _) hm).mono ?_; exact (O5.below hb6).rd; exact O6'.rd; rintro e w7 ⟨rfl, hb7⟩))
    all_goals
      go_wp2
      go_ret
      exact ⟨rfl, B5.trans ((hb6.trans ⟨hb7.os, hb7.tape, hb7.output, hb7.size, fun k hk => hb7.block k (by have := hb6.size; omega)⟩).mono B5.size)⟩
end Go.Proofs.Ytfhngajodfjkeaa
