/-
  Contracts: PlanesFor of one side.
-/
import Derived.Test.YtmokgmmjnfnbfaaPfK
import Derived.Test.YtmokgmmjnfnbfaaPnS
namespace Go.Proofs.Ytmokgmmjnfnbfaa
open Go.RowKit Fl
set_option linter.unusedVariables false

def PoRel (w : World) (xs : List Int) (n i : Value) (wr : World) : Prop := ∃ j m : Nat, j ≤ xs.length ∧ i = .int .i64 j ∧ n = .int .i64 m ∧ PlUp xs j m ∧ PlLo xs m ∧ w = wr
def PiRel (w : World) (xs : List Int) (j : Nat) (n : Value) (wr : World) : Prop := ∃ m : Nat, n = .int .i64 m ∧ PlUp xs j m ∧ PlLo xs m ∧ w = wr
theorem plUp_more {xs : List Int} {j m : Nat} (h : PlUp xs j m) : PlUp xs j (m + 1) := fun i hi hk => by have := h i hi hk; have := pw_mono (show m ≤ m + 1 by omega); omega
theorem plUp_next {xs : List Int} {j m : Nat} (hj : j < xs.length) (h : PlUp xs j m) (h1 : absI xs[j] < 2 ^ m) : PlUp xs (j + 1) m := by
  intro i hi hk
  by_cases e : i = j
  · subst e; exact h1
  · exact h i hi (by omega)
theorem q_zero {z : Int} {m : Nat} (h0 : 0 ≤ z) (h : z / 2 ^ m = 0) : z < 2 ^ m := by
  have hp := pow_pos2 m
  have := Int.emod_add_mul_ediv z (2 ^ m)
  rw [h, Int.mul_zero] at this
  have := Int.emod_lt_of_pos z hp
  omega
theorem q_some {z : Int} {m : Nat} (h0 : 0 ≤ z) (h : z / 2 ^ m ≠ 0) : 2 ^ m ≤ z := by
  by_cases hl : 2 ^ m ≤ z
  · exact hl
  · exact absurd (Int.ediv_eq_zero_of_lt h0 (by omega)) h
set_option maxRecDepth 100000 in
set_option maxHeartbeats 4000000 in
theorem l6pl_any (v : Value) (xs : List Int) (w : World) (B : Nat) (hr : Rd w B v (il xs)) (hm : xs.length ≤ 1048576) (hw : withB 1000000 xs = true) :
    Calls Try.prog 54 #[v] w fun e w' => e = .returned (.int .i64 (plF xs)) ∧ w = w' := by
  obtain ⟨A0, c, hv, hc1, hc2, hcell⟩ := hr
  rw [il_len] at hv hc1 hcell
  subst hv
  have HC := Lib.hid hcell
  have HW := Lib.hid hw
  clear hcell hw
  go_enter Try.func54, Try.ntmps54
  go_wp2
  go_loopw [3, 4] (PoRel w xs) (fun _ i _ => xs.length - (intOf i).toNat)
  case atStart => exact ⟨0, 0, Nat.zero_le _, rfl, rfl, fun i _ h => absurd h (Nat.not_lt_zero _), .inl rfl, rfl⟩
  case round =>
    obtain ⟨j, m, hj, rfl, rfl, hu, hl, rfl⟩ := hrel
    have HU := Lib.hid hu
    have HL := Lib.hid hl
    clear hu hl
    by_cases hlt : j < xs.length
    · obtain ⟨b, off, rfl, hbl, hcc⟩ := HC.out (by omega)
      have hsrc : w.cell? ⟨b, off + j, none⟩ = some (.int .i64 xs[j]) := hcc j _ (il_get xs j hlt)
      clear hcc HC
      obtain ⟨x1, x2⟩ := withB_out HW.out j hlt
      have HAb := Lib.hid (fun w' => abS_any xs[j] w' x1 x2)
      obtain ⟨d1, d2⟩ := absI_b xs[j] x1 x2
      clear x1 x2
      go_wp2
      go_loopw [3] (PiRel w xs j) (fun n _ => 24 - (intOf n).toNat)
      case atStart => exact ⟨m, rfl, HU.out, HL.out, rfl⟩
      case round =>
        clear HU HL
        obtain ⟨k, rfl, hu, hl, rfl⟩ := hrel
        have hk := plLo_small HW.out hl
        have hmk : min k 64 = k := by omega
        have HU := Lib.hid hu
        have HL := Lib.hid hl
        have HZ := Lib.hid (fun h => q_zero (m := k) d1 h)
        have HSo := Lib.hid (fun h => q_some (m := k) d1 h)
        have HNe := Lib.hid (fun (h : absI xs[j] < 2 ^ k) => plUp_next hlt HU.out h)
        have HMe := Lib.hid (List.getElem_mem hlt)
        have hq0 : 0 ≤ absI xs[j] / 2 ^ k := Int.ediv_nonneg d1 (by have := pow_pos2 k; omega)
        have hq1 : absI xs[j] / 2 ^ k ≤ 1000000 := Int.le_trans (Int.ediv_le_self _ d1) d2
        clear hu hl
        have HLo := Lib.hid (show 2 ^ k ≤ absI xs[j] → PlLo xs (k + 1) from fun h => .inr ⟨xs[j], HMe.out, h⟩)
        clear HMe
        generalize absI xs[j] = z at *
        generalize xs[j] = x at *
        obtain ⟨q, hq⟩ : ∃ q, z / 2 ^ k = q := ⟨_, rfl⟩
        rw [hq] at hq0 hq1 HZ HSo
        by_cases hqz : q = 0
        · have HF := Lib.hid (HNe.out (HZ.out hqz))
          clear HZ HSo HNe HLo
          subst hqz
          go_wp2_with (go_at_call 85; refine (HAb.out _).mono ?_; rintro e w' ⟨rfl, rfl⟩)
          go_roundw
          case rel => exact ⟨j + 1, k, by omega, by go_num, rfl, HF.out, HL.out, rfl⟩
          case measure => simp [intOf]; omega
        · have HF := Lib.hid (HLo.out (HSo.out hqz))
          have HG := Lib.hid (plUp_more HU.out)
          clear HZ HSo HNe HLo
          go_wp2_with (go_at_call 85; refine (HAb.out _).mono ?_; rintro e w' ⟨rfl, rfl⟩)
          go_roundw
          case rel => exact ⟨k + 1, by go_num, HG.out, HF.out, rfl⟩
          case measure => simp [intOf]; omega
    · obtain rfl : j = xs.length := by omega
      have HE := Lib.hid (plF_is ⟨HU.out, HL.out⟩)
      go_wp2
      go_ret
      rw [HE.out]
      exact ⟨rfl, rfl⟩
theorem pfS_any (v : Value) (xs : List Int) (w : World) (hr : Rd w w.heap.size v (il xs)) (hm : xs.length ≤ 1048576) :
    Calls Try.prog 15 #[v] w fun e w' => e = .returned (.tuple #[.int .i64 (pfV xs), .bool (areB xs)]) ∧ Below w.heap.size w w' := by
  have HA := Lib.hid (areS_any v xs w _ hr hm)
  cases t1 : areB xs with
  | false =>
    rw [pfV_no t1]
    have T1 := Lib.hid t1
    clear t1
    go_enter Try.func15, Try.ntmps15
    go_wp2_with (first | (go_at_call 53; refine HA.out.mono ?_; rintro e w' ⟨rfl, rfl⟩; rw [T1.out]))
    go_ret2
    exact ⟨rfl, Below.refl _ _⟩
  | true =>
    rw [pfV_yes t1]
    obtain ⟨hl1, hl2, hw⟩ := areB_len t1
    have HP := Lib.hid (l6pl_any v xs w _ hr hm hw)
    have T1 := Lib.hid t1
    clear t1 hw
    go_enter Try.func15, Try.ntmps15
    go_wp2_with (first | (go_at_call 53; refine HA.out.mono ?_; rintro e w' ⟨rfl, rfl⟩; rw [T1.out]) | (go_at_call 54; refine HP.out.mono ?_; rintro e w' ⟨rfl, rfl⟩))
    go_ret2
    exact ⟨rfl, Below.refl _ _⟩
end Go.Proofs.Ytmokgmmjnfnbfaa
