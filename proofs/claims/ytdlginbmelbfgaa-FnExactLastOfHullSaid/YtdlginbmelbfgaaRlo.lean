/-
  Contracts: RiceLong and BestRice of both sides.
-/
import Derived.Test.YtdlginbmelbfgaaRl
namespace Go.Proofs.Ytdlginbmelbfgaa
open Go.RowKit
set_option linter.unusedVariables false

def ridB (k : Int) : Bool := decide (0 ≤ k ∧ k ≤ 20)
theorem ridI_any (k : Int) (w : World) : Calls Try.prog 62 #[.int .i64 k] w fun e w' => e = .returned (.bool (ridB k)) ∧ w = w' := by
  by_cases h1 : 0 ≤ k
  · by_cases h2 : k ≤ 20
    · have HN := Lib.hid (show ridB k = true from decide_eq_true ⟨h1, h2⟩)
      have HD := Lib.hid (show decide (k ≤ 20) = true from decide_eq_true h2)
      clear h2
      go_enter Try.func62, Try.ntmps62
      go_wp2_with fail
      go_ret
      rw [HN.out]
      exact ⟨by rw [← HD.out]; rfl, rfl⟩
    · have HN := Lib.hid (show ridB k = false from decide_eq_false (by omega))
      have HD := Lib.hid (show decide (k ≤ 20) = false from decide_eq_false h2)
      clear h2
      go_enter Try.func62, Try.ntmps62
      go_wp2_with fail
      go_ret
      rw [HN.out]
      exact ⟨by rw [← HD.out]; rfl, rfl⟩
  · have HN := Lib.hid (show ridB k = false from decide_eq_false (by omega))
    have h3 : k < 0 := by omega
    clear h1
    go_enter Try.func62, Try.ntmps62
    go_wp2_with fail
    go_ret
    rw [HN.out]
    exact ⟨rfl, rfl⟩
theorem ridB_out {k : Int} (h : ridB k = true) : 0 ≤ k ∧ k ≤ 20 := of_decide_eq_true h
theorem inR_any (k : Int) (w : World) : Calls Try.prog 55 #[.int .i64 k, .int .i64 0, .int .i64 20] w fun e w' => e = .returned (.bool (ridB k)) ∧ w = w' := by
  cases h : ridB k with
  | true => exact in_yes k 0 20 w (ridB_out h).1 (ridB_out h).2
  | false => exact in_not k 0 20 w (by have := of_decide_eq_false h; omega)
def rlG (xs : List Int) (k : Int) : Bool := areB xs && ridB k
def rlV (xs : List Int) (k : Int) : Int := if rlG xs k then rlK xs k xs.length else 0
theorem rlG_out {xs : List Int} {k : Int} (h : rlG xs k = true) : areB xs = true ∧ ridB k = true := by unfold rlG at h; simpa using h
theorem rlV_yes {xs : List Int} {k : Int} (h : rlG xs k = true) : rlV xs k = rlK xs k xs.length := by unfold rlV; rw [if_pos h]
theorem rlV_no {xs : List Int} {k : Int} (h : rlG xs k = false) : rlV xs k = 0 := by unfold rlV; rw [if_neg (by rw [h]; simp)]
set_option maxHeartbeats 1000000 in
theorem riceS_any (v : Value) (xs : List Int) (k : Int) (w : World) (B : Nat) (h : Rd w B v (il xs)) (hm : xs.length ≤ 1048576) :
    Calls Try.prog 59 #[v, .int .i64 k] w fun e w' => e = .returned (.bool (rlG xs k)) ∧ w = w' := by
  obtain ⟨A, c, hv, _, _, _⟩ := id h
  rw [il_len] at hv
  subst hv
  cases ha : areB xs with
  | true =>
    have HG := Lib.hid (show rlG xs k = ridB k by unfold rlG; rw [ha]; rfl)
    have HA := Lib.hid ha
    clear ha
    go_enter Try.func59, Try.ntmps59
    go_wp2_with (first | (go_at_call 63; refine (areS_any _ _ _ _ h hm).mono ?_; rintro e w' ⟨rfl, rfl⟩; rw [HA.out]) | (go_at_call 55; refine (inR_any k _).mono ?_; rintro e w' ⟨rfl, rfl⟩))
    go_ret
    exact ⟨by rw [HG.out]; rfl, rfl⟩
  | false =>
    have HG := Lib.hid (show rlG xs k = false by unfold rlG; rw [ha]; rfl)
    have HA := Lib.hid ha
    clear ha
    go_enter Try.func59, Try.ntmps59
    go_wp2_with (first | (go_at_call 63; refine (areS_any _ _ _ _ h hm).mono ?_; rintro e w' ⟨rfl, rfl⟩; rw [HA.out]))
    go_ret
    exact ⟨by rw [HG.out]; rfl, rfl⟩
set_option maxHeartbeats 1000000 in
theorem rloS_any (v : Value) (xs : List Int) (k : Int) (w : World) (B : Nat) (h : Rd w B v (il xs)) (hm : xs.length ≤ 1048576) :
    Calls Try.prog 19 #[v, .int .i64 k] w fun e w' => e = .returned (.tuple #[.int .i64 (rlV xs k), .bool (rlG xs k)]) ∧ w = w' := by
  obtain ⟨A, c, hv, _, _, _⟩ := id h
  rw [il_len] at hv
  subst hv
  cases hg : rlG xs k with
  | true =>
    rw [rlV_yes hg]
    obtain ⟨ha, hk⟩ := rlG_out hg
    have HL := Lib.hid (fun w' => rlS_any (.slice A xs.length c) xs k w' B)
    have hl := (areB_len ha).2.1
    have HW := Lib.hid (areB_len ha).2.2
    have HK := Lib.hid (ridB_out hk)
    have HG := Lib.hid hg
    clear ha hk hg
    go_enter Try.func19, Try.ntmps19
    go_wp2_with (first | (go_at_call 59; refine (riceS_any _ _ _ _ _ h hm).mono ?_; rintro e w' ⟨rfl, rfl⟩; rw [HG.out]) | (go_at_call 60; refine (HL.out _ h hl HW.out HK.out.1 HK.out.2).mono ?_; rintro e w' ⟨rfl, rfl⟩))
    go_ret2
    exact ⟨rfl, rfl⟩
  | false =>
    rw [rlV_no hg]
    have HG := Lib.hid hg
    clear hg
    go_enter Try.func19, Try.ntmps19
    go_wp2_with (first | (go_at_call 59; refine (riceS_any _ _ _ _ _ h hm).mono ?_; rintro e w' ⟨rfl, rfl⟩; rw [HG.out]))
    go_ret2
    exact ⟨rfl, rfl⟩
set_option maxHeartbeats 2000000 in
theorem rloI_any (v : Value) (xs : List Int) (k : Int) (w : World) (B : Nat) (h : Rd w B v (il xs)) (hm : xs.length ≤ 1048576) :
    Calls Try.prog 21 #[v, .int .i64 k] w fun e w' => e = .returned (.tuple #[.int .i64 (rlV xs k), .bool (rlG xs k)]) ∧ w = w' := by
  obtain ⟨A, c, hv, hc1, hc2, hcell⟩ := id h
  rw [il_len] at hv hc1 hcell
  subst hv
  cases ha : areB xs with
  | false =>
    have hg : rlG xs k = false := by unfold rlG; rw [ha]; rfl
    rw [rlV_no hg, hg]
    have HA := Lib.hid ha
    clear ha hg hcell hc1 hc2
    go_enter Try.func21, Try.ntmps21
    go_wp2_with (first | (go_at_call 61; refine (areI_any _ _ _ _ h hm).mono ?_; rintro e w' ⟨rfl, rfl⟩; rw [HA.out]))
    go_ret2
    exact ⟨rfl, rfl⟩
  | true =>
    cases hk : ridB k with
    | false =>
      have hg : rlG xs k = false := by unfold rlG; rw [ha, hk]; rfl
      rw [rlV_no hg, hg]
      have HA := Lib.hid ha
      have HK := Lib.hid hk
      clear ha hg hk hcell hc1 hc2
      go_enter Try.func21, Try.ntmps21
      go_wp2_with (first | (go_at_call 61; refine (areI_any _ _ _ _ h hm).mono ?_; rintro e w' ⟨rfl, rfl⟩; rw [HA.out]) | (go_at_call 62; refine (ridI_any k _).mono ?_; rintro e w' ⟨rfl, rfl⟩; rw [HK.out]))
      go_ret2
      exact ⟨rfl, rfl⟩
    | true =>
      have hg : rlG xs k = true := by unfold rlG; rw [ha, hk]; rfl
      rw [rlV_yes hg, hg]
      obtain ⟨hl1, hl2, hw⟩ := areB_len ha
      obtain ⟨hk1, hk2⟩ := ridB_out hk
      have HA := Lib.hid ha
      have HK := Lib.hid hk
      have HC := Lib.hid hcell
      have HW := Lib.hid hw
      have HB := Lib.hid (rlK_b xs k hw hk1 hk2)
      have H0 := Lib.hid h
      clear ha hg hk hcell hc1 hc2 hw h
      go_enter Try.func21, Try.ntmps21
      go_wp2_with (first | (go_at_call 61; refine (areI_any _ _ _ _ H0.out hm).mono ?_; rintro e w' ⟨rfl, rfl⟩; rw [HA.out]) | (go_at_call 62; refine (ridI_any k _).mono ?_; rintro e w' ⟨rfl, rfl⟩; rw [HK.out]))
      go_loop [6, 19] (fun s i => ∃ j : Nat, j ≤ xs.length ∧ i = .int .i64 j ∧ s = .int .i64 (rlK xs k j)) (fun _ i => xs.length - (intOf i).toNat)
      case atStart => exact ⟨0, Nat.zero_le _, rfl, rfl⟩
      case round =>
        obtain ⟨j, hj, rfl, rfl⟩ := hrel
        by_cases hlt : j < xs.length
        · obtain ⟨b, off, rfl, hbl, hcc⟩ := HC.out (by omega)
          have hsrc : w.cell? ⟨b, off + j, none⟩ = some (.int .i64 xs[j]) := hcc j _ (il_get xs j hlt)
          clear hcc HC H0
          have hx := withB_out HW.out j hlt
          have HZ := Lib.hid (fun w' => zigI_any xs[j] w' hx.1 hx.2)
          have HS := Lib.hid (rlK_succ xs k j hlt)
          obtain ⟨q0, q1⟩ := rz_b xs[j] k hx.1 hx.2 hk1 hk2
          obtain ⟨r0, r1⟩ := HB.out j (by omega)
          have hmk := minK k hk2
          generalize zig xs[j] = z at *
          generalize xs[j] = x at *
          generalize rlK xs k j = r at *
          obtain ⟨q, hq⟩ : ∃ q, z / 2 ^ k.toNat = q := ⟨_, rfl⟩
          rw [hq] at HS q0 q1
          clear hx
          go_wp2_with (go_at_call 57; refine (HZ.out _).mono ?_; rintro e w' ⟨rfl, rfl⟩)
          go_round
          case rel => exact ⟨j + 1, by omega, by go_num, by rw [HS.out]⟩
          case measure => simp [intOf]; omega
        · obtain rfl : j = xs.length := by omega
          go_wp2
          go_ret2
          exact ⟨rfl, rfl⟩
/-- The best number of digits among 0 .. m. -/
def brK (xs : List Int) : Nat → Int × Int
  | 0 => (0, rlK xs 0 xs.length)
  | m + 1 => if rlK xs (m + 1) xs.length < (brK xs m).2 then (m + 1, rlK xs (m + 1) xs.length) else brK xs m
theorem brK_succ (xs : List Int) (m : Nat) : brK xs (m + 1) = if rlK xs (m + 1) xs.length < (brK xs m).2 then (((m : Int) + 1), rlK xs (m + 1) xs.length) else brK xs m := rfl
theorem brK_fst (xs : List Int) (m : Nat) : 0 ≤ (brK xs m).1 ∧ (brK xs m).1 ≤ m := by
  induction m with
  | zero => simp [brK]
  | succ m ih => rw [brK_succ]; split <;> simp <;> omega
def brG (xs : List Int) : Bool := areB xs
def brV (xs : List Int) : Int × Int := if areB xs then brK xs 20 else (0, 0)
set_option maxHeartbeats 2000000 in
theorem brS_any (v : Value) (xs : List Int) (w : World) (B : Nat) (h : Rd w B v (il xs)) (hm : xs.length ≤ 1048576) :
    Calls Try.prog 23 #[v] w fun e w' => e = .returned (.tuple #[.int .i64 (brV xs).1, .int .i64 (brV xs).2, .bool (areB xs)]) ∧ w = w' := by
  obtain ⟨A, c, hv, _, _, _⟩ := id h
  rw [il_len] at hv
  subst hv
  cases ha : areB xs with
  | false =>
    rw [show brV xs = (0, 0) by unfold brV; rw [ha]; rfl]
    have HA := Lib.hid ha
    clear ha
    go_enter Try.func23, Try.ntmps23
    go_wp2_with (first | (go_at_call 63; refine (areS_any _ _ _ _ h hm).mono ?_; rintro e w' ⟨rfl, rfl⟩; rw [HA.out]))
    go_ret3
    exact ⟨rfl, rfl⟩
  | true =>
    rw [show brV xs = brK xs 20 by unfold brV; rw [ha]; rfl]
    obtain ⟨hl1, hl2, hw⟩ := areB_len ha
    have HA := Lib.hid ha
    have HL := Lib.hid (fun k (h1 : 0 ≤ k) (h2 : k ≤ 20) => rlS_any (.slice A xs.length c) xs k w B h hl2 hw h1 h2)
    clear ha hw
    go_enter Try.func23, Try.ntmps23
    go_wp2_with (first | (go_at_call 63; refine (areS_any _ _ _ _ h hm).mono ?_; rintro e w' ⟨rfl, rfl⟩; rw [HA.out]) | (go_at_call 60; refine (HL.out 0 (by omega) (by omega)).mono ?_; rintro e w' ⟨rfl, rfl⟩))
    go_loop [5, 6, 7] (fun s l i => ∃ j : Nat, j ≤ 20 ∧ i = .int .i64 (j + 1) ∧ s = .int .i64 (brK xs j).1 ∧ l = .int .i64 (brK xs j).2) (fun _ _ i => 21 - (intOf i).toNat)
    case atStart => exact ⟨0, by omega, rfl, rfl, rfl⟩
    case round =>
      obtain ⟨j, hj, rfl, rfl, rfl⟩ := hrel
      by_cases hlt : j < 20
      · have HS := Lib.hid (brK_succ xs j)
        have HC := Lib.hid (HL.out (j + 1) (by omega) (by omega))
        by_cases hl : rlK xs (j + 1) xs.length < (brK xs j).2
        · rw [if_pos hl] at HS
          generalize brK xs j = r at *
          generalize rlK xs (j + 1) xs.length = s at *
          go_wp2_with (go_at_call 60; refine HC.out.mono ?_; rintro e w' ⟨rfl, rfl⟩)
          go_round
          case rel => exact ⟨j + 1, by omega, by go_num, by rw [HS.out], by rw [HS.out]⟩
          case measure => simp [intOf]; omega
        · rw [if_neg hl] at HS
          have hl' : (brK xs j).2 ≤ rlK xs (j + 1) xs.length := by omega
          clear hl
          generalize brK xs j = r at *
          generalize rlK xs (j + 1) xs.length = s at *
          go_wp2_with (go_at_call 60; refine HC.out.mono ?_; rintro e w' ⟨rfl, rfl⟩)
          go_round
          case rel => exact ⟨j + 1, by omega, by go_num, by rw [HS.out], by rw [HS.out]⟩
          case measure => simp [intOf]; omega
      · obtain rfl : j = 20 := by omega
        go_wp2
        go_ret3
        exact ⟨rfl, rfl⟩
set_option maxHeartbeats 2000000 in
theorem brI_any (v : Value) (xs : List Int) (w : World) (B : Nat) (h : Rd w B v (il xs)) (hm : xs.length ≤ 1048576) :
    Calls Try.prog 24 #[v] w fun e w' => e = .returned (.tuple #[.int .i64 (brV xs).1, .int .i64 (brV xs).2, .bool (areB xs)]) ∧ w = w' := by
  obtain ⟨A, c, hv, _, _, _⟩ := id h
  rw [il_len] at hv
  subst hv
  cases ha : areB xs with
  | false =>
    have hg : rlG xs 0 = false := by unfold rlG; rw [ha]; rfl
    rw [show brV xs = (0, 0) by unfold brV; rw [ha]; rfl]
    have HG := Lib.hid hg
    have HV := Lib.hid (rlV_no hg)
    clear ha hg
    go_enter Try.func24, Try.ntmps24
    go_wp2_with (first | (go_at_call 21; refine (rloI_any _ _ 0 _ _ h hm).mono ?_; rintro e w' ⟨rfl, rfl⟩; rw [HG.out, HV.out]))
    go_ret3
    exact ⟨rfl, rfl⟩
  | true =>
    have hg : ∀ k : Int, 0 ≤ k → k ≤ 20 → rlG xs k = true := fun k h1 h2 => by unfold rlG; rw [ha, show ridB k = true from decide_eq_true ⟨h1, h2⟩]; rfl
    rw [show brV xs = brK xs 20 by unfold brV; rw [ha]; rfl]
    have HG := Lib.hid (hg 0 (by omega) (by omega))
    have HV := Lib.hid (rlV_yes (hg 0 (by omega) (by omega)))
    have HL := Lib.hid (fun k (h1 : 0 ≤ k) (h2 : k ≤ 20) => (by have := rloI_any (.slice A xs.length c) xs k w B h hm; rw [rlV_yes (hg k h1 h2), hg k h1 h2] at this; exact this : Calls Try.prog 21 #[.slice A xs.length c, .int .i64 k] w fun e w'' => e = .returned (.tuple #[.int .i64 (rlK xs k xs.length), .bool true]) ∧ w = w''))
    clear ha hg
    go_enter Try.func24, Try.ntmps24
    go_wp2_with (first | (go_at_call 21; refine (rloI_any _ _ 0 _ _ h hm).mono ?_; rintro e w' ⟨rfl, rfl⟩; rw [HG.out, HV.out]))
    go_loop [5, 6, 19] (fun s l i => ∃ j : Nat, j ≤ 21 ∧ i = .int .i64 j ∧ s = .int .i64 (brK xs (j - 1)).1 ∧ l = .int .i64 (brK xs (j - 1)).2) (fun _ _ i => 21 - (intOf i).toNat)
    case atStart => exact ⟨0, by omega, rfl, rfl, rfl⟩
    case round =>
      obtain ⟨j, hj, rfl, rfl, rfl⟩ := hrel
      by_cases hlt : j < 21
      · have HC := Lib.hid (HL.out j (by omega) (by omega))
        have HS : Hid (brK xs j = if rlK xs j xs.length < (brK xs (j - 1)).2 then ((j : Int), rlK xs j xs.length) else brK xs (j - 1)) := Lib.hid (by
          cases j with
          | zero => rw [if_neg (by show ¬ rlK xs 0 xs.length < rlK xs 0 xs.length; omega)]
          | succ m => exact brK_succ xs m)
        by_cases hl : rlK xs j xs.length < (brK xs (j - 1)).2
        · rw [if_pos hl] at HS
          generalize brK xs (j - 1) = r at *
          generalize rlK xs j xs.length = s at *
          go_wp2_with (go_at_call 21; refine HC.out.mono ?_; rintro e w' ⟨rfl, rfl⟩)
          go_round
          case rel => exact ⟨j + 1, by omega, by go_num, by rw [show j + 1 - 1 = j by omega, HS.out], by rw [show j + 1 - 1 = j by omega, HS.out]⟩
          case measure => simp [intOf]; omega
        · rw [if_neg hl] at HS
          have hl' : (brK xs (j - 1)).2 ≤ rlK xs j xs.length := by omega
          clear hl
          generalize brK xs (j - 1) = r at *
          generalize rlK xs j xs.length = s at *
          go_wp2_with (go_at_call 21; refine HC.out.mono ?_; rintro e w' ⟨rfl, rfl⟩)
          go_round
          case rel => exact ⟨j + 1, by omega, by go_num, by rw [show j + 1 - 1 = j by omega, HS.out], by rw [show j + 1 - 1 = j by omega, HS.out]⟩
          case measure => simp [intOf]; omega
      · obtain rfl : j = 21 := by omega
        go_wp2
        go_ret3
        exact ⟨rfl, rfl⟩
theorem retV_of {t : Value} {w : World} {e : Ending} {w' : World} (h : e = .returned t ∧ w = w') : RetV t w e w' := ⟨h.1, by rw [h.2]; exact Below.refl _ _⟩
end Go.Proofs.Ytdlginbmelbfgaa
