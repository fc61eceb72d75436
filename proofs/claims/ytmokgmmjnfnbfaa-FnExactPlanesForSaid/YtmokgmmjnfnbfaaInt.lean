/-
  Contracts: lists of integers within bounds, of both sides.
-/
import Derived.Test.YtmokgmmjnfnbfaaLi
import Derived.Test.YtmokgmmjnfnbfaaIn
namespace Go.Proofs.Ytmokgmmjnfnbfaa
open Go.RowKit
set_option linter.unusedVariables false

def withB (m : Int) (xs : List Int) : Bool := decide (∀ i (h : i < xs.length), -m ≤ xs[i] ∧ xs[i] ≤ m)
def WithTo (m : Int) (xs : List Int) (k : Nat) : Prop := ∀ i (h : i < xs.length), i < k → -m ≤ xs[i] ∧ xs[i] ≤ m
theorem withB_yes {m : Int} {xs : List Int} (h : WithTo m xs xs.length) : withB m xs = true := decide_eq_true fun i hi => h i hi hi
theorem withB_no {m : Int} {xs : List Int} {k : Nat} (hk : k < xs.length) (h : xs[k] < -m ∨ m < xs[k]) : withB m xs = false := decide_eq_false fun hh => by have := hh k hk; omega
theorem withTo_succ {m : Int} {xs : List Int} {k : Nat} (hk : k < xs.length) (h : WithTo m xs k) (h1 : -m ≤ xs[k]) (h2 : xs[k] ≤ m) : WithTo m xs (k + 1) := by
  intro i hi hlt
  by_cases he : i = k
  · subst he; exact ⟨h1, h2⟩
  · exact h i hi (by omega)
theorem withB_out {m : Int} {xs : List Int} (h : withB m xs = true) : ∀ i (hi : i < xs.length), -m ≤ xs[i] ∧ xs[i] ≤ m := of_decide_eq_true h

set_option maxHeartbeats 1000000 in
theorem withI_any (v : Value) (xs : List Int) (m : Int) (w : World) (B : Nat) (h : Rd w B v (il xs)) (hm : xs.length ≤ 1048576) (h0 : 0 ≤ m) (h1 : m ≤ 1000000000) :
    Calls Try.prog 94 #[v, .int .i64 m] w fun e w' => e = .returned (.bool (withB m xs)) ∧ w = w' := by
  obtain ⟨A, c, hv, hc1, hc2, hcell⟩ := h
  rw [il_len] at hv hc1 hcell
  subst hv
  have hC := Lib.hid hcell
  clear hcell
  go_enter Try.func94, Try.ntmps94
  go_wp2
  go_loop [9] (fun i => ∃ k : Nat, k ≤ xs.length ∧ i = .int .i64 k ∧ WithTo m xs k) (fun i => xs.length - (intOf i).toNat)
  case atStart => exact ⟨0, Nat.zero_le _, rfl, fun i _ h => by omega⟩
  case round =>
    obtain ⟨k, hk, rfl, ha⟩ := hrel
    have HA := Lib.hid ha
    clear ha
    by_cases hlt : k < xs.length
    · obtain ⟨b, off, rfl, hbl, hcc⟩ := hC.out (by omega)
      have hsrc : w.cell? ⟨b, off + k, none⟩ = some (.int .i64 xs[k]) := hcc k _ (il_get xs k hlt)
      clear hcc hC
      by_cases hlo : xs[k] < -m
      · have HN := Lib.hid (withB_no hlt (.inl hlo))
        go_wp2
        go_ret
        rw [HN.out]
        exact ⟨rfl, rfl⟩
      · have hlo' : -m ≤ xs[k] := by omega
        clear hlo
        by_cases hhi : m < xs[k]
        · have HN := Lib.hid (withB_no hlt (.inr hhi))
          go_wp2
          go_ret
          rw [HN.out]
          exact ⟨rfl, rfl⟩
        · have hhi' : xs[k] ≤ m := by omega
          clear hhi
          go_wp2
          go_round
          case rel => exact ⟨k + 1, by omega, by go_num, withTo_succ hlt HA.out hlo' hhi'⟩
          case measure => simp [intOf]; omega
    · obtain rfl : k = xs.length := by omega
      have HN := Lib.hid (withB_yes HA.out)
      go_wp2
      go_ret
      rw [HN.out]
      exact ⟨rfl, rfl⟩
set_option maxHeartbeats 1000000 in
theorem withS_any (v : Value) (xs : List Int) (m : Int) (w : World) (B : Nat) (h : Rd w B v (il xs)) (hm : xs.length ≤ 1048576) (h0 : 0 ≤ m) (h1 : m ≤ 1000000000) :
    Calls Try.prog 92 #[v, .int .i64 m] w fun e w' => e = .returned (.bool (withB m xs)) ∧ w = w' := by
  obtain ⟨A, c, hv, hc1, hc2, hcell⟩ := h
  rw [il_len] at hv hc1 hcell
  subst hv
  have hC := Lib.hid hcell
  clear hcell
  go_enter Try.func92, Try.ntmps92
  go_wp2
  go_loop [5] (fun i => ∃ k : Nat, k ≤ xs.length ∧ i = .int .i64 k ∧ WithTo m xs k) (fun i => xs.length - (intOf i).toNat)
  case atStart => exact ⟨0, Nat.zero_le _, rfl, fun i _ h => by omega⟩
  case round =>
    obtain ⟨k, hk, rfl, ha⟩ := hrel
    have HA := Lib.hid ha
    clear ha
    by_cases hlt : k < xs.length
    · obtain ⟨b, off, rfl, hbl, hcc⟩ := hC.out (by omega)
      have hsrc : w.cell? ⟨b, off + k, none⟩ = some (.int .i64 xs[k]) := hcc k _ (il_get xs k hlt)
      clear hcc hC
      by_cases hin : -m ≤ xs[k] ∧ xs[k] ≤ m
      · obtain ⟨hlo, hhi⟩ := hin
        go_wp2_with (go_at_call 57; refine (in_yes _ _ _ _ hlo hhi).mono ?_; rintro e w' ⟨rfl, rfl⟩)
        go_round
        case rel => exact ⟨k + 1, by omega, by go_num, withTo_succ hlt HA.out hlo hhi⟩
        case measure => simp [intOf]; omega
      · have hno : xs[k] < -m ∨ m < xs[k] := by omega
        have HN := Lib.hid (withB_no hlt hno)
        clear hin
        go_wp2_with (go_at_call 57; refine (in_not _ _ _ _ hno).mono ?_; rintro e w' ⟨rfl, rfl⟩)
        go_ret
        rw [HN.out]
        exact ⟨rfl, rfl⟩
    · obtain rfl : k = xs.length := by omega
      have HN := Lib.hid (withB_yes HA.out)
      go_wp2
      go_ret
      rw [HN.out]
      exact ⟨rfl, rfl⟩

/-- These are integers of the document. -/
def areB (xs : List Int) : Bool := decide (1 ≤ xs.length ∧ xs.length ≤ 128) && withB 1000000 xs
theorem areB_short {xs : List Int} (h : xs.length < 1 ∨ 128 < xs.length) : areB xs = false := by
  unfold areB; rw [decide_eq_false (by omega)]; rfl
theorem areB_mid {xs : List Int} (h1 : 1 ≤ xs.length) (h2 : xs.length ≤ 128) : areB xs = withB 1000000 xs := by
  unfold areB; rw [decide_eq_true ⟨h1, h2⟩]; rfl
theorem areB_len {xs : List Int} (h : areB xs = true) : 1 ≤ xs.length ∧ xs.length ≤ 128 ∧ withB 1000000 xs = true := by
  unfold areB at h
  rw [Bool.and_eq_true, decide_eq_true_eq] at h
  exact ⟨h.1.1, h.1.2, h.2⟩
def lenB (n : Nat) : Bool := decide (1 ≤ n ∧ n ≤ 128)
theorem lenI_any (v : Value) (xs : List Int) (w : World) (B : Nat) (h : Rd w B v (il xs)) (hm : xs.length ≤ 1048576) :
    Calls Try.prog 93 #[v] w fun e w' => e = .returned (.bool (lenB xs.length)) ∧ w = w' := by
  obtain ⟨A, c, hv, hc1, hc2, hcell⟩ := h
  rw [il_len] at hv hc1 hcell
  subst hv
  clear hcell
  have hd1 : decide (1 ≤ (xs.length : Int)) = decide (1 ≤ xs.length) := by rw [decide_eq_decide]; omega
  have hd2 : decide ((xs.length : Int) ≤ 128) = decide (xs.length ≤ 128) := by rw [decide_eq_decide]; omega
  by_cases h1 : 1 ≤ xs.length
  · by_cases h2 : xs.length ≤ 128
    · have HN := Lib.hid (show lenB xs.length = true from decide_eq_true ⟨h1, h2⟩)
      have hd : decide ((xs.length : Int) ≤ 128) = true := decide_eq_true (by omega)
      have HD := Lib.hid hd
      clear hd1 hd2 hd
      go_enter Try.func93, Try.ntmps93
      go_wp2
      go_ret
      rw [HN.out]
      exact ⟨by rw [← HD.out]; rfl, rfl⟩
    · have HN := Lib.hid (show lenB xs.length = false from decide_eq_false (by omega))
      have h3 : 128 < xs.length := by omega
      have hd : decide ((xs.length : Int) ≤ 128) = false := decide_eq_false (by omega)
      have HD := Lib.hid hd
      clear hd1 hd2 h2 hd
      go_enter Try.func93, Try.ntmps93
      go_wp2
      go_ret
      rw [HN.out]
      exact ⟨by rw [← HD.out]; rfl, rfl⟩
  · have HN := Lib.hid (show lenB xs.length = false from decide_eq_false (by omega))
    have h3 : xs.length < 1 := by omega
    clear hd1 hd2 h1
    go_enter Try.func93, Try.ntmps93
    go_wp2
    go_ret
    rw [HN.out]
    exact ⟨rfl, rfl⟩
theorem areI_any (v : Value) (xs : List Int) (w : World) (B : Nat) (h : Rd w B v (il xs)) (hm : xs.length ≤ 1048576) :
    Calls Try.prog 55 #[v] w fun e w' => e = .returned (.bool (areB xs)) ∧ w = w' := by
  cases hl : lenB xs.length with
  | true =>
    have hl' := of_decide_eq_true hl
    have HL := Lib.hid hl
    have HN := Lib.hid (areB_mid hl'.1 hl'.2)
    clear hl hl'
    cases hw : withB 1000000 xs
    all_goals
      have HW := Lib.hid hw
      clear hw
      go_enter Try.func55, Try.ntmps55
      go_wp2_with (first | (go_at_call 93; refine (lenI_any _ _ _ _ h hm).mono ?_; rintro e w' ⟨rfl, rfl⟩; rw [HL.out]) | (go_at_call 94; refine (withI_any _ _ _ _ _ h hm (by omega) (by omega)).mono ?_; rintro e w' ⟨rfl, rfl⟩; rw [HW.out]))
      go_ret
      rw [HN.out, HW.out]
      exact ⟨rfl, rfl⟩
  | false =>
    have hl' := of_decide_eq_false hl
    have HL := Lib.hid hl
    have HN := Lib.hid (areB_short (xs := xs) (by omega))
    clear hl hl'
    go_enter Try.func55, Try.ntmps55
    go_wp2_with (go_at_call 93; refine (lenI_any _ _ _ _ h hm).mono ?_; rintro e w' ⟨rfl, rfl⟩; rw [HL.out])
    go_ret
    rw [HN.out]
    exact ⟨rfl, rfl⟩
theorem areS_any (v : Value) (xs : List Int) (w : World) (B : Nat) (h : Rd w B v (il xs)) (hm : xs.length ≤ 1048576) :
    Calls Try.prog 53 #[v] w fun e w' => e = .returned (.bool (areB xs)) ∧ w = w' := by
  obtain ⟨A, c, hv, _, _, _⟩ := id h
  rw [il_len] at hv
  subst hv
  by_cases h1 : 1 ≤ xs.length
  · by_cases h2 : xs.length ≤ 128
    · have HN := Lib.hid (areB_mid h1 h2)
      cases hw : withB 1000000 xs
      all_goals
        have HW := Lib.hid hw
        clear hw
        go_enter Try.func53, Try.ntmps53
        go_wp2_with (go_at_call 92; refine (withS_any _ _ _ _ _ h hm (by omega) (by omega)).mono ?_; rintro e w' ⟨rfl, rfl⟩; rw [HW.out])
        go_ret
        rw [HN.out, HW.out]
        exact ⟨rfl, rfl⟩
    · have HN := Lib.hid (areB_short (xs := xs) (by omega))
      have h3 : 128 < xs.length := by omega
      clear h2
      go_enter Try.func53, Try.ntmps53
      go_wp2_with fail
      go_ret
      rw [HN.out]
      exact ⟨rfl, rfl⟩
  · have HN := Lib.hid (areB_short (xs := xs) (by omega))
    have h3 : xs.length < 1 := by omega
    clear h1
    go_enter Try.func53, Try.ntmps53
    go_wp2_with fail
    go_ret
    rw [HN.out]
    exact ⟨rfl, rfl⟩
end Go.Proofs.Ytmokgmmjnfnbfaa
