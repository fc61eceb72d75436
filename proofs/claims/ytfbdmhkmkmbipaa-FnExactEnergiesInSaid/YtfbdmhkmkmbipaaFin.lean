/-
  Contracts: finite numbers of lists of 32-bit floats, of both sides.
-/
import Derived.Test.YtfbdmhkmkmbipaaEqG
namespace Go.Proofs.Ytfbdmhkmkmbipaa
open Go.RowKit Fl
set_option linter.unusedVariables false

def RetBo (b : Bool) (w : World) (e : Ending) (w' : World) : Prop := e = .returned (.bool b) ∧ ∃ n, w' = w.drewN n
def finA (xs : List Nat) : Bool := decide (∀ i (h : i < xs.length), finB .f32 xs[i] = true)
def FinTo (xs : List Nat) (k : Nat) : Prop := ∀ i (h : i < xs.length), i < k → finB .f32 xs[i] = true
theorem finA_yes {xs : List Nat} (h : FinTo xs xs.length) : finA xs = true := decide_eq_true fun i hi => h i hi hi
theorem finA_no {xs : List Nat} {k : Nat} (hk : k < xs.length) (h : finB .f32 xs[k] = false) : finA xs = false := decide_eq_false fun hh => by rw [hh k hk] at h; cases h
theorem finA_out {xs : List Nat} (h : finA xs = true) : ∀ i (hi : i < xs.length), finB .f32 xs[i] = true := of_decide_eq_true h
theorem finTo_succ {xs : List Nat} {k : Nat} (hk : k < xs.length) (h : FinTo xs k) (h1 : finB .f32 xs[k] = true) : FinTo xs (k + 1) := by
  intro i hi hlt
  by_cases he : i = k
  · subst he; exact h1
  · exact h i hi (by omega)
def FinRel (w : World) (xs : List Nat) (i : Value) (wr : World) : Prop := ∃ k m : Nat, k ≤ xs.length ∧ i = .int .i64 k ∧ FinTo xs k ∧ wr = w.drewN m
set_option maxHeartbeats 1000000 in
theorem finI_any (v : Value) (xs : List Nat) (w : World) (B : Nat) (h : Rd w B v (fl xs)) (hm : xs.length ≤ 1048576) (hx : ∀ x ∈ xs, x < 2 ^ 32) :
    Calls Try.prog 63 #[v] w (RetBo (finA xs) w) := by
  obtain ⟨A, c, hv, hc1, hc2, hcell⟩ := h
  rw [fl_len] at hv hc1 hcell
  subst hv
  have hC := Lib.hid hcell
  have hX := Lib.hid hx
  clear hcell hx
  go_enter Try.func63, Try.ntmps63
  go_wp2
  go_loopw [7] (FinRel w xs) (fun i _ => xs.length - (intOf i).toNat)
  case atStart => exact ⟨0, 0, Nat.zero_le _, rfl, fun i _ h => by omega, rfl⟩
  case round =>
    obtain ⟨k, m, hk, rfl, ha, rfl⟩ := hrel
    have HA := Lib.hid ha
    clear ha
    by_cases hlt : k < xs.length
    · obtain ⟨b, off, rfl, hbl, hcc⟩ := hC.out (by omega)
      have hsrc : w.cell? ⟨b, off + k, none⟩ = some (.float .f32 xs[k]) := hcc k _ (fl_get xs k hlt)
      have hxk : xs[k] < 2 ^ 32 := hX.out _ (List.getElem_mem hlt)
      have HC := Lib.hid (fun w => implFin_any xs[k] w hxk)
      clear hcc hC hxk
      cases hf : finB .f32 xs[k] with
      | true =>
        have HF := Lib.hid hf
        clear hf
        go_wp2_with (go_at_call 118; refine (HC.out _).mono ?_; rintro e w' ⟨rfl, n, rfl⟩; rw [HF.out])
        go_roundw
        case rel => exact ⟨k + 1, _, by omega, by go_num, finTo_succ hlt HA.out HF.out, rfl⟩
        case measure => simp [intOf]; omega
      | false =>
        have HF := Lib.hid hf
        have HN := Lib.hid (finA_no hlt hf)
        clear hf
        go_wp2_with (go_at_call 118; refine (HC.out _).mono ?_; rintro e w' ⟨rfl, n, rfl⟩; rw [HF.out])
        go_ret
        rw [HN.out]
        exact ⟨rfl, _, rfl⟩
    · obtain rfl : k = xs.length := by omega
      have HN := Lib.hid (finA_yes HA.out)
      go_wp2
      go_ret
      rw [HN.out]
      exact ⟨rfl, _, rfl⟩
set_option maxHeartbeats 1000000 in
theorem finS_any (v : Value) (xs : List Nat) (w : World) (B : Nat) (h : Rd w B v (fl xs)) (hm : xs.length ≤ 1048576) (hx : ∀ x ∈ xs, x < 2 ^ 32) :
    Calls Try.prog 65 #[v] w (RetBo (finA xs) w) := by
  obtain ⟨A, c, hv, hc1, hc2, hcell⟩ := h
  rw [fl_len] at hv hc1 hcell
  subst hv
  have hC := Lib.hid hcell
  have hX := Lib.hid hx
  clear hcell hx
  go_enter Try.func65, Try.ntmps65
  go_wp2
  go_loopw [3] (FinRel w xs) (fun i _ => xs.length - (intOf i).toNat)
  case atStart => exact ⟨0, 0, Nat.zero_le _, rfl, fun i _ h => by omega, rfl⟩
  case round =>
    obtain ⟨k, m, hk, rfl, ha, rfl⟩ := hrel
    have HA := Lib.hid ha
    clear ha
    by_cases hlt : k < xs.length
    · obtain ⟨b, off, rfl, hbl, hcc⟩ := hC.out (by omega)
      have hsrc : w.cell? ⟨b, off + k, none⟩ = some (.float .f32 xs[k]) := hcc k _ (fl_get xs k hlt)
      have hxk : xs[k] < 2 ^ 32 := hX.out _ (List.getElem_mem hlt)
      have HC := Lib.hid (fun w => specFin_any xs[k] w hxk)
      clear hcc hC hxk
      cases hf : finB .f32 xs[k] with
      | true =>
        have HF := Lib.hid hf
        clear hf
        go_wp2_with (go_at_call 122; refine (HC.out _).mono ?_; rintro e w' ⟨rfl, n, rfl⟩; rw [HF.out])
        go_roundw
        case rel => exact ⟨k + 1, _, by omega, by go_num, finTo_succ hlt HA.out HF.out, rfl⟩
        case measure => simp [intOf]; omega
      | false =>
        have HF := Lib.hid hf
        have HN := Lib.hid (finA_no hlt hf)
        clear hf
        go_wp2_with (go_at_call 122; refine (HC.out _).mono ?_; rintro e w' ⟨rfl, n, rfl⟩; rw [HF.out])
        go_ret
        rw [HN.out]
        exact ⟨rfl, _, rfl⟩
    · obtain rfl : k = xs.length := by omega
      have HN := Lib.hid (finA_yes HA.out)
      go_wp2
      go_ret
      rw [HN.out]
      exact ⟨rfl, _, rfl⟩

/-- These are a list of the document. -/
def isL (xs : List Nat) : Bool := decide (1 ≤ xs.length ∧ xs.length ≤ 128) && finA xs
theorem isL_short {xs : List Nat} (h : xs.length < 1 ∨ 128 < xs.length) : isL xs = false := by
  unfold isL; rw [decide_eq_false (by omega)]; rfl
theorem isL_mid {xs : List Nat} (h1 : 1 ≤ xs.length) (h2 : xs.length ≤ 128) : isL xs = finA xs := by
  unfold isL; rw [decide_eq_true ⟨h1, h2⟩]; rfl
theorem isL_len {xs : List Nat} (h : isL xs = true) : 1 ≤ xs.length ∧ xs.length ≤ 128 ∧ finA xs = true := by
  unfold isL at h
  rw [Bool.and_eq_true, decide_eq_true_eq] at h
  exact ⟨h.1.1, h.1.2, h.2⟩
def lenFB (n : Nat) : Bool := decide (1 ≤ n ∧ n ≤ 128)
theorem lenF_any (v : Value) (xs : List Nat) (w : World) (B : Nat) (h : Rd w B v (fl xs)) (hm : xs.length ≤ 1048576) :
    Calls Try.prog 119 #[v] w fun e w' => e = .returned (.bool (lenFB xs.length)) ∧ w = w' := by
  obtain ⟨A, c, hv, hc1, hc2, hcell⟩ := h
  rw [fl_len] at hv hc1 hcell
  subst hv
  clear hcell
  by_cases h1 : 1 ≤ xs.length
  · by_cases h2 : xs.length ≤ 128
    · have HN := Lib.hid (show lenFB xs.length = true from decide_eq_true ⟨h1, h2⟩)
      have HD := Lib.hid (show decide ((xs.length : Int) ≤ 128) = true from decide_eq_true (by omega))
      go_enter Try.func119, Try.ntmps119
      go_wp2
      go_ret
      rw [HN.out]
      exact ⟨by rw [← HD.out]; rfl, rfl⟩
    · have HN := Lib.hid (show lenFB xs.length = false from decide_eq_false (by omega))
      have HD := Lib.hid (show decide ((xs.length : Int) ≤ 128) = false from decide_eq_false (by omega))
      have h3 : 128 < xs.length := by omega
      clear h2
      go_enter Try.func119, Try.ntmps119
      go_wp2
      go_ret
      rw [HN.out]
      exact ⟨by rw [← HD.out]; rfl, rfl⟩
  · have HN := Lib.hid (show lenFB xs.length = false from decide_eq_false (by omega))
    have h3 : xs.length < 1 := by omega
    clear h1
    go_enter Try.func119, Try.ntmps119
    go_wp2
    go_ret
    rw [HN.out]
    exact ⟨rfl, rfl⟩
theorem isI_any (v : Value) (xs : List Nat) (w : World) (B : Nat) (h : Rd w B v (fl xs)) (hm : xs.length ≤ 1048576) (hx : ∀ x ∈ xs, x < 2 ^ 32) :
    Calls Try.prog 61 #[v] w (RetBo (isL xs) w) := by
  cases hl : lenFB xs.length with
  | true =>
    have hl' := of_decide_eq_true hl
    have HL := Lib.hid hl
    have HN := Lib.hid (isL_mid hl'.1 hl'.2)
    clear hl hl'
    cases hw : finA xs
    all_goals
      have HW := Lib.hid hw
      have HX := Lib.hid hx
      clear hw hx
      go_enter Try.func61, Try.ntmps61
      go_wp2_with (first | (go_at_call 119; refine (lenF_any _ _ _ _ h hm).mono ?_; rintro e w' ⟨rfl, rfl⟩; rw [HL.out]) | (go_at_call 63; refine (finI_any _ _ _ _ h hm HX.out).mono ?_; rintro e w' ⟨rfl, n, rfl⟩; rw [HW.out]))
      go_ret
      rw [HN.out, HW.out]
      exact ⟨rfl, _, rfl⟩
  | false =>
    have hl' := of_decide_eq_false hl
    have HL := Lib.hid hl
    have HN := Lib.hid (isL_short (xs := xs) (by omega))
    clear hl hl'
    go_enter Try.func61, Try.ntmps61
    go_wp2_with (go_at_call 119; refine (lenF_any _ _ _ _ h hm).mono ?_; rintro e w' ⟨rfl, rfl⟩; rw [HL.out])
    go_ret
    rw [HN.out]
    exact ⟨rfl, 0, rfl⟩
theorem islS_any (v : Value) (xs : List Nat) (w : World) (B : Nat) (h : Rd w B v (fl xs)) (hm : xs.length ≤ 1048576) (hx : ∀ x ∈ xs, x < 2 ^ 32) :
    Calls Try.prog 58 #[v] w (RetBo (isL xs) w) := by
  obtain ⟨A, c, hv, _, _, _⟩ := id h
  rw [fl_len] at hv
  subst hv
  by_cases h1 : 1 ≤ xs.length
  · by_cases h2 : xs.length ≤ 128
    · have HN := Lib.hid (isL_mid h1 h2)
      cases hw : finA xs
      all_goals
        have HW := Lib.hid hw
        have HX := Lib.hid hx
        clear hw hx
        go_enter Try.func58, Try.ntmps58
        go_wp2_with (go_at_call 65; refine (finS_any _ _ _ _ h hm HX.out).mono ?_; rintro e w' ⟨rfl, n, rfl⟩; rw [HW.out])
        go_ret
        rw [HN.out, HW.out]
        exact ⟨rfl, _, rfl⟩
    · have HN := Lib.hid (isL_short (xs := xs) (by omega))
      have h3 : 128 < xs.length := by omega
      clear h2 hx
      go_enter Try.func58, Try.ntmps58
      go_wp2_with fail
      go_ret
      rw [HN.out]
      exact ⟨rfl, 0, rfl⟩
  · have HN := Lib.hid (isL_short (xs := xs) (by omega))
    have h3 : xs.length < 1 := by omega
    clear h1 hx
    go_enter Try.func58, Try.ntmps58
    go_wp2_with fail
    go_ret
    rw [HN.out]
    exact ⟨rfl, 0, rfl⟩
end Go.Proofs.Ytfbdmhkmkmbipaa
