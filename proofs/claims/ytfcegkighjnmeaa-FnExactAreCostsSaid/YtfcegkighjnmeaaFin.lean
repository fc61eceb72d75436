/-
  Contracts: finite numbers of lists of 32-bit floats, of both sides.
-/
import Derived.Test.YtfcegkighjnmeaaEqG
namespace Go.Proofs.Ytfcegkighjnmeaa
open Go.RowKit Fl
set_option linter.unusedVariables false

def RetBo (b : Bool) (w : World) (e : Ending) (w' : World) : Prop := e = .returned (.bool b) ∧ ∃ n, w' = w.drewN n
def finA (xs : List Nat) : Bool := decide (∀ i (h : i < xs.length), finB .f32 xs[i] = true)
def FinTo (xs : List Nat) (k : Nat) : Prop := ∀ i (h : i < xs.length), i < k → finB .f32 xs[i] = true
theorem finA_yes {xs : List Nat} (h : FinTo xs xs.length) : finA xs = true := decide_eq_true fun i hi => h i hi hi
theorem finA_no {xs : List Nat} {k : Nat} (hk : k < xs.length) (h : finB .f32 xs[k] = false) : finA xs = false := decide_eq_false fun hh => by rw [hh k hk] at h; cases h
theorem finA_out {xs : List Nat} (h : finA xs = true) : ∀ i (hi : i < xs.length), finB .f32 xs[i] = true := of_decide_eq_true h
theorem finTo_succ {xs : List Nat} {k : Nat} (hk : k < xs.length) (h : FinTo xs k) (h1 : finB .f32 xs[k] = true) : FinTo xs (k + 1) := by
  intro i hi hlt
  by_cases he : i = k
  · subst he; exact h1
  · exact h i hi (by omega)
def FinRel (w : World) (xs : List Nat) (i : Value) (wr : World) : Prop := ∃ k m : Nat, k ≤ xs.length ∧ i = .int .i64 k ∧ FinTo xs k ∧ wr = w.drewN m
set_option maxHeartbeats 1000000 in
theorem finI_any (v : Value) (xs : List Nat) (w : World) (B : Nat) (h : Rd w B v (fl xs)) (hm : xs.length ≤ 1048576) (hx : ∀ x ∈ xs, x < 2 ^ 32) :
    Calls Try.prog 93 #[v] w (RetBo (finA xs) w) := by
  obtain ⟨A, c, hv, hc1, hc2, hcell⟩ := h
  rw [fl_len] at hv hc1 hcell
  subst hv
  have hC := Lib.hid hcell
  have hX := Lib.hid hx
  clear hcell hx
  go_enter Try.func93, Try.ntmps93
  go_wp2
  go_loopw [7] (FinRel w xs) (fun i _ => xs.length - (intOf i).toNat)
  case atStart => exact ⟨0, 0, Nat.zero_le _, rfl, fun i _ h => by omega, rfl⟩
  case round =>
    obtain ⟨k, m, hk, rfl, ha, rfl⟩ := hrel
    have HA := Lib.hid ha
    clear ha
    by_cases hlt : k < xs.length
    · obtain ⟨b, off, rfl, hbl, hcc⟩ := hC.out (by omega)
      have hsrc : w.cell? ⟨b, off + k, none⟩ = some (.float .f32 xs[k]) := hcc k _ (fl_get xs k hlt)
      have hxk : xs[k] < 2 ^ 32 := hX.out _ (List.getElem_mem hlt)
      have HC := Lib.hid (fun w => implFin_any xs[k] w hxk)
      clear hcc hC hxk
      cases hf : finB .f32 xs[k] with
      | true =>
        have HF := Lib.hid hf
        clear hf
        go_wp2_with (go_at_call 91; refine (HC.out _).mono ?_; rintro e w' ⟨rfl, n, rfl⟩; rw [HF.out])
        go_roundw
        case rel => exact ⟨k + 1, _, by omega, by go_num, finTo_succ hlt HA.out HF.out, rfl⟩
        case measure => simp [intOf]; omega
      | false =>
        have HF := Lib.hid hf
        have HN := Lib.hid (finA_no hlt hf)
        clear hf
        go_wp2_with (go_at_call 91; refine (HC.out _).mono ?_; rintro e w' ⟨rfl, n, rfl⟩; rw [HF.out])
        go_ret
        rw [HN.out]
        exact ⟨rfl, _, rfl⟩
    · obtain rfl : k = xs.length := by omega
      have HN := Lib.hid (finA_yes HA.out)
      go_wp2
      go_ret
      rw [HN.out]
      exact ⟨rfl, _, rfl⟩
set_option maxHeartbeats 1000000 in
theorem finS_any (v : Value) (xs : List Nat) (w : World) (B : Nat) (h : Rd w B v (fl xs)) (hm : xs.length ≤ 1048576) (hx : ∀ x ∈ xs, x < 2 ^ 32) :
    Calls Try.prog 63 #[v] w (RetBo (finA xs) w) := by
  obtain ⟨A, c, hv, hc1, hc2, hcell⟩ := h
  rw [fl_len] at hv hc1 hcell
  subst hv
  have hC := Lib.hid hcell
  have hX := Lib.hid hx
  clear hcell hx
  go_enter Try.func63, Try.ntmps63
  go_wp2
  go_loopw [3] (FinRel w xs) (fun i _ => xs.length - (intOf i).toNat)
  case atStart => exact ⟨0, 0, Nat.zero_le _, rfl, fun i _ h => by omega, rfl⟩
  case round =>
    obtain ⟨k, m, hk, rfl, ha, rfl⟩ := hrel
    have HA := Lib.hid ha
    clear ha
    by_cases hlt : k < xs.length
    · obtain ⟨b, off, rfl, hbl, hcc⟩ := hC.out (by omega)
      have hsrc : w.cell? ⟨b, off + k, none⟩ = some (.float .f32 xs[k]) := hcc k _ (fl_get xs k hlt)
      have hxk : xs[k] < 2 ^ 32 := hX.out _ (List.getElem_mem hlt)
      have HC := Lib.hid (fun w => specFin_any xs[k] w hxk)
      clear hcc hC hxk
      cases hf : finB .f32 xs[k] with
      | true =>
        have HF := Lib.hid hf
        clear hf
        go_wp2_with (go_at_call 92; refine (HC.out _).mono ?_; rintro e w' ⟨rfl, n, rfl⟩; rw [HF.out])
        go_roundw
        case rel => exact ⟨k + 1, _, by omega, by go_num, finTo_succ hlt HA.out HF.out, rfl⟩
        case measure => simp [intOf]; omega
      | false =>
        have HF := Lib.hid hf
        have HN := Lib.hid (finA_no hlt hf)
        clear hf
        go_wp2_with (go_at_call 92; refine (HC.out _).mono ?_; rintro e w' ⟨rfl, n, rfl⟩; rw [HF.out])
        go_ret
        rw [HN.out]
        exact ⟨rfl, _, rfl⟩
    · obtain rfl : k = xs.length := by omega
      have HN := Lib.hid (finA_yes HA.out)
      go_wp2
      go_ret
      rw [HN.out]
      exact ⟨rfl, _, rfl⟩

/-- These are a list of the document. -/
def isL (xs : List Nat) : Bool := decide (1 ≤ xs.length ∧ xs.length ≤ 128) && finA xs
theorem isL_short {xs : List Nat} (h : xs.length < 1 ∨ 128 < xs.length) : isL xs = false := by
  unfold isL; rw [decide_eq_false (by omega)]; rfl
theorem isL_mid {xs : List Nat} (h1 : 1 ≤ xs.length) (h2 : xs.length ≤ 128) : isL xs = finA xs := by
  unfold isL; rw [decide_eq_true ⟨h1, h2⟩]; rfl
theorem isL_len {xs : List Nat} (h : isL xs = true) : 1 ≤ xs.length ∧ xs.length ≤ 128 ∧ finA xs = true := by
  unfold isL at h
  rw [Bool.and_eq_true, decide_eq_true_eq] at h
  exact ⟨h.1.1, h.1.2, h.2⟩
end Go.Proofs.Ytfcegkighjnmeaa
