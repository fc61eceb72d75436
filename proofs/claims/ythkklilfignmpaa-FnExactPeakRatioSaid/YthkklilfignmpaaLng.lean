/-
  Contracts: long lists, of both sides.
-/
import Derived.Test.YthkklilfignmpaaFin
namespace Go.Proofs.Ythkklilfignmpaa
open Go.RowKit Fl
set_option linter.unusedVariables false
def lenLB (n : Nat) : Bool := decide (1 ≤ n ∧ n ≤ 128)
theorem lenL_any (v : Value) (xs : List Nat) (w : World) (B : Nat) (h : Rd w B v (fl xs)) (hm : xs.length ≤ 1048576) :
    Calls Try.prog 92 #[v] w fun e w' => e = .returned (.bool (lenLB xs.length)) ∧ w = w' := by
  obtain ⟨A, c, hv, hc1, hc2, hcell⟩ := h
  rw [fl_len] at hv hc1 hcell
  subst hv
  clear hcell
  by_cases h1 : 1 ≤ xs.length
  · by_cases h2 : xs.length ≤ 128
    · have HN := Lib.hid (show lenLB xs.length = true from decide_eq_true ⟨h1, h2⟩)
      have HD := Lib.hid (show decide ((xs.length : Int) ≤ 128) = true from decide_eq_true (by omega))
      go_enter Try.func92, Try.ntmps92
      go_wp2
      go_ret
      rw [HN.out]
      exact ⟨by rw [← HD.out]; rfl, rfl⟩
    · have HN := Lib.hid (show lenLB xs.length = false from decide_eq_false (by omega))
      have HD := Lib.hid (show decide ((xs.length : Int) ≤ 128) = false from decide_eq_false (by omega))
      have h3 : 128 < xs.length := by omega
      clear h2
      go_enter Try.func92, Try.ntmps92
      go_wp2
      go_ret
      rw [HN.out]
      exact ⟨by rw [← HD.out]; rfl, rfl⟩
  · have HN := Lib.hid (show lenLB xs.length = false from decide_eq_false (by omega))
    have h3 : xs.length < 1 := by omega
    clear h1
    go_enter Try.func92, Try.ntmps92
    go_wp2
    go_ret
    rw [HN.out]
    exact ⟨rfl, rfl⟩
theorem lngI_any (v : Value) (xs : List Nat) (w : World) (B : Nat) (h : Rd w B v (fl xs)) (hm : xs.length ≤ 1048576) (hx : ∀ x ∈ xs, x < 2 ^ 32) :
    Calls Try.prog 133 #[v] w (RetBo (isL xs) w) := by
  cases hl : lenLB xs.length with
  | true =>
    have hl' := of_decide_eq_true hl
    have HL := Lib.hid hl
    have HN := Lib.hid (isL_mid hl'.1 hl'.2)
    clear hl hl'
    cases hw : finA xs
    all_goals
      have HW := Lib.hid hw
      have HX := Lib.hid hx
      clear hw hx
      go_enter Try.func133, Try.ntmps133
      go_wp2_with (first | (go_at_call 92; refine (lenL_any _ _ _ _ h hm).mono ?_; rintro e w' ⟨rfl, rfl⟩; rw [HL.out]) | (go_at_call 129; refine (finI_any _ _ _ _ h hm HX.out).mono ?_; rintro e w' ⟨rfl, n, rfl⟩; rw [HW.out]))
      go_ret
      rw [HN.out, HW.out]
      exact ⟨rfl, _, rfl⟩
  | false =>
    have hl' := of_decide_eq_false hl
    have HL := Lib.hid hl
    have HN := Lib.hid (isL_short (xs := xs) (by omega))
    clear hl hl'
    go_enter Try.func133, Try.ntmps133
    go_wp2_with (go_at_call 92; refine (lenL_any _ _ _ _ h hm).mono ?_; rintro e w' ⟨rfl, rfl⟩; rw [HL.out])
    go_ret
    rw [HN.out]
    exact ⟨rfl, 0, rfl⟩
theorem lngS_any (v : Value) (xs : List Nat) (w : World) (B : Nat) (h : Rd w B v (fl xs)) (hm : xs.length ≤ 1048576) (hx : ∀ x ∈ xs, x < 2 ^ 32) :
    Calls Try.prog 130 #[v] w (RetBo (isL xs) w) := by
  obtain ⟨A, c, hv, _, _, _⟩ := id h
  rw [fl_len] at hv
  subst hv
  by_cases h1 : 1 ≤ xs.length
  · by_cases h2 : xs.length ≤ 128
    · have HN := Lib.hid (isL_mid h1 h2)
      cases hw : finA xs
      all_goals
        have HW := Lib.hid hw
        have HX := Lib.hid hx
        clear hw hx
        go_enter Try.func130, Try.ntmps130
        go_wp2_with (go_at_call 125; refine (finS_any _ _ _ _ h hm HX.out).mono ?_; rintro e w' ⟨rfl, n, rfl⟩; rw [HW.out])
        go_ret
        rw [HN.out, HW.out]
        exact ⟨rfl, _, rfl⟩
    · have HN := Lib.hid (isL_short (xs := xs) (by omega))
      have h3 : 128 < xs.length := by omega
      clear h2 hx
      go_enter Try.func130, Try.ntmps130
      go_wp2_with fail
      go_ret
      rw [HN.out]
      exact ⟨rfl, 0, rfl⟩
  · have HN := Lib.hid (isL_short (xs := xs) (by omega))
    have h3 : xs.length < 1 := by omega
    clear h1 hx
    go_enter Try.func130, Try.ntmps130
    go_wp2_with fail
    go_ret
    rw [HN.out]
    exact ⟨rfl, 0, rfl⟩
end Go.Proofs.Ythkklilfignmpaa
