/-
  Contracts: LiftIntegers of both sides.
-/
import Derived.Test.YteogogcjndfkoabLift
namespace Go.Proofs.Yteogogcjndfkoab
open Go.RowKit
set_option linter.unusedVariables false

def kiB (kind : Int) : Bool := decide (0 ≤ kind ∧ kind ≤ 2)
theorem kiI_yes (k : Int) (w : World) (h0 : 0 ≤ k) (h1 : k ≤ 2) : Calls Try.prog 70 #[.int .i64 k] w fun e w' => e = .returned (.bool true) ∧ w = w' := by
  go_enter Try.func70, Try.ntmps70
  go_wp2
  go_ret
  have hd : decide (k ≤ 2) = true := decide_eq_true (by omega)
  first | exact ⟨rfl, rfl⟩ | exact ⟨by rw [← hd]; rfl, rfl⟩
theorem kiI_no (k : Int) (w : World) (h : k < 0 ∨ 2 < k) : Calls Try.prog 70 #[.int .i64 k] w fun e w' => e = .returned (.bool false) ∧ w = w' := by
  by_cases h0 : k < 0
  · clear h
    go_enter Try.func70, Try.ntmps70
    go_wp2
    go_ret
    exact ⟨rfl, rfl⟩
  · have h1 : 0 ≤ k := by omega
    have h2 : 2 < k := by omega
    clear h h0
    go_enter Try.func70, Try.ntmps70
    go_wp2
    go_ret
    have hd : decide (k ≤ 2) = false := decide_eq_false (by omega)
    first | exact ⟨rfl, rfl⟩ | exact ⟨by rw [← hd]; rfl, rfl⟩
theorem kiI_any (k : Int) (w : World) : Calls Try.prog 70 #[.int .i64 k] w fun e w' => e = .returned (.bool (kiB k)) ∧ w = w' := by
  cases h : kiB k with
  | true => have := of_decide_eq_true h; exact kiI_yes k w this.1 this.2
  | false => have := of_decide_eq_false h; exact kiI_no k w (by omega)
theorem kiS_any (k : Int) (w : World) : Calls Try.prog 67 #[.int .i64 k] w fun e w' => e = .returned (.bool (kiB k)) ∧ w = w' := by
  cases h : kiB k with
  | true =>
    have hh := of_decide_eq_true h
    obtain ⟨h0, h1⟩ := hh
    clear h
    go_enter Try.func67, Try.ntmps67
    go_wp2_with fail
    refine (in_yes _ _ _ _ h0 h1).mono ?_
    rintro e w' ⟨rfl, rfl⟩
    go_wp2_with fail
    go_ret
    exact ⟨rfl, rfl⟩
  | false =>
    have hh := of_decide_eq_false h
    have h0 : k < 0 ∨ 2 < k := by omega
    clear h hh
    go_enter Try.func67, Try.ntmps67
    go_wp2_with fail
    refine (in_not _ _ _ _ h0).mono ?_
    rintro e w' ⟨rfl, rfl⟩
    go_wp2_with fail
    go_ret
    exact ⟨rfl, rfl⟩
theorem areB_bds {xs : List Int} (h : areB xs = true) : Bds 1000000000 xs := by
  have hw := withB_out (areB_len h).2.2
  intro x hx
  obtain ⟨i, hi, rfl⟩ := List.mem_iff_getElem.1 hx
  have := hw i hi
  omega
theorem lkI_any (kind : Int) (vl : Value) (xs : List Int) (w : World) (h : Rd w w.heap.size vl (il xs)) (h1 : 1 ≤ xs.length) (h2 : xs.length ≤ 128) (hk : kiB kind = true) (hB : Bds 1000000000 xs) :
    Calls Try.prog 74 #[.int .i64 kind, vl] w (RetLL (leF kind (evF xs) (loF kind (evF xs) (odF xs))) (loF kind (evF xs) (odF xs)) w) := by
  have hh := of_decide_eq_true hk
  by_cases hp : xs.length = 1
  · exact liftI_one _ _ _ _ h hp
  · exact liftI_any _ _ _ _ h h2 (by omega) hh.1 hh.2 hB
theorem lkS_any (kind : Int) (vl : Value) (xs : List Int) (w : World) (h : Rd w w.heap.size vl (il xs)) (h1 : 1 ≤ xs.length) (h2 : xs.length ≤ 128) (hk : kiB kind = true) (hB : Bds 1000000000 xs) :
    Calls Try.prog 69 #[.int .i64 kind, vl] w (RetLL (leF kind (evF xs) (loF kind (evF xs) (odF xs))) (loF kind (evF xs) (odF xs)) w) := by
  have hh := of_decide_eq_true hk
  by_cases hp : xs.length = 1
  · exact liftS_one _ _ _ _ h hp hh.1 hh.2 hB
  · exact liftS_any _ _ _ _ h h2 (by omega) hh.1 hh.2 hB
def liB (kind : Int) (xs : List Int) : Bool := kiB kind && areB xs
def liE (kind : Int) (xs : List Int) : List Int := if liB kind xs then leF kind (evF xs) (loF kind (evF xs) (odF xs)) else []
def liO (kind : Int) (xs : List Int) : List Int := if liB kind xs then loF kind (evF xs) (odF xs) else []
theorem liE_len (kind : Int) (xs : List Int) : (liE kind xs).length ≤ 128 := by
  unfold liE; split
  · rename_i h
    have := areB_len (by unfold liB at h; rw [Bool.and_eq_true] at h; exact h.2 : areB xs = true)
    simp only [leF, List.length_map, List.length_range, evF_len]; omega
  · simp
theorem liO_len (kind : Int) (xs : List Int) : (liO kind xs).length ≤ 128 := by
  unfold liO; split
  · rename_i h
    have := areB_len (by unfold liB at h; rw [Bool.and_eq_true] at h; exact h.2 : areB xs = true)
    simp only [loF, List.length_map, List.length_range, odF_len]; omega
  · simp
end Go.Proofs.Yteogogcjndfkoab
