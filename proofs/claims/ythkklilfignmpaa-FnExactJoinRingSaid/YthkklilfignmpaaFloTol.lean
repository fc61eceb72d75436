/-
  What differs from nothing by at most 0.001, told in two ways (no program in it).
-/
import Derived.Test.YthkklilfignmpaaFloAbs
namespace Go.Proofs.Ythkklilfignmpaa
open Go.RowKit Fl Ieee
set_option linter.unusedVariables false
/-- 0.001, and the same with the other sign. -/
def tol : Nat := 981668463
def ntol : Nat := 3129152111
/-- Whether a number differs from nothing by at most 0.001. -/
def vpT (c : Nat) : Bool := leB (absF c) tol
theorem read_tol : ∃ m : Nat, single.read tol = .number false m (-33) ∧ single.read ntol = .number true m (-33) := ⟨8589935, by decide, by decide⟩
set_option maxRecDepth 100000 in
theorem vpT_two (c : Nat) : (leB c tol && geB' c ntol) = leB (absF c) tol := by
  obtain ⟨M, rt, rn⟩ := read_tol
  generalize tol = T at *
  generalize ntol = N at *
  unfold absF
  cases hr : single.read c with
  | nan s t =>
    have hn : isN .f32 c = true := by show (single.read c).isNaN = true; rw [hr]; rfl
    rw [if_pos hn]
    unfold leB geB'
    rw [order_nan_l hn, order_nan_l hn, order_nan_l (isN_qn .f32)]; rfl
  | infinity s =>
    have hn : isN .f32 c = false := by show (single.read c).isNaN = false; rw [hr]; rfl
    rw [hn, if_neg (by decide)]
    have hm := read_mod32 c
    rw [hr] at hm
    simp only [] at hm
    unfold leB geB'
    show ((single.order c T == some .lt || single.order c T == some .eq) && (single.order c N == some .gt || single.order c N == some .eq)) = (single.order (c % 2 ^ 31) T == some .lt || single.order (c % 2 ^ 31) T == some .eq)
    unfold Format.order
    rw [hr, hm, rt, rn]
    cases s <;> rfl
  | number s m e =>
    have hn : isN .f32 c = false := by show (single.read c).isNaN = false; rw [hr]; rfl
    rw [hn, if_neg (by decide)]
    have he := place_le hr
    have hm := read_mod32 c
    rw [hr] at hm
    simp only [] at hm
    unfold leB geB'
    show ((single.order c T == some .lt || single.order c T == some .eq) && (single.order c N == some .gt || single.order c N == some .eq)) = (single.order (c % 2 ^ 31) T == some .lt || single.order (c % 2 ^ 31) T == some .eq)
    unfold Format.order
    rw [hr, hm, rt, rn]
    rw [order_base s false m M e (-33) (-149) he (by omega), order_base s true m M e (-33) (-149) he (by omega), order_base false false m M e (-33) (-149) he (by omega)]
    unfold signed
    generalize m <<< (e - -149).toNat = q
    generalize M <<< ((-33 : Int) - -149).toNat = t
    cases s
    · simp only [Bool.false_eq_true, if_false, if_true]
      have h2 : compare (q : Int) (-(t : Int)) = .gt ∨ compare (q : Int) (-(t : Int)) = .eq := by
        by_cases h : (q : Int) = -(t : Int)
        · exact .inr (cmp_eq h)
        · exact .inl (cmp_gt (by omega))
      rcases h2 with h2 | h2 <;> rw [h2] <;> simp
    · simp only [Bool.false_eq_true, if_false, if_true]
      have h1 : compare (-(q : Int)) (t : Int) = .lt ∨ compare (-(q : Int)) (t : Int) = .eq := by
        by_cases h : -(q : Int) = (t : Int)
        · exact .inr (cmp_eq h)
        · exact .inl (cmp_lt (by omega))
      have h3 := cmp_neg (q : Int) (t : Int)
      rw [h3]
      by_cases hqt : (q : Int) < t
      · rw [cmp_lt hqt, cmp_gt hqt]; rcases h1 with h1 | h1 <;> rw [h1] <;> simp
      · by_cases heq : (q : Int) = t
        · rw [cmp_eq heq, cmp_eq heq.symm]; rcases h1 with h1 | h1 <;> rw [h1] <;> simp
        · rw [cmp_gt (show (t : Int) < q by omega), cmp_lt (show (t : Int) < q by omega)]; rcases h1 with h1 | h1 <;> rw [h1] <;> simp
end Go.Proofs.Ythkklilfignmpaa
