/-
  Quotients of what is measured, and the integers in them; numbers that integers tell (no program in it).
-/
import Derived.Test.YtfbdmhkmkmbipaaFloExp
import Derived.Test.YtfbdmhkmkmbipaaFloAbs
namespace Go.Proofs.Ytfbdmhkmkmbipaa.Fl
open Ieee
set_option linter.unusedVariables false

theorem ar_ltS (op : BinOp) (x y : Nat) : ar op .f32 x y < 2 ^ 32 := by
  unfold ar
  cases h : floatBits op .f32 (cn .f32 x) (cn .f32 y) with
  | none => decide
  | some r => exact wf_lt (floatBits_wf h)
theorem mul_pn {s y : Nat} (hs : psB s = true) (hy : isN .f32 y = false) : isN .f32 (ar .mul .f32 s y) = false := by
  obtain ⟨m, e, hr, hm⟩ := ps_read hs
  have hb : floatBits .mul .f32 s y = (Datum.product (single.read s) (single.read y)).map single.write := rfl
  rcases isN_num hy with ⟨a, k, j, h⟩ | ⟨a, h⟩
  · exact some_not (r := _) (by rw [hb, h, hr]; rfl)
  · have h3 : Datum.product (.number false m e) (.infinity a) = some (.infinity (a ^^ false)) := by
      unfold Datum.product
      simp only [if_neg hm]
    exact some_not (r := _) (by rw [hb, h, hr, h3]; rfl)
/-- A share from nothing to one. -/
def shB (h : Nat) : Bool := geB' h 0 && leB h 1065353216
theorem sh_fin {h : Nat} (hh : shB h = true) : finB .f32 h = true := by
  unfold shB geB' leB at hh
  rw [Bool.and_eq_true] at hh
  obtain ⟨h1, h2⟩ := hh
  unfold finB
  have hread : ∀ d, single.read h = d → FloatKind.f32.format.read h = d := fun d hd => hd
  cases hd : single.read h with
  | number s m e => rw [hread _ hd]
  | infinity s =>
    exfalso
    have e1 : FloatKind.f32.format.order h 0 = some (if s then .lt else .gt) := by show single.order h 0 = _; unfold Format.order; rw [hd, read_0]; rfl
    have e2 : FloatKind.f32.format.order h 1065353216 = some (if s then .lt else .gt) := by show single.order h 1065353216 = _; unfold Format.order; rw [hd, show single.read 1065353216 = .number false 8388608 (-23) by decide]; rfl
    rw [e1] at h1
    rw [e2] at h2
    cases s <;> simp at h1 h2
  | nan s t =>
    exfalso
    have e1 : FloatKind.f32.format.order h 0 = none := by show single.order h 0 = _; unfold Format.order; rw [hd]; rfl
    rw [e1] at h1
    simp at h1
/-- The number that an integer tells. -/
def usF (n : Int) (s h : Nat) : Nat := if 0 < n then ar .mul .f32 s (ar .add .f32 (floatOfInt .f32 n) h) else if n < 0 then ar .mul .f32 s (ar .sub .f32 (floatOfInt .f32 n) h) else 0
theorem foi_nn (n : Int) : isN .f32 (floatOfInt .f32 n) = false := by
  unfold floatOfInt FloatKind.nearest isN
  exact read_write _ _ rfl
theorem us_add {n : Int} {s h : Nat} (hs : psB s = true) (hh : shB h = true) : isN .f32 (ar .add .f32 (floatOfInt .f32 n) h) = false ∧ isN .f32 (ar .mul .f32 s (ar .add .f32 (floatOfInt .f32 n) h)) = false :=
  ⟨add_nn (foi_nn n) (sh_fin hh), mul_pn hs (add_nn (foi_nn n) (sh_fin hh))⟩
theorem us_sub {n : Int} {s h : Nat} (hs : psB s = true) (hh : shB h = true) : isN .f32 (ar .sub .f32 (floatOfInt .f32 n) h) = false ∧ isN .f32 (ar .mul .f32 s (ar .sub .f32 (floatOfInt .f32 n) h)) = false :=
  ⟨sub_nn (foi_nn n) (sh_fin hh), mul_pn hs (sub_nn (foi_nn n) (sh_fin hh))⟩
theorem usF_lt (n : Int) (s h : Nat) : usF n s h < 2 ^ 32 := by
  unfold usF
  split
  · exact ar_ltS _ _ _
  · split
    · exact ar_ltS _ _ _
    · decide

/-! ### quotients -/
theorem read_c : single.read 1232348176 = .number false 16000016 (-4) := by decide
theorem read_nc : single.read 3379831824 = .number true 16000016 (-4) := by decide
def okQ (q : Nat) : Bool := FloatKind.f32.format.order (q % 2 ^ 31) 1232348176 == some .lt
def ti32 (q : Nat) : Int := ((single.read q).toInt .zero).getD 0
theorem read_mod_num {q : Nat} {s : Bool} {m : Nat} {e : Int} (h : single.read q = .number s m e) : single.read (q % 2 ^ 31) = .number false m e := by rw [read_mod32, h]
theorem read_mod_inf {q : Nat} {s : Bool} (h : single.read q = .infinity s) : single.read (q % 2 ^ 31) = .infinity false := by rw [read_mod32, h]
theorem ord_inf {x y : Nat} {s t : Bool} {m : Nat} {e : Int} (hx : single.read x = .infinity s) (hy : single.read y = .number t m e) : FloatKind.f32.format.order x y = some (if s then .lt else .gt) := by
  show single.order x y = _
  unfold Format.order
  rw [hx, hy]
  rfl
theorem ok_abs {q : Nat} (hn : isN .f32 q = false) : (FloatKind.f32.format.order (q % 2 ^ 31) 1232348176 == some .gt || FloatKind.f32.format.order (q % 2 ^ 31) 1232348176 == some .eq) = !okQ q := by
  unfold okQ
  rcases isN_num hn with ⟨s, m, e, h⟩ | ⟨s, h⟩
  · rw [order_num (read_mod_num h) read_c, cmp_gt_iff, cmp_eq_iff, cmp_lt_iff]
    generalize signed false m (e - min e (-4)).toNat = a
    generalize signed false 16000016 (-4 - min e (-4)).toNat = b
    rcases Int.lt_trichotomy a b with h | h | h
    · rw [decide_eq_false (by omega), decide_eq_false (by omega), decide_eq_true h]; rfl
    · rw [decide_eq_false (by omega), decide_eq_true h, decide_eq_false (by omega)]; rfl
    · rw [decide_eq_true h, decide_eq_false (by omega), decide_eq_false (by omega)]; rfl
  · rw [ord_inf (read_mod_inf h) read_c]; rfl
theorem ok_two {q : Nat} (hn : isN .f32 q = false) : ((FloatKind.f32.format.order q 3379831824 == some .gt) && (FloatKind.f32.format.order q 1232348176 == some .lt)) = okQ q := by
  unfold okQ
  rcases isN_num hn with ⟨s, m, e, h⟩ | ⟨s, h⟩
  · rw [order_num (read_mod_num h) read_c, order_num h read_c, order_num h read_nc, cmp_gt_iff, cmp_lt_iff, cmp_lt_iff, sgn_neg 16000016]
    have hp := sgn_pos 16000016 (-4 - min e (-4)).toNat (by decide)
    have hq := sgn_nn m (e - min e (-4)).toNat
    cases s with
    | false =>
      generalize signed false m (e - min e (-4)).toNat = a at *
      generalize signed false 16000016 (-4 - min e (-4)).toNat = b at *
      rw [decide_eq_true (show -b < a by omega), Bool.true_and]
    | true =>
      rw [sgn_neg m]
      generalize signed false m (e - min e (-4)).toNat = a at *
      generalize signed false 16000016 (-4 - min e (-4)).toNat = b at *
      rw [decide_eq_true (show -a < b by omega), Bool.and_true]
      rw [decide_eq_decide]; omega
  · rw [ord_inf (read_mod_inf h) read_c, ord_inf h read_c, ord_inf h read_nc]; cases s <;> rfl
theorem toI_eq {y m : Nat} {s : Bool} {e : Int} (h : single.read y = .number s m e) : (single.read y).toInt .zero = some (signed s (m * 2 ^ e.toNat / 2 ^ (-e).toNat) 0) := by
  rw [h]
  show some (signed s (Toward.zero.cut s (m <<< e.toNat) (-e).toNat) 0) = _
  rw [cut_trunc, Nat.shiftLeft_eq]
theorem ti_ok {q : Nat} (hn : isN .f32 q = false) (h : okQ q = true) : floatToIntVal .f32 q .i64 = some (ti32 q) ∧ -1000000 ≤ ti32 q ∧ ti32 q ≤ 1000000 := by
  unfold okQ at h
  rcases isN_num hn with ⟨s, m, e, hr⟩ | ⟨s, hr⟩
  · rw [order_num (read_mod_num hr) read_c, cmp_lt_iff] at h
    have h1 := of_decide_eq_true h
    rw [signed_false, signed_false, Nat.shiftLeft_eq, Nat.shiftLeft_eq] at h1
    have h2 : m * 2 ^ (e - min e (-4)).toNat < 16000016 * 2 ^ (-4 - min e (-4)).toNat := by exact_mod_cast h1
    have hle : m * 2 ^ e.toNat / 2 ^ (-e).toNat < 1000001 := by
      rw [Nat.div_lt_iff_lt_mul (Nat.pow_pos (by decide))]
      by_cases he : -4 ≤ e
      · rw [show min e (-4) = -4 by omega, show ((-4 : Int) - -4).toNat = 0 by decide, Nat.pow_zero, Nat.mul_one] at h2
        by_cases h0 : 0 ≤ e
        · rw [show (-e).toNat = 0 by omega, Nat.pow_zero, Nat.mul_one]
          rw [show (e - -4).toNat = e.toNat + 4 by omega, Nat.pow_add] at h2
          have h4 : (2 : Nat) ^ 4 = 16 := by decide
          rw [h4] at h2
          generalize 2 ^ e.toNat = p at *
          have : m * (p * 16) = m * p * 16 := by rw [Nat.mul_assoc]
          omega
        · rw [show e.toNat = 0 by omega, Nat.pow_zero, Nat.mul_one]
          have hk : (e - -4).toNat + (-e).toNat = 4 := by omega
          have h4 : 2 ^ (e - -4).toNat * 2 ^ (-e).toNat = 16 := by rw [← Nat.pow_add, hk]
          have hp : 0 < 2 ^ (e - -4).toNat := Nat.pow_pos (by decide)
          generalize 2 ^ (e - -4).toNat = p at *
          generalize 2 ^ (-e).toNat = r at *
          have e1 : 16000016 = 1000001 * r * p := by rw [Nat.mul_assoc, Nat.mul_comm r p, h4]
          rw [e1] at h2
          exact Nat.lt_of_mul_lt_mul_right h2
      · rw [show min e (-4) = e by omega, show (e - e).toNat = 0 by omega, Nat.pow_zero, Nat.mul_one] at h2
        rw [show e.toNat = 0 by omega, Nat.pow_zero, Nat.mul_one]
        rw [show (-e).toNat = (-4 - e).toNat + 4 by omega, Nat.pow_add]
        have h4 : (2 : Nat) ^ 4 = 16 := by decide
        rw [h4]
        generalize 2 ^ (-4 - e).toNat = p at *
        have : 1000001 * (p * 16) = 16000016 * p := by rw [Nat.mul_comm p 16, ← Nat.mul_assoc]
        omega
    have ht := toI_eq hr
    have hti : ti32 q = signed s (m * 2 ^ e.toNat / 2 ^ (-e).toNat) 0 := by unfold ti32; rw [ht]; rfl
    have habs : (ti32 q).natAbs < 1000001 := by rw [hti, natAbs_signed]; simpa using hle
    refine ⟨?_, by omega, by omega⟩
    unfold floatToIntVal
    rw [show (FloatKind.f32.decode q).toInt .zero = some (ti32 q) by rw [hti]; exact ht]
    simp only []
    rw [if_pos]
    have h1 : IntKind.i64.min = -9223372036854775808 := rfl
    have h2 : IntKind.i64.max = 9223372036854775807 := rfl
    rw [h1, h2]
    omega
  · rw [ord_inf (read_mod_inf hr) read_c] at h
    simp at h
end Go.Proofs.Ytfbdmhkmkmbipaa.Fl
