/-
  Differences of what falls, and their quotients, are at least nothing (no program in it).
-/
import Derived.Test.YthkklilfignmpaaFloOd
namespace Go.Proofs.Ythkklilfignmpaa.Fl
open Ieee
set_option linter.unusedVariables false

theorem ge_num {x y : Nat} {s t : Bool} {m n : Nat} {i j : Int} (hx : single.read x = .number s m i) (hy : single.read y = .number t n j) (u : Int) (h1 : u ≤ i) (h2 : u ≤ j) :
    geB' x y = decide (signed t n (j - u).toNat ≤ signed s m (i - u).toNat) := by
  unfold geB'
  rw [order_num hx hy, cmp_gt_iff, cmp_eq_iff]
  have key : ∀ (s : Bool) (m : Nat) (i : Int) (v : Int), u ≤ v → v ≤ i → signed s m (i - u).toNat = signed s m (i - v).toNat * ((2 ^ (v - u).toNat : Nat) : Int) := by
    intro s m i v h3 h4
    have e : (i - u).toNat = (i - v).toNat + (v - u).toNat := by omega
    have h5 : (m <<< (i - u).toNat : Nat) = (m <<< (i - v).toNat) * 2 ^ (v - u).toNat := by
      rw [e, Nat.shiftLeft_eq, Nat.shiftLeft_eq, Nat.pow_add, Nat.mul_assoc]
    cases s with
    | false => rw [signed_false, signed_false, h5]; push_cast; rfl
    | true => rw [signed_true, signed_true, h5]; push_cast; rw [Int.neg_mul]
  have hv1 : min i j ≤ i := Int.min_le_left _ _
  have hv2 : min i j ≤ j := Int.min_le_right _ _
  have hu : u ≤ min i j := by omega
  rw [key s m i (min i j) hu hv1, key t n j (min i j) hu hv2]
  have hp : (0 : Int) < ((2 ^ (min i j - u).toNat : Nat) : Int) := Int.natCast_pos.mpr (Nat.pow_pos (by decide))
  generalize signed s m (i - min i j).toNat = a
  generalize signed t n (j - min i j).toNat = b
  generalize ((2 ^ (min i j - u).toNat : Nat) : Int) = c at hp
  rw [← Bool.decide_or, decide_eq_decide]
  constructor
  · intro h; exact Int.mul_le_mul_of_nonneg_right (by omega) (by omega)
  · intro h
    have := Int.le_of_mul_le_mul_right h hp
    omega
theorem ge_trans {x y z : Nat} (hx : finB .f32 x = true) (hy : finB .f32 y = true) (hz : finB .f32 z = true) (h1 : geB' y x = false) (h2 : geB' z y = false) : geB' z x = false := by
  obtain ⟨s, m, i, hx'⟩ := fin_num hx
  obtain ⟨t, n, j, hy'⟩ := fin_num hy
  obtain ⟨r, k, l, hz'⟩ := fin_num hz
  obtain ⟨u, u1, u2, u3⟩ : ∃ u : Int, u ≤ i ∧ u ≤ j ∧ u ≤ l := ⟨min i (min j l), by omega, by omega, by omega⟩
  rw [ge_num hy' hx' u u2 u1, decide_eq_false_iff_not] at h1
  rw [ge_num hz' hy' u u3 u2, decide_eq_false_iff_not] at h2
  rw [ge_num hz' hx' u u3 u1, decide_eq_false_iff_not]
  omega
theorem nn_ge {x : Nat} (h : Nn x) : geB' x 0 = true := by
  rcases h with ⟨m, e, h⟩ | h
  · unfold geB'
    rw [order_num h read_0, cmp_gt_iff, cmp_eq_iff, signed_zero, ← Bool.decide_or]
    have := sgn_nn m (e - min e (-149)).toNat
    exact decide_eq_true (by omega)
  · unfold geB'; rw [ord_inf h read_0]; rfl
theorem nn_sub {x y : Nat} (hx : finB .f32 x = true) (hy : finB .f32 y = true) (h : geB' y x = false) : Nn (ar .sub .f32 x y) := by
  obtain ⟨s, m, i, hx'⟩ := fin_num hx
  obtain ⟨t, n, j, hy'⟩ := fin_num hy
  rw [ge_num hy' hx' (min i j) (Int.min_le_right _ _) (Int.min_le_left _ _), decide_eq_false_iff_not] at h
  have hb : floatBits .sub .f32 x y = some (single.nearest false (signed s m (i - min i j).toNat + signed (!t) n (j - min i j).toNat).natAbs (min i j)) := by
    rw [sub_bits', hx', hy']
    show (Datum.sum (.number s m i) (.number (!t) n j)).map single.write = _
    unfold Datum.sum
    have e := signed_not t n (j - min i j).toNat
    have h3 : (if signed s m (i - min i j).toNat + signed (!t) n (j - min i j).toNat = 0 then s && !t else decide (signed s m (i - min i j).toNat + signed (!t) n (j - min i j).toNat < 0)) = false := by
      rw [if_neg (by omega)]
      exact decide_eq_false (by omega)
    simp only []
    rw [h3]
    rfl
  rw [ar_some hb]; exact nn_near _ _
theorem nn_quo {x y : Nat} (hx : Nn x) (hy : psB y = true) : Nn (ar .quo .f32 x y) := by
  obtain ⟨n, j, hy', hn⟩ := ps_read hy
  have hb : floatBits .quo .f32 x y = (Datum.quotient (single.fractionBits + 2) (single.read x) (single.read y)).map single.write := rfl
  rcases hx with ⟨m, i, hx⟩ | hx
  · have h3 : ∃ M p, Datum.quotient (single.fractionBits + 2) (.number false m i) (.number false n j) = some (.number false M p) := by
      unfold Datum.quotient
      simp only [if_neg hn]
      exact ⟨_, _, rfl⟩
    obtain ⟨M, p, h3⟩ := h3
    have : floatBits .quo .f32 x y = some (single.nearest false M p) := by rw [hb, hx, hy', h3]; rfl
    rw [ar_some this]; exact nn_near _ _
  · have : floatBits .quo .f32 x y = some (single.write (.infinity false)) := by rw [hb, hx, hy']; rfl
    rw [ar_some this]; exact nn_inf
/-- Slopes of what falls are at least nothing. -/
theorem sl_ge {x y : Nat} {n : Int} (hx : finB .f32 x = true) (hy : finB .f32 y = true) (h : geB' y x = false) (h1 : 1 ≤ n) (h2 : n ≤ 9223372036854775807) : geB' (slF x y n) 0 = true :=
  nn_ge (nn_quo (nn_sub hx hy h) (foi_ps n h1 h2))
end Go.Proofs.Ythkklilfignmpaa.Fl
