/-
  What stands above what: floats beside those that are nothing or above it (no program in it).
-/
import Derived.Test.YthkklilfignmpaaFloHu
namespace Go.Proofs.Ythkklilfignmpaa.Fl
open Ieee
set_option linter.unusedVariables false

theorem signed_m (s : Bool) (m u : Nat) : (0 < signed s m u ↔ s = false ∧ m ≠ 0) ∧ (signed s m u = 0 ↔ m = 0) := by
  have hp : ∀ u, 0 < m → 0 < signed false m u := fun u h => sgn_pos m u h
  cases s with
  | false =>
    rcases Nat.eq_zero_or_pos m with h | h
    · subst h; rw [signed_zero]; simp
    · have := hp u h; constructor <;> constructor <;> intro g <;> first | omega | (refine ⟨rfl, ?_⟩; omega)
  | true =>
    rw [sgn_neg]
    rcases Nat.eq_zero_or_pos m with h | h
    · subst h; rw [signed_zero]; simp
    · have := hp u h; constructor <;> constructor <;> intro g <;> first | omega | (obtain ⟨g1, g2⟩ := g; cases g1)
/-- A number that is neither above nothing nor below it. -/
theorem zero_like {x : Nat} (h1 : gt32 x 0 = false) (h2 : geB' x 0 = true) : ∃ s e, single.read x = .number s 0 e := by
  unfold gt32 at h1
  unfold geB' at h2
  rw [h1, Bool.false_or] at h2
  have hn : isN .f32 x = false := by
    cases hn : isN .f32 x with
    | false => rfl
    | true => rw [order_nan_l hn] at h2; simp at h2
  rcases isN_num hn with ⟨s, m, e, hr⟩ | ⟨s, hr⟩
  · rw [order_num hr read_0, cmp_eq_iff, signed_zero, decide_eq_true_eq] at h2
    have := (signed_m s m _).2.1 h2
    subst this
    exact ⟨s, e, hr⟩
  · rw [ord_inf hr read_0] at h2; cases s <;> simp at h2
theorem order_zero {c x : Nat} {s : Bool} {e : Int} (hc : isN .f32 c = false) (hx : single.read x = .number s 0 e) : FloatKind.f32.format.order c x = FloatKind.f32.format.order c 0 := by
  rcases isN_num hc with ⟨t, m, i, hr⟩ | ⟨t, hr⟩
  · rw [order_num hr hx, order_num hr read_0, signed_zero, signed_zero]
    congr 1
    have h1 := signed_m t m (i - min i e).toNat
    have h2 := signed_m t m (i - min i (-149)).toNat
    rcases Int.lt_trichotomy (signed t m (i - min i e).toNat) 0 with h | h | h
    · have : signed t m (i - min i (-149)).toNat < 0 := by
        rcases Int.lt_trichotomy (signed t m (i - min i (-149)).toNat) 0 with g | g | g
        · exact g
        · have := h1.2.2 (h2.2.1 g); omega
        · have := h1.1.2 (h2.1.1 g); omega
      rw [cmp_lt h, cmp_lt this]
    · rw [cmp_eq h, cmp_eq (h2.2.2 (h1.2.1 h))]
    · rw [cmp_gt h, cmp_gt (h2.1.2 (h1.1.1 h))]
  · rw [ord_inf hr hx, ord_inf hr read_0]
theorem ge_zero {c x : Nat} (hc : isN .f32 c = false) (h1 : gt32 x 0 = false) (h2 : geB' x 0 = true) : geB' c x = geB' c 0 := by
  obtain ⟨s, e, hx⟩ := zero_like h1 h2
  unfold geB'
  rw [order_zero hc hx]
theorem gt_ge {c x : Nat} (h : gt32 c x = true) : geB' c x = true := by unfold gt32 at h; unfold geB'; rw [h, Bool.true_or]
theorem ge_not {c x : Nat} (h : geB' c x = true) : isN .f32 c = false := by
  cases hn : isN .f32 c with
  | false => rfl
  | true => unfold geB' at h; rw [order_nan_l hn] at h; simp at h
theorem not_above {c x : Nat} (hc : isN .f32 c = false) (h1 : gt32 c 0 = false) (h2 : gt32 x 0 = true) : geB' c x = false := by
  have hx : isN .f32 x = false := ge_not (gt_ge h2)
  unfold gt32 at h1 h2
  unfold geB'
  rcases isN_num hc with ⟨s, m, e, hr⟩ | ⟨s, hr⟩ <;> rcases isN_num hx with ⟨t, n, j, hq⟩ | ⟨t, hq⟩
  · rw [order_num hr read_0, cmp_gt_iff, signed_zero, decide_eq_false_iff_not] at h1
    rw [order_num hq read_0, cmp_gt_iff, signed_zero, decide_eq_true_eq] at h2
    rw [order_num hr hq, cmp_gt_iff, cmp_eq_iff]
    have a1 : ¬ (s = false ∧ m ≠ 0) := fun g => h1 ((signed_m s m _).1.2 g)
    have a2 := (signed_m t n (j - min e j).toNat).1.2 ((signed_m t n _).1.1 h2)
    have a3 : ¬ 0 < signed s m (e - min e j).toNat := fun g => a1 ((signed_m s m _).1.1 g)
    rw [decide_eq_false (by omega), decide_eq_false (by omega)]; rfl
  · rw [ord_inf hq read_0] at h2
    cases t with
    | true => simp at h2
    | false =>
      show (single.order c x == some .gt || single.order c x == some .eq) = false
      unfold Format.order
      rw [hr, hq]; rfl
  · rw [ord_inf hr read_0] at h1
    cases s with
    | false => simp at h1
    | true => rw [ord_inf hr hq]; rfl
  · rw [ord_inf hr read_0] at h1
    rw [ord_inf hq read_0] at h2
    cases s with
    | false => simp at h1
    | true => cases t with
      | true => simp at h2
      | false =>
        show (single.order c x == some .gt || single.order c x == some .eq) = false
        unfold Format.order
        rw [hr, hq]; rfl
end Go.Proofs.Ythkklilfignmpaa.Fl
