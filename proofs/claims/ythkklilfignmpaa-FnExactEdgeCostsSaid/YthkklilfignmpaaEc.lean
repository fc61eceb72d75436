/-
  Edges of costs: where each point has a next one; what is read of a block of costs.
-/
import Derived.Test.YthkklilfignmpaaHl
import Derived.Test.YthkklilfignmpaaFloEd
import Derived.Test.YthkklilfignmpaaAc
namespace Go.Proofs.Ythkklilfignmpaa
open Go.RowKit Fl
set_option linter.unusedVariables false

def bsC (xs : List (Int × Nat)) : List Int := xs.map (·.1)
def msC (xs : List (Int × Nat)) : List Nat := xs.map (·.2)
theorem bsC_len (xs : List (Int × Nat)) : (bsC xs).length = xs.length := List.length_map ..
theorem msC_len (xs : List (Int × Nat)) : (msC xs).length = xs.length := List.length_map ..
theorem bsC_getD (xs : List (Int × Nat)) (k : Nat) : (bsC xs).getD k 0 = (xs.getD k (0, 0)).1 := by
  unfold bsC; simp only [List.getD, List.getElem?_map]; cases xs[k]? <;> rfl
theorem msC_getD (xs : List (Int × Nat)) (k : Nat) : (msC xs).getD k 0 = (xs.getD k (0, 0)).2 := by
  unfold msC; simp only [List.getD, List.getElem?_map]; cases xs[k]? <;> rfl
theorem acB_out {xs : List (Int × Nat)} (h : acB xs = true) : 1 ≤ xs.length ∧ xs.length ≤ 16 ∧ ∀ i, i < xs.length → acOk xs i = true := by
  unfold acB at h
  rw [Bool.and_eq_true, decide_eq_true_eq, List.all_eq_true] at h
  exact ⟨h.1.1, h.1.2, fun i hi => h.2 i (List.mem_range.2 hi)⟩
theorem acOk_out {xs : List (Int × Nat)} {k : Nat} (h : acOk xs k = true) : (0 ≤ (bsC xs).getD k 0 ∧ (bsC xs).getD k 0 ≤ 512) ∧ lsB ((msC xs).getD k 0) = true ∧ (k = 0 ∨ ((bsC xs).getD (k - 1) 0 < (bsC xs).getD k 0 ∧ geB' ((msC xs).getD k 0) ((msC xs).getD (k - 1) 0) = false)) := by
  rw [bsC_getD, bsC_getD, msC_getD, msC_getD]
  unfold acOk at h
  rw [Bool.and_eq_true, Bool.and_eq_true, decide_eq_true_eq, Bool.or_eq_true, decide_eq_true_eq, Bool.and_eq_true, decide_eq_true_eq, Bool.not_eq_true'] at h
  exact ⟨h.1.1, h.1.2, h.2⟩
theorem ac_tb {xs : List (Int × Nat)} (h : acB xs = true) : TbTo (bsC xs) (msC xs) xs.length := by
  obtain ⟨_, _, h3⟩ := acB_out h
  intro i hi
  obtain ⟨⟨p1, p2⟩, p3, p4⟩ := acOk_out (h3 i hi)
  unfold TbAt
  rw [p3, Bool.and_true]
  refine decide_eq_true ?_
  unfold prevB
  split
  · omega
  · rcases p4 with p4 | p4
    · omega
    · exact p4.1
theorem ac_fin {xs : List (Int × Nat)} (h : acB xs = true) (i : Nat) (hi : i < xs.length) : finB .f32 ((msC xs).getD i 0) = true := lsB_finH (acOk_out ((acB_out h).2.2 i hi)).2.1
theorem ac_fall {xs : List (Int × Nat)} (h : acB xs = true) (a : Nat) : ∀ d, a + d + 1 < xs.length → geB' ((msC xs).getD (a + d + 1) 0) ((msC xs).getD a 0) = false
  | 0, hi => by
    rcases (acOk_out ((acB_out h).2.2 (a + 0 + 1) hi)).2.2 with p | p
    · omega
    · exact p.2
  | d + 1, hi => by
    have h1 := ac_fall h a d (by omega)
    rcases (acOk_out ((acB_out h).2.2 (a + (d + 1) + 1) hi)).2.2 with p | p
    · omega
    · exact ge_trans (ac_fin h a (by omega)) (ac_fin h (a + d + 1) (by omega)) (ac_fin h _ hi) h1 p.2
theorem ac_le {xs : List (Int × Nat)} (h : acB xs = true) (i : Nat) (hi : i < xs.length) : 0 ≤ (bsC xs).getD i 0 ∧ (bsC xs).getD i 0 ≤ 512 := (acOk_out ((acB_out h).2.2 i hi)).1
theorem ac_ge {xs : List (Int × Nat)} (h : acB xs = true) (a i : Nat) (hai : a < i) (hi : i < xs.length) : geB' (slF ((msC xs).getD a 0) ((msC xs).getD i 0) ((bsC xs).getD i 0 - (bsC xs).getD a 0)) 0 = true := by
  have e : a + (i - a - 1) + 1 = i := by omega
  have h1 := ac_fall h a (i - a - 1) (by omega)
  have h2 := tb_lt (ac_tb h) a (i - a - 1) (by omega)
  rw [e] at h1 h2
  have h3 := ac_le h a (by omega)
  have h4 := ac_le h i hi
  exact sl_ge (ac_fin h a (by omega)) (ac_fin h i hi) h1 (by omega) (by omega)
theorem sb_gt {xs : List (Int × Nat)} (h : acB xs = true) (a : Nat) : ∀ k, a + 1 < k → k ≤ xs.length → (a : Int) < (sbI (bsC xs) (msC xs) a k).1 ∧ (sbI (bsC xs) (msC xs) a k).1 < k
  | 0, h1, _ => by omega
  | k + 1, h1, hk => by
    by_cases hak : a + 1 = k
    · subst hak
      rw [sbI_succ _ _ a (a + 1) (by omega), sbI_0, ac_ge h a (a + 1) (by omega) (by omega), if_pos rfl]
      simp only []
      omega
    · have ih := sb_gt h a k (by omega) (by omega)
      rw [sbI_succ _ _ a k (by omega)]
      split
      · simp only []; omega
      · omega
/-- The costs behind a, one behind the other. -/
inductive EdgeFrom (bs : List Int) (ms : List Nat) (n : Nat) : Nat → List Int → Prop
  | stop {a : Nat} (h : n ≤ a + 1) : EdgeFrom bs ms n a []
  | step {a b : Nat} {X : List Int} (h0 : a + 1 < n) (h : (sbI bs ms a n).1 = (b : Int)) (h2 : EdgeFrom bs ms n b X) : EdgeFrom bs ms n a ((b : Int) :: X)
theorem edge_ex {xs : List (Int × Nat)} (h : acB xs = true) : ∀ d a, xs.length - a ≤ d → ∃ X, EdgeFrom (bsC xs) (msC xs) xs.length a X ∧ X.length ≤ d
  | 0, a, hd => ⟨[], .stop (by omega), Nat.le_refl _⟩
  | d + 1, a, hd => by
    by_cases ha : a + 1 < xs.length
    · have hg := sb_gt h a xs.length ha (Nat.le_refl _)
      obtain ⟨X, hX, hl⟩ := edge_ex h d (sbI (bsC xs) (msC xs) a xs.length).1.toNat (by omega)
      exact ⟨((sbI (bsC xs) (msC xs) a xs.length).1.toNat : Int) :: X, .step ha (by omega) hX, by simp; omega⟩
    · exact ⟨[], .stop (by omega), Nat.zero_le _⟩
theorem edge_cases {xs : List (Int × Nat)} (h : acB xs = true) {a : Nat} {X L0 L : List Int} (hX : EdgeFrom (bsC xs) (msC xs) xs.length a X) (ha : a < xs.length) (hL : L0 ++ (a : Int) :: X = L) :
    ((sbI (bsC xs) (msC xs) a xs.length).1 = -1 ∧ L0 ++ [(a : Int)] = L) ∨ ∃ b : Nat, ∃ Y, (sbI (bsC xs) (msC xs) a xs.length).1 = (b : Int) ∧ a < b ∧ b < xs.length ∧ EdgeFrom (bsC xs) (msC xs) xs.length b Y ∧ (L0 ++ [(a : Int)]) ++ (b : Int) :: Y = L := by
  cases hX with
  | stop h1 =>
    left
    have e : xs.length = a + 1 := by omega
    refine ⟨?_, hL⟩
    rw [e, sbI_0]
  | step h0 h1 h2 =>
    rename_i b Y
    have hg := sb_gt h a xs.length h0 (Nat.le_refl _)
    rw [h1] at hg
    exact .inr ⟨b, Y, h1, by omega, by omega, h2, by rw [List.append_assoc]; exact hL⟩
def ecV (xs : List (Int × Nat)) (X : List Int) : List Int := if acB xs then 0 :: X else []
theorem ecV_yes {xs : List (Int × Nat)} {X : List Int} (h : acB xs = true) : ecV xs X = 0 :: X := by unfold ecV; rw [if_pos h]
theorem ecV_no {xs : List (Int × Nat)} {X : List Int} (h : acB xs = false) : ecV xs X = [] := by unfold ecV; rw [if_neg (by rw [h]; simp)]
/-- The facts of one round. -/
theorem ec_round {xs : List (Int × Nat)} (h : acB xs = true) (a i : Nat) (hai : a < i) (hi : i < xs.length) :
    ∃ x y : Nat, ∃ p q : Int, (msC xs).getD a 0 = x ∧ (msC xs).getD i 0 = y ∧ (bsC xs).getD a 0 = p ∧ (bsC xs).getD i 0 = q ∧ 0 ≤ p ∧ p < q ∧ q ≤ 512 ∧
      (∃ d f c : Nat, floatOfInt .f32 (q - p) = f ∧ floatBits .sub .f32 x y = some d ∧ floatBits .quo .f32 d f = some c ∧ slF x y (q - p) = c ∧ geB' c 0 = true) := by
  have h3 := ac_le h a (by omega)
  have h4 := ac_le h i hi
  have e : a + (i - a - 1) + 1 = i := by omega
  have h2 := tb_lt (ac_tb h) a (i - a - 1) (by omega)
  rw [e] at h2
  obtain ⟨s1, s2⟩ := sl_bits (x := (msC xs).getD a 0) (y := (msC xs).getD i 0) (n := (bsC xs).getD i 0 - (bsC xs).getD a 0) (ac_fin h a (by omega)) (ac_fin h i hi) (by omega) (by omega)
  exact ⟨_, _, _, _, rfl, rfl, rfl, rfl, h3.1, h2, h4.2, _, _, _, rfl, s1, s2, rfl, ac_ge h a i hai hi⟩
end Go.Proofs.Ythkklilfignmpaa
