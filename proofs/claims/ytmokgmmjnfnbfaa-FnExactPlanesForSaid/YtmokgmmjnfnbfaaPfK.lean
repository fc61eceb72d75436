/-
  Contracts: PlanesFor: how many planes integers need.
-/
import Derived.Test.YtmokgmmjnfnbfaaPnK
import Derived.ChangeKeysEq
namespace Go.Proofs.Ytmokgmmjnfnbfaa
open Go.RowKit Fl
set_option linter.unusedVariables false

theorem pw_mono {n m : Nat} (h : n ≤ m) : (2 : Int) ^ n ≤ 2 ^ m := by
  have := Nat.pow_le_pow_right (n := 2) (by omega) h
  exact_mod_cast this
theorem pw_succ (n : Nat) : (2 : Int) ^ (n + 1) = 2 * 2 ^ n := by rw [Int.pow_succ]; omega
def PlUp (xs : List Int) (k n : Nat) : Prop := ∀ i (h : i < xs.length), i < k → absI xs[i] < 2 ^ n
def PlLo (xs : List Int) (n : Nat) : Prop := n = 0 ∨ ∃ x ∈ xs, 2 ^ (n - 1) ≤ absI x
def PlIs (xs : List Int) (n : Nat) : Prop := PlUp xs xs.length n ∧ PlLo xs n
theorem plIs_lt {xs : List Int} {n m : Nat} (h1 : PlIs xs n) (h2 : PlIs xs m) : ¬ n < m := by
  intro hlt
  rcases h2.2 with rfl | ⟨x, hx, hh⟩
  · omega
  · obtain ⟨i, hi, rfl⟩ := List.getElem_of_mem hx
    have a := h1.1 i hi hi
    have b := pw_mono (show n ≤ m - 1 by omega)
    omega
theorem plIs_uniq {xs : List Int} {n m : Nat} (h1 : PlIs xs n) (h2 : PlIs xs m) : n = m := by
  have := plIs_lt h1 h2
  have := plIs_lt h2 h1
  omega
open Classical in
noncomputable def plF (xs : List Int) : Nat := if h : ∃ n, PlIs xs n then h.choose else 0
theorem plF_is {xs : List Int} {n : Nat} (h : PlIs xs n) : plF xs = n := by
  have hx : ∃ n, PlIs xs n := ⟨n, h⟩
  unfold plF
  rw [dif_pos hx]
  exact plIs_uniq hx.choose_spec h
theorem plLo_small {xs : List Int} {n : Nat} (hw : withB 1000000 xs = true) (h : PlLo xs n) : n ≤ 20 := by
  rcases h with rfl | ⟨x, hx, hh⟩
  · omega
  · obtain ⟨i, hi, rfl⟩ := List.getElem_of_mem hx
    obtain ⟨x1, x2⟩ := withB_out hw i hi
    have := absI_b _ x1 x2
    by_cases hn : n ≤ 20
    · exact hn
    · have b := pw_mono (show 20 ≤ n - 1 by omega)
      have e : (2 : Int) ^ 20 = 1048576 := by decide
      omega
theorem plUp_all {xs : List Int} (hw : withB 1000000 xs = true) : PlUp xs xs.length 24 := by
  intro i hi _
  obtain ⟨x1, x2⟩ := withB_out hw i hi
  have := absI_b _ x1 x2
  have e : (2 : Int) ^ 24 = 16777216 := by decide
  omega
theorem absI_nn (n : Int) : 0 ≤ absI n := by unfold absI; split <;> omega
theorem dig_no {z : Int} {p : Nat} (h0 : 0 ≤ z) (h1 : z < 2 ^ (p + 1)) (h : dig z p = false) : z < 2 ^ p := by
  rw [pw_succ] at h1
  have hp := pow_pos2 p
  have q1 : z / 2 ^ p < 2 := Int.ediv_lt_of_lt_mul hp (by omega)
  have q0 : 0 ≤ z / 2 ^ p := Int.ediv_nonneg h0 (by omega)
  have q2 : z / 2 ^ p % 2 ≠ 1 := by
    intro e
    unfold dig at h
    rw [e] at h
    cases h
  have q3 : z / 2 ^ p = 0 := by omega
  have := Int.emod_add_mul_ediv z (2 ^ p)
  rw [q3, Int.mul_zero] at this
  have := Int.emod_lt_of_pos z hp
  omega
theorem dig_yes {z : Int} {p : Nat} (h0 : 0 ≤ z) (h : dig z p = true) : 2 ^ p ≤ z := by
  by_cases hl : 2 ^ p ≤ z
  · exact hl
  · have : z / 2 ^ p = 0 := Int.ediv_eq_zero_of_lt h0 (by omega)
    unfold dig at h
    rw [this] at h
    cases h
def noB : List Bool := List.replicate 128 false
theorem plD_zero {xs : List Int} {p : Nat} (h : xs.length ≤ 128) : plD xs p = noB ↔ ∀ i (hi : i < xs.length), dig (absI xs[i]) p = false := by
  constructor
  · intro e i hi
    have hl := plD_len xs p h
    have := plD_at xs p i hi (by omega)
    rw [← this]
    have e2 : (plD xs p)[i]? = noB[i]? := by rw [e]
    rw [List.getElem?_eq_getElem (by omega)] at e2
    have e3 : noB[i]? = some false := by unfold noB; rw [List.getElem?_replicate, if_pos (by omega)]
    rw [e3] at e2
    exact Option.some.inj e2
  · intro hh
    unfold noB
    refine List.eq_replicate_iff.2 ⟨plD_len xs p h, fun b hb => ?_⟩
    unfold plD at hb
    rcases List.mem_append.1 hb with hb | hb
    · obtain ⟨x, hx, rfl⟩ := List.mem_map.1 hb
      obtain ⟨i, hi, rfl⟩ := List.getElem_of_mem hx
      exact hh i hi
    · exact (List.mem_replicate.1 hb).2
theorem pl_down {xs : List Int} {p : Nat} (hl : xs.length ≤ 128) (hu : PlUp xs xs.length (p + 1)) (h : plD xs p = noB) : PlUp xs xs.length p := fun i hi hk => dig_no (absI_nn _) (hu i hi hk) ((plD_zero hl).1 h i hi)
theorem pl_stop {xs : List Int} {p : Nat} (hl : xs.length ≤ 128) (hu : PlUp xs xs.length (p + 1)) (h : plD xs p ≠ noB) : PlIs xs (p + 1) := by
  refine ⟨hu, .inr ?_⟩
  by_cases hh : ∀ i (hi : i < xs.length), dig (absI xs[i]) p = false
  · exact absurd ((plD_zero hl).2 hh) h
  · obtain ⟨i, hi⟩ := Classical.not_forall.1 hh
    obtain ⟨hi, hd⟩ := Classical.not_forall.1 hi
    exact ⟨xs[i], List.getElem_mem hi, dig_yes (absI_nn _) (by simpa using hd)⟩
noncomputable def pfV (xs : List Int) : Int := if areB xs then plF xs else 0
theorem pfV_no {xs : List Int} (h : areB xs = false) : pfV xs = 0 := by unfold pfV; rw [if_neg (by rw [h]; simp)]
theorem pfV_yes {xs : List Int} (h : areB xs = true) : pfV xs = plF xs := by unfold pfV; rw [if_pos h]
/-- Two arrays of bools that are compared. -/
theorem items_b (w : World) (d : Nat) (A B : List Bool) : ∀ is : List Nat, (∀ i ∈ is, i < A.length ∧ i < B.length) → (Op.eqItems (d + 1) 4 1 (bl A).toArray (bl B).toArray is).run Try.prog w = .ok (is.all fun i => A[i]? == B[i]?) w
  | [], _ => by simp [Op.eqItems]
  | i :: is, h => by
    obtain ⟨h1, h2⟩ := h i (by simp)
    have hk : Try.prog.plainKey 4 = true := by kernel_rfl
    have p1 : (part 4 (bl A).toArray (i * 1)).run Try.prog w = .ok (.bool A[i]) w := run_part_plain w hk (by rw [Nat.mul_one]; simpa using bl_get A i h1)
    have p2 : (part 4 (bl B).toArray (i * 1)).run Try.prog w = .ok (.bool B[i]) w := run_part_plain w hk (by rw [Nat.mul_one]; simpa using bl_get B i h2)
    have p3 := run_equalIn_bool w d 4 A[i] B[i] Try.underlying4
    have ih := items_b w d A B is fun j hj => h j (by simp [hj])
    simp only [Op.eqItems, Sem.run_bind, p1, p2, p3, Result.andThen_ok, List.all_cons, List.getElem?_eq_getElem h1, List.getElem?_eq_getElem h2]
    by_cases e : A[i] = B[i]
    · simp [e, ih]
    · simp [e]
theorem zeroNo : Try.zeroCells68 = (bl noB).toArray := by kernel_rfl
theorem planes_eq (w : World) (A B : List Bool) (hA : A.length = 128) (hB : B.length = 128) : (Op.equalIn 10000 68 (.agg (bl A).toArray) (.agg (bl B).toArray)).run Try.prog w = .ok (decide (A = B)) w := by
  obtain ⟨i0, hi⟩ : ∃ i, Try.prog.info? 4 = some i := info_of_underlying Try.underlying4
  have hc : Try.prog.cellsOf 4 = 1 := by kernel_rfl
  have hall : ∀ n, A.length = n → B.length = n → (List.range n).all (fun i => A[i]? == B[i]?) = decide (A = B) := by
    intro n hA hB
    by_cases e : A = B
    · subst e; simp
    · rw [decide_eq_false e]
      refine Bool.eq_false_iff.2 fun h => e (List.ext_getElem? fun i => ?_)
      by_cases hi : i < n
      · have := List.all_eq_true.1 h i (List.mem_range.2 hi)
        exact eq_of_beq this
      · rw [List.getElem?_eq_none (by omega), List.getElem?_eq_none (by omega)]
  rw [run_equalIn_array w 9999 (bl A).toArray (bl B).toArray Try.underlying68 hi, hc, items_b w 9998 A B _ (fun i h => by have := List.mem_range.1 h; omega), hall 128 hA hB]
end Go.Proofs.Ytmokgmmjnfnbfaa
