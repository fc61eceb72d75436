/-
  Grids: their lengths, the powers of 2 that divide their indices, and surpluses as lists (no program in it).
-/
import Derived.Test.YthkklilfignmpaaIsw
import Derived.Test.YthkklilfignmpaaFloHf
namespace Go.Proofs.Ythkklilfignmpaa
open Go.RowKit Fl
set_option linter.unusedVariables false

def gdB (n : Nat) : Bool := decide (n = 2 ∨ n = 3 ∨ n = 5 ∨ n = 9 ∨ n = 17 ∨ n = 33 ∨ n = 65)
def grB (xs : List Nat) : Bool := gdB xs.length && finA xs
theorem gdB_out {n : Nat} (h : gdB n = true) : n = 2 ∨ n = 3 ∨ n = 5 ∨ n = 9 ∨ n = 17 ∨ n = 33 ∨ n = 65 := of_decide_eq_true h
theorem gdB_bd {n : Nat} (h : gdB n = true) : 2 ≤ n ∧ n ≤ 65 := by rcases gdB_out h with rfl | rfl | rfl | rfl | rfl | rfl | rfl <;> omega
theorem gd_and : ∀ n : Fin 66, 2 ≤ n.val → (bits .and .i64 ((n.val : Int) - 1) ((n.val : Int) - 2) == 0) = gdB n.val := by decide
theorem grB_len {xs : List Nat} (h : grB xs = true) : gdB xs.length = true ∧ finA xs = true := by unfold grB at h; rwa [Bool.and_eq_true] at h
/-- The greatest power of 2 that divides i, of 1 to 63. -/
def lowb (i : Nat) : Nat := if i % 2 = 1 then 1 else if i % 4 = 2 then 2 else if i % 8 = 4 then 4 else if i % 16 = 8 then 8 else if i % 32 = 16 then 16 else 32
theorem low_and : ∀ k : Fin 64, 1 ≤ k.val → bits .and .i64 (k.val : Int) (-(k.val : Int)) = (lowb k.val : Int) := by decide
theorem low_bd : ∀ m : Fin 66, gdB m.val = true → ∀ k : Fin 64, 1 ≤ k.val → k.val + 1 < m.val → 1 ≤ lowb k.val ∧ lowb k.val ≤ k.val ∧ k.val + lowb k.val < m.val := by
  intro m hm k h1 h2
  obtain ⟨m, hm66⟩ := m
  obtain ⟨k, hk64⟩ := k
  simp only at *
  rcases gdB_out hm with rfl | rfl | rfl | rfl | rfl | rfl | rfl <;> unfold lowb <;> (repeat' split) <;> omega
def suA (xs : List Nat) (i : Nat) : Nat := if 1 ≤ i ∧ i + 1 < xs.length then ar .sub .f32 (xs.getD i 0) (h2F (xs.getD (i - lowb i) 0) (xs.getD (i + lowb i) 0)) else xs.getD i 0
def suK (xs : List Nat) (k : Nat) : List Nat := (List.range xs.length).map fun i => if i < k then suA xs i else xs.getD i 0
def suF (xs : List Nat) : List Nat := (List.range xs.length).map (suA xs)
theorem suK_len (xs : List Nat) (k : Nat) : (suK xs k).length = xs.length := by simp [suK]
theorem suF_len (xs : List Nat) : (suF xs).length = xs.length := by simp [suF]
theorem range_getD {n : Nat} (f : Nat → Nat) {i : Nat} (h : i < n) : ((List.range n).map f).getD i 0 = f i := by simp [List.getD, h]
theorem list_range (xs : List Nat) : (List.range xs.length).map (fun i => xs.getD i 0) = xs := by
  apply List.ext_getElem?
  intro i
  by_cases hi : i < xs.length
  · simp [hi]
  · simp [hi]
theorem map_congr' {n : Nat} {f g : Nat → Nat} (h : ∀ i, i < n → f i = g i) : (List.range n).map f = (List.range n).map g := List.map_congr_left fun i hi => h i (List.mem_range.1 hi)
theorem rsetN {f g : Nat → Nat} {n p x : Nat} (hp : p < n) (hx : g p = x) (h : ∀ i, i < n → i ≠ p → f i = g i) : ((List.range n).map f).set p x = (List.range n).map g := by
  apply List.ext_getElem?
  intro i
  rw [List.getElem?_set]
  by_cases h1 : p = i
  · subst h1
    rw [if_pos rfl, if_pos (by simpa using hp)]
    simp [hp, hx]
  · rw [if_neg h1]
    by_cases hi : i < n
    · simp [hi, h i hi (by omega)]
    · simp [hi]
theorem suK_one (xs : List Nat) (h : 2 ≤ xs.length) : suK xs 1 = xs := by
  conv => rhs; rw [← list_range xs]
  refine map_congr' fun i hi => ?_
  by_cases h0 : i < 1
  · rw [if_pos h0]; unfold suA; rw [if_neg (by omega)]
  · rw [if_neg h0]
theorem suK_set (xs : List Nat) (k : Nat) (h : k < xs.length) : (suK xs k).set k (suA xs k) = suK xs (k + 1) := by
  refine rsetN h (by rw [if_pos (by omega)]) fun i hi hne => ?_
  by_cases h0 : i < k
  · rw [if_pos h0, if_pos (by omega)]
  · rw [if_neg h0, if_neg (by omega)]
theorem suK_all (xs : List Nat) (k : Nat) (h : xs.length ≤ k + 1) (h1 : 1 ≤ k) : suK xs k = suF xs := by
  refine map_congr' fun i hi => ?_
  by_cases h0 : i < k
  · rw [if_pos h0]
  · rw [if_neg h0]; unfold suA; rw [if_neg (by omega)]
theorem suK_at (xs : List Nat) (k i : Nat) (h : i < xs.length) (hk : k ≤ i) : (suK xs k).getD i 0 = xs.getD i 0 := by
  unfold suK; rw [range_getD _ h, if_neg (by omega)]
/-- What has been done when the numbers with the power h before i have. -/
def dnB (n h i j : Nat) : Prop := 1 ≤ j ∧ j + 1 < n ∧ (lowb j < h ∨ (lowb j = h ∧ j < i))
instance (n h i j : Nat) : Decidable (dnB n h i j) := by unfold dnB; infer_instance
def suM (xs : List Nat) (h i : Nat) : List Nat := (List.range xs.length).map fun j => if dnB xs.length h i j then suA xs j else xs.getD j 0
theorem suM_len (xs : List Nat) (h i : Nat) : (suM xs h i).length = xs.length := by simp [suM]
def pwB (h : Nat) : Prop := h = 1 ∨ h = 2 ∨ h = 4 ∨ h = 8 ∨ h = 16 ∨ h = 32 ∨ h = 64
theorem suM_start (xs : List Nat) : suM xs 1 1 = xs := by
  conv => rhs; rw [← list_range xs]
  refine map_congr' fun j hj => ?_
  rw [if_neg]
  rintro ⟨h1, _, h3⟩
  have : 1 ≤ lowb j := by unfold lowb; (repeat' split) <;> omega
  omega
theorem low_at {h j i : Nat} (hp : h = 1 ∨ h = 2 ∨ h = 4 ∨ h = 8 ∨ h = 16 ∨ h = 32) (hj : j < 64) (hi : i % (2 * h) = h) (h1 : 1 ≤ j) : (lowb j = h ↔ j % (2 * h) = h) := by
  rcases hp with rfl | rfl | rfl | rfl | rfl | rfl <;> unfold lowb <;> (repeat' split) <;> omega
theorem suM_set (xs : List Nat) (h i : Nat) (hp : h = 1 ∨ h = 2 ∨ h = 4 ∨ h = 8 ∨ h = 16 ∨ h = 32) (hn : xs.length ≤ 65) (hi : i % (2 * h) = h) (hlt : i + 1 < xs.length) : (suM xs h i).set i (suA xs i) = suM xs h (i + 2 * h) := by
  have hih : h ≤ i := by have := Nat.mod_le i (2 * h); omega
  have hh : 1 ≤ h := by omega
  have hl : lowb i = h := (low_at hp (by omega) hi (by omega)).2 hi
  refine rsetN (by omega) (by rw [if_pos ⟨by omega, by omega, .inr ⟨hl, by omega⟩⟩]) fun j hj hne => ?_
  have e : dnB xs.length h i j ↔ dnB xs.length h (i + 2 * h) j := by
    unfold dnB
    constructor
    · rintro ⟨a, b, c | ⟨c, d⟩⟩
      · exact ⟨a, b, .inl c⟩
      · exact ⟨a, b, .inr ⟨c, by omega⟩⟩
    · rintro ⟨a, b, c | ⟨c, d⟩⟩
      · exact ⟨a, b, .inl c⟩
      · refine ⟨a, b, .inr ⟨c, ?_⟩⟩
        have hjm := (low_at hp (by omega) hi a).1 c
        rcases hp with rfl | rfl | rfl | rfl | rfl | rfl <;> omega
  by_cases g : dnB xs.length h i j
  · rw [if_pos g, if_pos (e.1 g)]
  · rw [if_neg g, if_neg (fun x => g (e.2 x))]
theorem suM_next (xs : List Nat) (h i : Nat) (hp : h = 1 ∨ h = 2 ∨ h = 4 ∨ h = 8 ∨ h = 16 ∨ h = 32) (hn : xs.length ≤ 65) (hge : xs.length ≤ i + 1) : suM xs h i = suM xs (2 * h) (2 * h) := by
  refine map_congr' fun j hj => ?_
  have e : dnB xs.length h i j ↔ dnB xs.length (2 * h) (2 * h) j := by
    unfold dnB
    constructor
    · rintro ⟨a, b, c | ⟨c, d⟩⟩
      · exact ⟨a, b, .inl (by omega)⟩
      · exact ⟨a, b, .inl (by omega)⟩
    · rintro ⟨a, b, c⟩
      refine ⟨a, b, ?_⟩
      have : lowb j ≤ j := by unfold lowb; (repeat' split) <;> omega
      have c' : lowb j < 2 * h := by omega
      have : lowb j ≤ h := by
        revert c'
        rcases hp with rfl | rfl | rfl | rfl | rfl | rfl <;> unfold lowb <;> (repeat' split) <;> omega
      omega
  by_cases g : dnB xs.length h i j
  · rw [if_pos g, if_pos (e.1 g)]
  · rw [if_neg g, if_neg (fun x => g (e.2 x))]
theorem suM_all (xs : List Nat) (h : Nat) (hp : pwB h) (hg : gdB xs.length = true) (hge : xs.length ≤ 2 * h) : suM xs h h = suF xs := by
  refine map_congr' fun j hj => ?_
  by_cases g : 1 ≤ j ∧ j + 1 < xs.length
  · rw [if_pos]
    refine ⟨g.1, g.2, .inl ?_⟩
    obtain ⟨g1, g2⟩ := g
    generalize xs.length = n at *
    unfold pwB at hp
    rcases gdB_out hg with rfl | rfl | rfl | rfl | rfl | rfl | rfl <;> rcases hp with rfl | rfl | rfl | rfl | rfl | rfl | rfl <;> unfold lowb <;> (repeat' split) <;> omega
  · rw [if_neg (fun x => g ⟨x.1, x.2.1⟩)]; unfold suA; rw [if_neg g]
theorem suM_at (xs : List Nat) (h i : Nat) (hp : h = 1 ∨ h = 2 ∨ h = 4 ∨ h = 8 ∨ h = 16 ∨ h = 32) (hn : xs.length ≤ 65) (hi : i % (2 * h) = h) (hlt : i + 1 < xs.length) : suA xs i = ar .sub .f32 (xs.getD i 0) (ar .mul .f32 1056964608 (ar .add .f32 (xs.getD (i - h) 0) (xs.getD (i + h) 0))) := by
  have hih : h ≤ i := by have := Nat.mod_le i (2 * h); omega
  have hl : lowb i = h := (low_at hp (by omega) hi (by omega)).2 hi
  unfold suA
  rw [if_pos ⟨by omega, hlt⟩, hl, half_two]; rfl
/-- What comes back of surpluses: one number after another. -/
def fsS (h i : Nat) (c : List Nat) : List Nat := c.set i (ar .add .f32 (c.getD i 0) (h2F (c.getD (i - h) 0) (c.getD (i + h) 0)))
def fsIn (n h : Nat) : Nat → Nat → List Nat → List Nat
  | 0, _, c => c
  | f + 1, i, c => if i + 1 < n then fsIn n h f (i + 2 * h) (fsS h i c) else c
def fsOut (n : Nat) : Nat → Nat → List Nat → List Nat
  | 0, _, c => c
  | f + 1, h, c => if 1 ≤ h then fsOut n f (h / 2) (fsIn n h n h c) else c
def fsF (xs : List Nat) : List Nat := fsOut xs.length xs.length ((xs.length - 1) / 2) xs
theorem fsS_len (h i : Nat) (c : List Nat) : (fsS h i c).length = c.length := by simp [fsS]
theorem fsIn_len (n h : Nat) : ∀ f i c, (fsIn n h f i c).length = c.length
  | 0, _, _ => rfl
  | f + 1, i, c => by unfold fsIn; split <;> simp [fsIn_len n h f, fsS_len]
theorem fsOut_len (n : Nat) : ∀ f h c, (fsOut n f h c).length = c.length
  | 0, _, _ => rfl
  | f + 1, h, c => by unfold fsOut; split <;> simp [fsOut_len n f, fsIn_len]
theorem fsF_len (xs : List Nat) : (fsF xs).length = xs.length := fsOut_len _ _ _ _
theorem fsIn_go {n h f i : Nat} {c : List Nat} (hf : n ≤ f + i) (h1 : i + 1 < n) : ∃ f', f = f' + 1 ∧ fsIn n h f i c = fsIn n h f' (i + 2 * h) (fsS h i c) := by
  rcases f with _ | f
  · omega
  · refine ⟨f, rfl, ?_⟩
    show (if _ then _ else _) = _
    rw [if_pos h1]
theorem fsIn_stop {n h f i : Nat} {c : List Nat} (h1 : n ≤ i + 1) : fsIn n h f i c = c := by
  rcases f with _ | f
  · rfl
  · show (if _ then _ else _) = _
    rw [if_neg (by omega)]
theorem fsOut_go {n f h : Nat} {c : List Nat} (hf : h ≤ f) (h1 : 1 ≤ h) : ∃ f', f = f' + 1 ∧ fsOut n f h c = fsOut n f' (h / 2) (fsIn n h n h c) := by
  rcases f with _ | f
  · omega
  · refine ⟨f, rfl, ?_⟩
    show (if _ then _ else _) = _
    rw [if_pos h1]
theorem fsOut_stop {n f : Nat} {c : List Nat} : fsOut n f 0 c = c := by
  rcases f with _ | f
  · rfl
  · show (if _ then _ else _) = _
    rw [if_neg (by omega)]
end Go.Proofs.Ythkklilfignmpaa
