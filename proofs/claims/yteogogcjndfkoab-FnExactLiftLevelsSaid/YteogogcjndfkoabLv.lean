/-
  Bands of lists of int64, and what a round of making them leaves.
-/
import Derived.Test.YteogogcjndfkoabLiftB
import Derived.Test.YteogogcjndfkoabLl
namespace Go.Proofs.Yteogogcjndfkoab
open Go.RowKit
set_option linter.unusedVariables false

theorem infoL : (Try.prog.info? 52).map (fun i => (i.zero, i.size, i.bytes)) = some (some (.slice none 0 0), 1, 24) := by kernel_rfl
def lo1 (kind : Int) (xs : List Int) : List Int := loF kind (evF xs) (odF xs)
def le1 (kind : Int) (xs : List Int) : List Int := leF kind (evF xs) (lo1 kind xs)
theorem le1_len (kind : Int) (xs : List Int) : (le1 kind xs).length = (xs.length + 1) / 2 := by simp [le1, leF, evF_len]
theorem lo1_len (kind : Int) (xs : List Int) : (lo1 kind xs).length = xs.length / 2 := by simp [lo1, loF, odF_len]
theorem gai_bd2 {M : Int} {xs : List Int} (h : Bds M xs) (hM : 0 ≤ M) (kind : Int) (i : Nat) : -(M + 2) ≤ 2 * gai kind xs i ∧ 2 * gai kind xs i ≤ M + 2 := by
  unfold gai
  have a := h.getD hM i
  have b := h.getD hM (nrI xs.length ((i : Int) - 1))
  have c := h.getD hM (nrI xs.length (i : Int))
  split
  · split <;> omega
  · omega
theorem half_bd {M : Int} {xs : List Int} (h : Bds M xs) (hM : 0 ≤ M) : Bds M (evF xs) ∧ Bds M (odF xs) := by
  refine ⟨fun x hx => ?_, fun x hx => ?_⟩
  · obtain ⟨j, hj, rfl⟩ := List.mem_map.1 hx
    exact h.getD hM _
  · obtain ⟨j, hj, rfl⟩ := List.mem_map.1 hx
    exact h.getD hM _
theorem le1_bd {M : Int} {xs : List Int} (h : Bds M xs) (hM : 0 ≤ M) (kind : Int) : Bds (3 * M + 3) (le1 kind xs) := by
  intro x hx
  obtain ⟨i, hi, rfl⟩ := List.mem_map.1 hx
  have hh := half_bd h hM
  have a := hh.1.getD hM i
  have b := gai_bd2 (loF_bd hh.1 hh.2 hM kind) (by omega) kind i
  simp only [lo1]
  omega
def lvM : Nat → Int
  | 0 => 1000000
  | k + 1 => 3 * lvM k + 3
theorem lvM_pos (k : Nat) : 0 ≤ lvM k := by
  induction k with
  | zero => decide
  | succ k ih => unfold lvM; omega
theorem lvM_le {k : Nat} (h : k ≤ 6) : lvM k ≤ 1000000000 := by
  have : k = 0 ∨ k = 1 ∨ k = 2 ∨ k = 3 ∨ k = 4 ∨ k = 5 ∨ k = 6 := by omega
  rcases this with rfl | rfl | rfl | rfl | rfl | rfl | rfl <;> decide
/-- The bands of a list. -/
def lvF (kind : Int) : Nat → List Int → List (List Int)
  | 0, low => [low]
  | n + 1, low => if low.length < 2 then [low] else lo1 kind low :: lvF kind n (le1 kind low)
theorem lvF_stop {kind : Int} {l : Nat} {low : List Int} (h : l = 0 ∨ low.length < 2) : lvF kind l low = [low] := by
  cases l with
  | zero => rfl
  | succ l => unfold lvF; rw [if_pos (by omega)]
theorem lvF_go {kind : Int} {l k : Nat} {low : List Int} (h : k < l) (hn : 2 ≤ low.length) : lvF kind (l - k) low = lo1 kind low :: lvF kind (l - (k + 1)) (le1 kind low) := by
  obtain ⟨m, hm⟩ : ∃ m, l - k = m + 1 := ⟨l - k - 1, by omega⟩
  rw [hm, show l - (k + 1) = m by omega]
  rw [lvF, if_neg (by omega)]
theorem lvF_len (kind : Int) (l : Nat) (low : List Int) : (lvF kind l low).length ≤ l + 1 := by
  induction l generalizing low with
  | zero => simp [lvF]
  | succ l ih =>
    unfold lvF
    split
    · simp
    · have := ih (le1 kind low); simp only [List.length_cons]; omega
theorem lvF_mem (kind : Int) (l : Nat) (low : List Int) (h : low.length ≤ 1048576) : ∀ xs ∈ lvF kind l low, xs.length ≤ 1048576 := by
  induction l generalizing low with
  | zero => intro xs hx; simp [lvF] at hx; subst hx; exact h
  | succ l ih =>
    unfold lvF
    split
    · intro xs hx; simp at hx; subst hx; exact h
    · intro xs hx
      rcases List.mem_cons.1 hx with rfl | hx
      · rw [lo1_len]; omega
      · exact ih (le1 kind low) (by rw [le1_len]; omega) xs hx
theorem ill_app (xss : List (List Int)) (xs : List Int) : ill (xss ++ [xs]) = ill xss ++ [il xs] := by simp [ill]

/-- What has been made: the bands, and the evens that are lifted next. -/
def Mde (w : World) (lo : Nat) (v vl : Value) (vs : List Value) (pre : List (List Int)) (low : List Int) : Prop :=
  Bld w lo 52 v vs (ill pre) ∧ Own w lo vl (il low) ∧ NoB v vl ∧ ∀ y ∈ vs, Apart y vl
def LvRel (w0 : World) (kind : Int) (L : Nat) (R : List (List Int)) (v vl i : Value) (wr : World) : Prop :=
  ∃ (k : Nat) (vs : List Value) (pre : List (List Int)) (low : List Int), k ≤ L ∧ i = .int .i64 k ∧ pre.length = k ∧ R = pre ++ lvF kind (L - k) low ∧ 1 ≤ low.length ∧ low.length ≤ 128 ∧ Bds (lvM k) low ∧
    Mde wr w0.heap.size v vl vs pre low ∧ Below w0.heap.size w0 wr
theorem Mde.vs_len {w : World} {lo : Nat} {v vl : Value} {vs : List Value} {pre : List (List Int)} {low : List Int} (h : Mde w lo v vl vs pre low) : vs.length = pre.length := by
  have := h.1.2.1.1; rw [ill_len] at this; exact this
/-- The evens and the odds of the next lift lie apart from what there is. -/
theorem Mde.lift {w w1 : World} {lo : Nat} {v vl v2 u2 : Value} {vs : List Value} {pre : List (List Int)} {low ev od : List Int} (h : Mde w lo v vl vs pre low) (hl : lo ≤ w.heap.size)
    (hov : Own w1 w.heap.size v2 (il ev)) (hou : Own w1 w.heap.size u2 (il od)) (hap : Apart u2 v2) (hb : Below w.heap.size w w1) :
    Bld w1 lo 52 v vs (ill pre) ∧ (Own w1 lo u2 (il od) ∧ NoB v u2 ∧ ∀ y ∈ vs, Apart y u2) ∧ (Own w1 lo v2 (il ev) ∧ NoB v v2 ∧ ∀ y ∈ vs, Apart y v2) ∧ Apart u2 v2 := by
  obtain ⟨hB, ho, hn, ha⟩ := h
  have hrd : ∀ y ∈ vs, ∃ ys, Rd w w.heap.size y ys := fun y hy => by
    obtain ⟨i, hi⟩ := List.mem_iff_getElem?.1 hy
    obtain ⟨ys, hys⟩ := getE hB.2.1.1 hi
    exact ⟨ys, (hB.2.1.2.1 i y ys hi hys).rd⟩
  refine ⟨hB.step hb, ⟨hou.less hl, noB_new hB.1 hou (Nat.le_refl _), fun y hy => ?_⟩, ⟨hov.less hl, noB_new hB.1 hov (Nat.le_refl _), fun y hy => ?_⟩, hap⟩
  · obtain ⟨ys, hys⟩ := hrd y hy
    exact (apart_of hou hys (Nat.le_refl _)).symm
  · obtain ⟨ys, hys⟩ := hrd y hy
    exact (apart_of hov hys (Nat.le_refl _)).symm
/-- The odds are appended. -/
theorem bld_push {w1 w2 : World} {lo : Nat} {v v' u2 : Value} {vs : List Value} {pre : List (List Int)} {od : List Int} {o : Obj} (hB : Bld w1 lo 52 v vs (ill pre)) (hu : Own w1 lo u2 (il od) ∧ NoB v u2 ∧ ∀ y ∈ vs, Apart y u2)
    (hrow : w2.ownsRow lo 52 1 v' (vs.length + 1) (vs ++ [u2])) (hg : (w1.alloc o).grownBy w2 v.ownBlock) (hat : v'.ownBlock = v.ownBlock ∨ v'.ownBlock = some (w1.alloc o).heap.size) : Bld w2 lo 52 v' (vs ++ [u2]) (ill (pre ++ [od])) := by
  have hb : Below w1.heap.size w1 (w1.alloc o) := (Below.refl _ _).alloc (Nat.le_refl _) _
  rw [ill_app]
  exact (hB.step hb).push (hu.1.below hb) hu.2.1 hu.2.2 hrow hg (Nat.le_refl _) hat
theorem mde_push {w1 w2 : World} {lo : Nat} {v v' u2 v2 : Value} {vs : List Value} {pre : List (List Int)} {ev od : List Int} {o : Obj} (hB : Bld w1 lo 52 v vs (ill pre)) (hu : Own w1 lo u2 (il od) ∧ NoB v u2 ∧ ∀ y ∈ vs, Apart y u2) (hv : Own w1 lo v2 (il ev) ∧ NoB v v2 ∧ ∀ y ∈ vs, Apart y v2) (hap : Apart u2 v2)
    (hrow : w2.ownsRow lo 52 1 v' (vs.length + 1) (vs ++ [u2])) (hg : (w1.alloc o).grownBy w2 v.ownBlock) (hat : v'.ownBlock = v.ownBlock ∨ v'.ownBlock = some (w1.alloc o).heap.size) : Mde w2 lo v' v2 (vs ++ [u2]) (pre ++ [od]) ev := by
  have hb : Below w1.heap.size w1 (w1.alloc o) := (Below.refl _ _).alloc (Nat.le_refl _) _
  refine ⟨bld_push hB hu hrow hg hat, (hv.1.below hb).grown hg hv.2.1, hv.2.1.grow (hv.1.below hb) (Nat.le_refl _) hat, fun y hy => ?_⟩
  rcases List.mem_append.1 hy with hy | hy
  · exact hv.2.2 y hy
  · simp at hy; subst hy; exact hap
theorem below_push {w0 w1 w2 : World} {lo : Nat} {e : TypeId} {v : Value} {n : Nat} {vs : List Value} {o : Obj} (hb : Below lo w0 w1) (h : w1.ownsRow lo e 1 v n vs) (hl : lo ≤ w1.heap.size) (hg : (w1.alloc o).grownBy w2 v.ownBlock) : Below lo w0 w2 :=
  (hb.alloc hl _).grown hg (by simp; omega) (fun j hj => (h.lt j hj).1)
theorem one_cellL (A : Option Addr) (n c : Nat) : ∀ u ∈ [Value.slice A n c], u.oneCell' = true := by
  intro u hu
  simp at hu
  subst hu
  rfl
/-- Returns lists of lists of its own. -/
def RetSS (xss : List (List Int)) (w : World) (e : Ending) (w' : World) : Prop := ∃ v, e = .returned v ∧ OwnL w' w.heap.size v (ill xss) ∧ Below w.heap.size w w'
def RetSSB (xss : List (List Int)) (b : Bool) (w : World) (e : Ending) (w' : World) : Prop := ∃ v, e = .returned (.tuple #[v, .bool b]) ∧ OwnL w' w.heap.size v (ill xss) ∧ Below w.heap.size w w'
theorem ownL_nil (w : World) (lo : Nat) : OwnL w lo (.slice none 0 0) (ill []) := ⟨[], ⟨none, 0, rfl, Nat.le_refl _, Nat.zero_le _, fun h => absurd h (by simp)⟩, ⟨rfl, fun i x xs h => by simp at h, fun i j x y _ h => by simp at h⟩, fun x hx => by cases hx⟩
end Go.Proofs.Yteogogcjndfkoab
