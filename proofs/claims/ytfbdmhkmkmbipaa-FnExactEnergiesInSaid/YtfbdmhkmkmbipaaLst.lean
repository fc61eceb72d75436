/-
  Lists of bools and of integers that grow, of the call's own.
-/
import Derived.Test.YtfbdmhkmkmbipaaBls
import Derived.Test.YtfbdmhkmkmbipaaAp
import Derived.BigRegion
namespace Go.Proofs.Ytfbdmhkmkmbipaa
open Go.RowKit Fl
set_option linter.unusedVariables false

theorem cellsB (xs : List Bool) : ∀ u ∈ bl xs, u.oneCell' = true := by
  intro u hu
  obtain ⟨x, _, rfl⟩ := List.mem_map.1 hu
  rfl
theorem cellsI (xs : List Int) : ∀ u ∈ il xs, u.oneCell' = true := by
  intro u hu
  obtain ⟨x, _, rfl⟩ := List.mem_map.1 hu
  rfl
theorem bl_app (xs : List Bool) (x : Bool) : bl (xs ++ [x]) = bl xs ++ [.bool x] := by simp [bl]
theorem il_app (xs : List Int) (x : Int) : il (xs ++ [x]) = il xs ++ [.int .i64 x] := by simp [il]
theorem own_nilB (w : World) (lo : Nat) : Own w lo (.slice none 0 0) (bl []) := ⟨none, 0, rfl, Nat.le_refl _, Nat.zero_le _, fun h => absurd h (by simp [bl])⟩
theorem own_nilI (w : World) (lo : Nat) : Own w lo (.slice none 0 0) (il []) := ⟨none, 0, rfl, Nat.le_refl _, Nat.zero_le _, fun h => absurd h (by simp [il])⟩
def RowB (w0 : World) (v : Value) (L : List Bool) (wr : World) : Prop := wr.ownsRow w0.heap.size 4 1 v L.length (bl L) ∧ Below w0.heap.size w0 wr
def RowI (w0 : World) (v : Value) (L : List Int) (wr : World) : Prop := wr.ownsRow w0.heap.size 2 1 v L.length (il L) ∧ Below w0.heap.size w0 wr
theorem RowB.lit (w : World) : RowB w (.slice (some ⟨w.heap.size, 0, none⟩) 0 0) [] (w.alloc (.cells #[] 4)) :=
  ⟨World.ownsRow_made w #[] 0 (Nat.le_refl _) (Nat.zero_le _) rfl, (Below.refl _ _).alloc (Nat.le_refl _) _⟩
theorem RowI.lit (w : World) : RowI w (.slice (some ⟨w.heap.size, 0, none⟩) 0 0) [] (w.alloc (.cells #[] 2)) :=
  ⟨World.ownsRow_made w #[] 0 (Nat.le_refl _) (Nat.zero_le _) rfl, (Below.refl _ _).alloc (Nat.le_refl _) _⟩
theorem RowB.made {w w1 : World} {v : Value} (h : w1.ownsRow w.heap.size 4 1 v 0 []) (hg : w.grownBy w1 none) : RowB w v [] w1 :=
  ⟨h, (Below.refl _ _).grown hg (Nat.le_refl _) (fun j hj => absurd hj (by simp))⟩
theorem RowI.made {w w1 : World} {v : Value} (h : w1.ownsRow w.heap.size 2 1 v 0 []) (hg : w.grownBy w1 none) : RowI w v [] w1 :=
  ⟨h, (Below.refl _ _).grown hg (Nat.le_refl _) (fun j hj => absurd hj (by simp))⟩
theorem RowB.litD (w : World) (n : Nat) : RowB w (.slice (some ⟨w.heap.size, 0, none⟩) 0 0) [] ((w.drewN n).alloc (.cells #[] 4)) :=
  ⟨World.ownsRow_made (w.drewN n) #[] 0 (Nat.le_refl _) (Nat.zero_le _) rfl, (below_drawn (Below.refl _ _) _).alloc (Nat.le_refl _) _⟩
theorem RowB.madeD {w w1 : World} {v : Value} {n : Nat} (h : w1.ownsRow w.heap.size 4 1 v 0 []) (hg : (w.drewN n).grownBy w1 none) : RowB w v [] w1 :=
  ⟨h, (below_drawn (Below.refl _ _) _).grown hg (Nat.le_refl _) (fun j hj => absurd hj (by simp))⟩
theorem RowB.push {w0 wa w1 : World} {v' : Value} {L : List Bool} {y : Bool} {row : Option Nat} (ho : w1.ownsRow w0.heap.size 4 1 v' (L.length + 1) (bl L ++ [.bool y])) (hb : Below w0.heap.size w0 wa) (hg : wa.grownBy w1 row) (hr : ∀ j, row = some j → w0.heap.size ≤ j) : RowB w0 v' (L ++ [y]) w1 :=
  ⟨by rw [bl_app, List.length_append]; exact ho, hb.grown hg hb.size hr⟩
theorem RowI.litD (w : World) (n : Nat) : RowI w (.slice (some ⟨w.heap.size, 0, none⟩) 0 0) [] ((w.drewN n).alloc (.cells #[] 2)) :=
  ⟨World.ownsRow_made (w.drewN n) #[] 0 (Nat.le_refl _) (Nat.zero_le _) rfl, (below_drawn (Below.refl _ _) _).alloc (Nat.le_refl _) _⟩
theorem RowI.madeD {w w1 : World} {v : Value} {n : Nat} (h : w1.ownsRow w.heap.size 2 1 v 0 []) (hg : (w.drewN n).grownBy w1 none) : RowI w v [] w1 :=
  ⟨h, (below_drawn (Below.refl _ _) _).grown hg (Nat.le_refl _) (fun j hj => absurd hj (by simp))⟩
theorem RowI.push {w0 wa w1 : World} {v' : Value} {L : List Int} {y : Int} {row : Option Nat} (ho : w1.ownsRow w0.heap.size 2 1 v' (L.length + 1) (il L ++ [.int .i64 y])) (hb : Below w0.heap.size w0 wa) (hg : wa.grownBy w1 row) (hr : ∀ j, row = some j → w0.heap.size ≤ j) : RowI w0 v' (L ++ [y]) w1 :=
  ⟨by rw [il_app, List.length_append]; exact ho, hb.grown hg hb.size hr⟩
theorem RowB.drewN {w0 wr : World} {v : Value} {L : List Bool} (h : RowB w0 v L wr) (n : Nat) : RowB w0 v L (wr.drewN n) := ⟨h.1, below_drawn h.2 _⟩
theorem RowI.drewN {w0 wr : World} {v : Value} {L : List Int} (h : RowI w0 v L wr) (n : Nat) : RowI w0 v L (wr.drewN n) := ⟨h.1, below_drawn h.2 _⟩
theorem RowB.own {w0 wr : World} {v : Value} {L : List Bool} (h : RowB w0 v L wr) : Own wr w0.heap.size v (bl L) := Own.row h.1
theorem RowI.own {w0 wr : World} {v : Value} {L : List Int} (h : RowI w0 v L wr) : Own wr w0.heap.size v (il L) := Own.row h.1
def RowF (w0 : World) (v : Value) (L : List Nat) (wr : World) : Prop := wr.ownsRow w0.heap.size 23 1 v L.length (fl L) ∧ Below w0.heap.size w0 wr
theorem RowF.lit (w : World) : RowF w (.slice (some ⟨w.heap.size, 0, none⟩) 0 0) [] (w.alloc (.cells #[] 23)) :=
  ⟨World.ownsRow_made w #[] 0 (Nat.le_refl _) (Nat.zero_le _) rfl, (Below.refl _ _).alloc (Nat.le_refl _) _⟩
theorem RowF.made {w w1 : World} {v : Value} (h : w1.ownsRow w.heap.size 23 1 v 0 []) (hg : w.grownBy w1 none) : RowF w v [] w1 :=
  ⟨h, (Below.refl _ _).grown hg (Nat.le_refl _) (fun j hj => absurd hj (by simp))⟩
theorem RowF.litD (w : World) (n : Nat) : RowF w (.slice (some ⟨w.heap.size, 0, none⟩) 0 0) [] ((w.drewN n).alloc (.cells #[] 23)) :=
  ⟨World.ownsRow_made (w.drewN n) #[] 0 (Nat.le_refl _) (Nat.zero_le _) rfl, (below_drawn (Below.refl _ _) _).alloc (Nat.le_refl _) _⟩
theorem RowF.madeD {w w1 : World} {v : Value} {n : Nat} (h : w1.ownsRow w.heap.size 23 1 v 0 []) (hg : (w.drewN n).grownBy w1 none) : RowF w v [] w1 :=
  ⟨h, (below_drawn (Below.refl _ _) _).grown hg (Nat.le_refl _) (fun j hj => absurd hj (by simp))⟩
theorem RowF.push {w0 wa w1 : World} {v' : Value} {L : List Nat} {y : Nat} {row : Option Nat} (ho : w1.ownsRow w0.heap.size 23 1 v' (L.length + 1) (fl L ++ [.float .f32 y])) (hb : Below w0.heap.size w0 wa) (hg : wa.grownBy w1 row) (hr : ∀ j, row = some j → w0.heap.size ≤ j) : RowF w0 v' (L ++ [y]) w1 :=
  ⟨by rw [fl_app, List.length_append]; exact ho, hb.grown hg hb.size hr⟩
theorem RowF.drewN {w0 wr : World} {v : Value} {L : List Nat} (h : RowF w0 v L wr) (n : Nat) : RowF w0 v L (wr.drewN n) := ⟨h.1, below_drawn h.2 _⟩
theorem RowF.own {w0 wr : World} {v : Value} {L : List Nat} (h : RowF w0 v L wr) : Own wr w0.heap.size v (fl L) := Own.row h.1
/-- Returns a list of bools, of integers; and whether there is one. -/
def RetBl1 (xs : List Bool) (w : World) (e : Ending) (w' : World) : Prop := ∃ v, e = .returned v ∧ Own w' w.heap.size v (bl xs) ∧ Below w.heap.size w w'
def RetBl (xs : List Bool) (b : Bool) (w : World) (e : Ending) (w' : World) : Prop := ∃ v, e = .returned (.tuple #[v, .bool b]) ∧ Own w' w.heap.size v (bl xs) ∧ Below w.heap.size w w'
def RetJ1 (xs : List Int) (w : World) (e : Ending) (w' : World) : Prop := ∃ v, e = .returned v ∧ Own w' w.heap.size v (il xs) ∧ Below w.heap.size w w'
def RetJ (xs : List Int) (b : Bool) (w : World) (e : Ending) (w' : World) : Prop := ∃ v, e = .returned (.tuple #[v, .bool b]) ∧ Own w' w.heap.size v (il xs) ∧ Below w.heap.size w w'
theorem retBl_nil {w w' : World} (h : Below w.heap.size w w') : RetBl [] false w (.returned (.tuple #[.slice none 0 0, .bool false])) w' := ⟨_, rfl, own_nilB _ _, h⟩
theorem retLFn {w w' : World} (h : Below w.heap.size w w') : RetLF [] false w (.returned (.tuple #[.slice none 0 0, .bool false])) w' := ⟨_, rfl, own_nilF _ _, h⟩
theorem retJ_nil {w w' : World} (h : Below w.heap.size w w') : RetJ [] false w (.returned (.tuple #[.slice none 0 0, .bool false])) w' := ⟨_, rfl, own_nilI _ _, h⟩
end Go.Proofs.Ytfbdmhkmkmbipaa
