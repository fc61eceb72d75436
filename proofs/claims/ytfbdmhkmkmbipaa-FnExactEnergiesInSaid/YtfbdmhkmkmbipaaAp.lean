/-
  Lists that are made number by number from another one.
-/
import Derived.Test.YtfbdmhkmkmbipaaAbs
import Derived.Test.YtfbdmhkmkmbipaaEn
import Derived.Test.YtfbdmhkmkmbipaaMem
import Derived.Lib.SliceRun
import Derived.WalkSpells
import Derived.BigRegion
namespace Go.Proofs.Ytfbdmhkmkmbipaa
open Go.RowKit Fl
set_option linter.unusedVariables false

theorem one_newF (w : World) (x : Value) (E : TypeId) : ∀ j u, [x][j]? = some u → (w.alloc (.cells #[x] E)).cell? ((⟨w.heap.size, 0, none⟩ : Addr).add j) = some u := by
  intro j u hu
  cases j with
  | zero =>
    simp at hu; subst hu
    rw [Go.WideShapes.add_plain]
    exact (cell_of_row _ _ _ _ _ _ (heap_alloc_new w _)).trans rfl
  | succ j => simp at hu
theorem cellsF (xs : List Nat) : ∀ u ∈ fl xs, u.oneCell' = true := by
  intro u hu
  obtain ⟨x, _, rfl⟩ := List.mem_map.1 hu
  rfl
theorem fl_app (xs : List Nat) (x : Nat) : fl (xs ++ [x]) = fl xs ++ [.float .f32 x] := by simp [fl]
theorem own_nilF (w : World) (lo : Nat) : Own w lo (.slice none 0 0) (fl []) := ⟨none, 0, rfl, Nat.le_refl _, Nat.zero_le _, fun h => absurd h (by simp [fl])⟩
theorem rowDrewF {w : World} {base : Nat} {e : TypeId} {size : Nat} {v : Value} {n : Nat} {xs : List Value} (h : w.ownsRow base e size v n xs) (m : Nat) : (w.drewN m).ownsRow base e size v n xs := h
/-- Returns a list. -/
def RetF1 (xs : List Nat) (w : World) (e : Ending) (w' : World) : Prop := ∃ v, e = .returned v ∧ Own w' w.heap.size v (fl xs) ∧ Below w.heap.size w w'
/-- Returns a list and whether there is one. -/
def RetLF (xs : List Nat) (b : Bool) (w : World) (e : Ending) (w' : World) : Prop := ∃ v, e = .returned (.tuple #[v, .bool b]) ∧ Own w' w.heap.size v (fl xs) ∧ Below w.heap.size w w'
/-- Returns this very float. -/
def RetX (c : Nat) (w : World) (e : Ending) (w' : World) : Prop := e = .returned (.float .f32 c) ∧ ∃ n, w' = w.drewN n
/-- Returns this very float, and whether there is one. -/
def RetXB (c : Nat) (b : Bool) (w : World) (e : Ending) (w' : World) : Prop := e = .returned (.tuple #[.float .f32 c, .bool b]) ∧ ∃ n, w' = w.drewN n
theorem retX_of {c : Nat} {w : World} {e : Ending} {w' : World} (h : RetF .f32 c w e w') (hn : isN .f32 c = false) : RetX c w e w' := by
  obtain ⟨r, n, rfl, hr, rfl⟩ := h
  exact ⟨by rw [is_eq hr hn], n, rfl⟩
theorem retX_of' {c : Nat} {w : World} {e : Ending} {w' : World} (h : RetF32 c w e w') (hn : isN .f32 c = false) : RetX c w e w' := by
  obtain ⟨r, n, rfl, hr, rfl⟩ := h
  exact ⟨by rw [is_eq hr hn], n, rfl⟩
theorem retXB_of {c : Nat} {b : Bool} {w : World} {e : Ending} {w' : World} (h : RetFB c b w e w') (hn : isN .f32 c = false) : RetXB c b w e w' := by
  obtain ⟨r, n, rfl, hr, rfl⟩ := h
  exact ⟨by rw [is_eq hr hn], n, rfl⟩
/-- Returns a float that is worth c; with whether there is one; two floats; an integer and a float. The world only grew. -/
def RetCl (c : Nat) (w : World) (e : Ending) (w' : World) : Prop := ∃ r, e = .returned (.float .f32 r) ∧ Is .f32 r c ∧ Below w.heap.size w w'
def RetB1 (c : Nat) (b : Bool) (w : World) (e : Ending) (w' : World) : Prop := ∃ r, e = .returned (.tuple #[.float .f32 r, .bool b]) ∧ Is .f32 r c ∧ Below w.heap.size w w'
def RetB2 (c d : Nat) (b : Bool) (w : World) (e : Ending) (w' : World) : Prop := ∃ r s, e = .returned (.tuple #[.float .f32 r, .float .f32 s, .bool b]) ∧ Is .f32 r c ∧ Is .f32 s d ∧ Below w.heap.size w w'
def RetIB (k : Int) (c : Nat) (b : Bool) (w : World) (e : Ending) (w' : World) : Prop := ∃ r, e = .returned (.tuple #[.int .i64 k, .float .f32 r, .bool b]) ∧ Is .f32 r c ∧ Below w.heap.size w w'
theorem retCl_of {c : Nat} {w : World} {e : Ending} {w' : World} (h : RetF32 c w e w') : RetCl c w e w' := by
  obtain ⟨r, n, rfl, hr, rfl⟩ := h
  exact ⟨r, rfl, hr, below_drawn (Below.refl _ _) _⟩
theorem retCl_of' {c : Nat} {w : World} {e : Ending} {w' : World} (h : RetF .f32 c w e w') : RetCl c w e w' := by
  obtain ⟨r, n, rfl, hr, rfl⟩ := h
  exact ⟨r, rfl, hr, below_drawn (Below.refl _ _) _⟩
theorem retB1_of {c : Nat} {b : Bool} {w : World} {e : Ending} {w' : World} (h : RetFB c b w e w') : RetB1 c b w e w' := by
  obtain ⟨r, n, rfl, hr, rfl⟩ := h
  exact ⟨r, rfl, hr, below_drawn (Below.refl _ _) _⟩
theorem is_nought : Is .f32 0 0 := is_lit (by decide)
theorem retB1_no {w w' : World} (h : Below w.heap.size w w') : RetB1 0 false w (.returned (.tuple #[.float .f32 0, .bool false])) w' := ⟨_, rfl, is_nought, h⟩
theorem retB2_no {w w' : World} (h : Below w.heap.size w w') : RetB2 0 0 false w (.returned (.tuple #[.float .f32 0, .float .f32 0, .bool false])) w' := ⟨_, _, rfl, is_nought, is_nought, h⟩
theorem retIB_no {w w' : World} (h : Below w.heap.size w w') : RetIB 0 0 false w (.returned (.tuple #[.int .i64 0, .float .f32 0, .bool false])) w' := ⟨_, rfl, is_nought, h⟩
def mapK (f : Nat → Nat) (xs : List Nat) (k : Nat) : List Nat := (List.range k).map fun i => f (xs.getD i 0)
theorem mapK_succ (f : Nat → Nat) (xs : List Nat) (k x : Nat) (h : xs[k]? = some x) : mapK f xs (k + 1) = mapK f xs k ++ [f x] := by
  unfold mapK
  rw [List.range_succ, List.map_append]
  simp [List.getD, h]
theorem mapK_len (f : Nat → Nat) (xs : List Nat) (k : Nat) : (mapK f xs k).length = k := by simp [mapK]
def ApRel (w0 : World) (f : Nat → Nat) (xs : List Nat) (v i : Value) (wr : World) : Prop := ∃ k : Nat, k ≤ xs.length ∧ i = .int .i64 k ∧ wr.ownsRow w0.heap.size 23 1 v k (fl (mapK f xs k)) ∧ Below w0.heap.size w0 wr
theorem fin_at {xs : List Nat} (h : finA xs = true) {k : Nat} (hk : k < xs.length) : finB .f32 xs[k] = true := finA_out h k hk
end Go.Proofs.Ytfbdmhkmkmbipaa
