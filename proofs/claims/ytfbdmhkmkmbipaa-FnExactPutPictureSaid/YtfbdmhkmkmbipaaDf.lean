/-
  Contracts: clones, and lists less other ones, of the program.
-/
import Derived.Test.YtfbdmhkmkmbipaaAp
import Derived.Test.YtfbdmhkmkmbipaaBox
namespace Go.Proofs.Ytfbdmhkmkmbipaa
open Go.RowKit Fl
set_option linter.unusedVariables false

/-- One number of a list of the call's own is written. -/
theorem Own.put {w : World} {lo b off n c : Nat} {xs : List Value} (h : Own w lo (.slice (some ⟨b, off, none⟩) n c) xs) (k : Nat) (hk : k < n) (x : Value) :
    Own (w.setCell ⟨b, off + k, none⟩ x) lo (.slice (some ⟨b, off, none⟩) n c) (xs.set k x) := by
  obtain ⟨A, c', hv, h1, h2, h3⟩ := h
  simp only [Value.slice.injEq] at hv
  obtain ⟨rfl, rfl, rfl⟩ := hv
  obtain ⟨b', off', e, hlo, hb, hc, hf⟩ := h3 (by omega)
  cases e
  refine ⟨_, _, by simp, by simpa using h1, h2, fun hp => ⟨b, off, rfl, hlo, by simpa [World.setCell] using hb, fun i y hy => ?_, fun i hi => ?_⟩⟩
  · by_cases hik : i = k
    · subst hik
      have hlt : i < xs.length := hk
      rw [List.getElem?_set_self hlt] at hy
      cases hy
      exact World.cell?_setCell_same _ _ _ (hc i _ (List.getElem?_eq_getElem hlt))
    · rw [List.getElem?_set_ne (by omega)] at hy
      rw [World.cell?_setCell_other _ _ _ _ (fun e => by simp only [Addr.mk.injEq] at e; omega)]
      exact hc i y hy
  · rw [World.frozen?_setCell]; exact hf i (by simpa using hi)

theorem rset {α : Type} {f g : Nat → α} {n p : Nat} {x : α} (hp : p < n) (hx : g p = x) (h : ∀ i, i < n → i ≠ p → f i = g i) : ((List.range n).map f).set p x = (List.range n).map g := by
  apply List.ext_getElem?
  intro i
  rw [List.getElem?_set]
  by_cases hi : p = i
  · subst hi; simp [hp, hx]
  · rw [if_neg hi]
    by_cases hn : i < n
    · simp [hn, h i hn (fun e => hi e.symm)]
    · simp [hn]
set_option maxHeartbeats 1000000 in
theorem cloneF_any (a : Addr) (c : Nat) (xs : List Nat) (w : World) (h : Rd w w.heap.size (.slice (some a) xs.length c) (fl xs)) (hm : xs.length ≤ 1048576) :
    Calls Try.prog 82 #[.slice (some a) xs.length c] w (RetF1 xs w) := by
  obtain ⟨i0, hi, hz0, hz1, hz2⟩ := info_parts infoF
  obtain ⟨A, c', hv, hc1, hc2, hcell⟩ := id h
  rw [fl_len] at hv hc1 hcell
  have hcl : ∀ j u, (fl xs)[j]? = some u → (w.alloc (Obj.cells #[] 23)).cell? (a.add j) = some u := by
    intro j u hu
    have hj := (List.getElem?_eq_some_iff.1 hu).1
    rw [fl_len] at hj
    obtain ⟨b, off, e, hb, hcc⟩ := hcell (by omega)
    simp only [Value.slice.injEq] at hv
    obtain ⟨e1, _, _⟩ := hv
    rw [e] at e1
    cases e1
    rw [Go.WideShapes.add_plain]
    exact (((Below.refl _ _).alloc (Nat.le_refl _) _).cell (p := ⟨b, off + j, none⟩) hb).trans (hcc j u hu)
  have hown : (w.alloc (Obj.cells #[] 23)).ownsRow w.heap.size 23 1 (.slice (some ⟨w.heap.size, 0, none⟩) 0 0) 0 (fl []) := World.ownsRow_made w #[] 0 (Nat.le_refl _) (Nat.zero_le _) rfl
  have hb0 : Below w.heap.size w (w.alloc (Obj.cells #[] 23)) := (Below.refl _ _).alloc (Nat.le_refl _) _
  have hnil : ∀ (W : World), (binOp .eql 22 (.slice (some a) xs.length c) (.slice none 0 0)).run Try.prog W = .ok (.bool false) W := fun W => Lib.run_eql_slice_nil W _ _ (some a) _ _ _ _ Try.underlying22
  clear hv hc1 hcell
  go_enter Try.func82, Try.ntmps82
  go_wp2_with (at_builtin; refine wpList_append_own _ rfl _ _ 22 rfl w.heap.size 23 i0 (.float .f32 0) 1 4 Try.underlying22 hi hz0 hz1 hz2 rfl (by decide) _ _ _ rfl hown a xs.length c (fl xs) rfl (by rw [fl_len]; omega) hcl (cellsF xs) (by unfold maxLen; omega) (by omega) (by simp) ?_; intro v' w1 hown' hgrow _)
  go_ret
  refine ⟨_, rfl, ?_, hb0.grown hgrow (by simp) (fun j hj => (hown.lt j hj).1)⟩
  have := Own.row hown'
  simpa [fl] using this


/-- The list less another one, below k. -/
def dfA (xs ys : List Nat) (k i : Nat) : Nat := if i < k then ar .sub .f32 (xs.getD i 0) (ys.getD i 0) else xs.getD i 0
def dfK (xs ys : List Nat) (k : Nat) : List Nat := (List.range xs.length).map (dfA xs ys k)
def dfL (xs ys : List Nat) : List Nat := (List.range xs.length).map fun i => ar .sub .f32 (xs.getD i 0) (ys.getD i 0)
theorem dfL_len (xs ys : List Nat) : (dfL xs ys).length = xs.length := by simp [dfL]
theorem dfL_get (xs ys : List Nat) (k : Nat) (h1 : k < xs.length) (h2 : k < ys.length) : (dfL xs ys)[k]'(by rw [dfL_len]; exact h1) = ar .sub .f32 xs[k] ys[k] := by simp [dfL, h1, h2]
theorem dfK_len (xs ys : List Nat) (k : Nat) : (dfK xs ys k).length = xs.length := by simp [dfK]
theorem dfK_zero (xs ys : List Nat) : dfK xs ys 0 = xs := by
  apply List.ext_getElem?
  intro i
  unfold dfK dfA
  by_cases h : i < xs.length
  · simp [h]
  · simp [h]
theorem dfK_all (xs ys : List Nat) : dfK xs ys xs.length = dfL xs ys := by
  unfold dfK dfL
  apply List.map_congr_left
  intro i hi
  unfold dfA
  rw [if_pos (List.mem_range.1 hi)]
theorem dfK_at (xs ys : List Nat) (k : Nat) (h : k < xs.length) : (fl (dfK xs ys k))[k]? = some (.float .f32 xs[k]) := by
  have : dfA xs ys k k = xs[k] := by unfold dfA; rw [if_neg (by omega)]; simp [h]
  simp only [fl, dfK, List.getElem?_map, List.getElem?_range h, Option.map_some, this]
theorem dfK_step (xs ys : List Nat) (k : Nat) (h1 : k < xs.length) (h2 : k < ys.length) : (fl (dfK xs ys k)).set k (.float .f32 (ar .sub .f32 xs[k] ys[k])) = fl (dfK xs ys (k + 1)) := by
  rw [fl_set]
  congr 1
  unfold dfK
  refine rset h1 ?_ (fun i hi hne => ?_)
  · unfold dfA; rw [if_pos (by omega)]; simp [h1, h2]
  · unfold dfA
    by_cases h3 : i < k
    · rw [if_pos h3, if_pos (by omega)]
    · rw [if_neg h3, if_neg (by omega)]
def DfRel (w0 : World) (lo b off c : Nat) (xs ys : List Nat) (i : Value) (wr : World) : Prop :=
  ∃ k : Nat, k ≤ xs.length ∧ i = .int .i64 k ∧ Own wr lo (.slice (some ⟨b, off, none⟩) xs.length c) (fl (dfK xs ys k)) ∧ Below lo w0 wr
end Go.Proofs.Ytfbdmhkmkmbipaa
