/-
  Contracts: the other numbers of a pair, of both sides.
-/
import Derived.Test.YthkklilfignmpaaVpS
import Derived.Test.YthkklilfignmpaaTw
import Derived.BigRegion
import Derived.WalkSpells
import Derived.Lib.SliceRun
namespace Go.Proofs.Ythkklilfignmpaa
open Go.RowKit Fl
set_option linter.unusedVariables false

/-- One number of a list of the call's own is written. -/
theorem Own.put {w : World} {lo b off n c : Nat} {xs : List Value} (h : Own w lo (.slice (some ⟨b, off, none⟩) n c) xs) (k : Nat) (hk : k < n) (x : Value) :
    Own (w.setCell ⟨b, off + k, none⟩ x) lo (.slice (some ⟨b, off, none⟩) n c) (xs.set k x) := by
  obtain ⟨A, c', hv, h1, h2, h3⟩ := h
  simp only [Value.slice.injEq] at hv
  obtain ⟨rfl, rfl, rfl⟩ := hv
  obtain ⟨b', off', e, hlo, hb, hc, hf⟩ := h3 (by omega)
  cases e
  refine ⟨_, _, by simp, by simpa using h1, h2, fun hp => ⟨b, off, rfl, hlo, by simpa [World.setCell] using hb, fun i y hy => ?_, fun i hi => ?_⟩⟩
  · by_cases hik : i = k
    · subst hik
      have hlt : i < xs.length := hk
      rw [List.getElem?_set_self hlt] at hy
      cases hy
      exact World.cell?_setCell_same _ _ _ (hc i _ (List.getElem?_eq_getElem hlt))
    · rw [List.getElem?_set_ne (by omega)] at hy
      rw [World.cell?_setCell_other _ _ _ _ (fun e => by simp only [Addr.mk.injEq] at e; omega)]
      exact hc i y hy
  · rw [World.frozen?_setCell]; exact hf i (by simpa using hi)

theorem rset {α : Type} {f g : Nat → α} {n p : Nat} {x : α} (hp : p < n) (hx : g p = x) (h : ∀ i, i < n → i ≠ p → f i = g i) : ((List.range n).map f).set p x = (List.range n).map g := by
  apply List.ext_getElem?
  intro i
  rw [List.getElem?_set]
  by_cases hi : p = i
  · subst hi; simp [hp, hx]
  · rw [if_neg hi]
    by_cases hn : i < n
    · simp [hn, h i hn (fun e => hi e.symm)]
    · simp [hn]
theorem one_newF (w : World) (x : Value) (E : TypeId) : ∀ j u, [x][j]? = some u → (w.alloc (.cells #[x] E)).cell? ((⟨w.heap.size, 0, none⟩ : Addr).add j) = some u := by
  intro j u hu
  cases j with
  | zero =>
    simp at hu; subst hu
    rw [Go.WideShapes.add_plain]
    exact (cell_of_row _ _ _ _ _ _ (heap_alloc_new w _)).trans rfl
  | succ j => simp at hu
theorem cellsF (xs : List Nat) : ∀ u ∈ fl xs, u.oneCell' = true := by
  intro u hu
  obtain ⟨x, _, rfl⟩ := List.mem_map.1 hu
  rfl
theorem fl_app (xs : List Nat) (x : Nat) : fl (xs ++ [x]) = fl xs ++ [.float .f32 x] := by simp [fl]
theorem own_nilF (w : World) (lo : Nat) : Own w lo (.slice none 0 0) (fl []) := ⟨none, 0, rfl, Nat.le_refl _, Nat.zero_le _, fun h => absurd h (by simp [fl])⟩
def RetF1 (xs : List Nat) (w : World) (e : Ending) (w' : World) : Prop := ∃ v, e = .returned v ∧ Own w' w.heap.size v (fl xs) ∧ Below w.heap.size w w'
/-- Returns a list and whether there is one. -/
def RetLF (xs : List Nat) (b : Bool) (w : World) (e : Ending) (w' : World) : Prop := ∃ v, e = .returned (.tuple #[v, .bool b]) ∧ Own w' w.heap.size v (fl xs) ∧ Below w.heap.size w w'

def ngF (x : Nat) : Nat := Op.negFloat .f32 x
/-- The other number with the index k. -/
def hiA (xs : List Nat) (k : Nat) : Nat := if k % 2 = 1 then ngF (xs.getD (xs.length - 1 - k) 0) else xs.getD (xs.length - 1 - k) 0
def hiK (xs : List Nat) (k : Nat) : List Nat := (List.range k).map (hiA xs)
theorem hiK_succ (xs : List Nat) (k : Nat) : hiK xs (k + 1) = hiK xs k ++ [hiA xs k] := by unfold hiK; rw [List.range_succ, List.map_append]; rfl
theorem hiK_len (xs : List Nat) (k : Nat) : (hiK xs k).length = k := by simp [hiK]
def HiRel (w0 : World) (xs : List Nat) (v i : Value) (wr : World) : Prop := ∃ k : Nat, k ≤ xs.length ∧ i = .int .i64 k ∧ wr.ownsRow w0.heap.size 23 1 v k (fl (hiK xs k)) ∧ Below w0.heap.size w0 wr
set_option maxRecDepth 100000 in
set_option maxHeartbeats 2000000 in
theorem hiP_any (g : Nat) (v : Value) (xs : List Nat) (w : World) (h : Rd w w.heap.size v (fl xs)) (hg : g < w.heap.size) (hcell : w.cell? ⟨g, 0, none⟩ = some v) (h1 : 1 ≤ xs.length) (h8 : xs.length ≤ 8) :
    Calls Try.prog 170 #[.pointer (some ⟨g, 0, none⟩)] w (RetF1 (hiK xs xs.length) w) := by
  obtain ⟨i0, hi, hz0, hz1, hz2⟩ := info_parts infoF
  obtain ⟨A, c, hv, q1, q2, q3⟩ := h
  rw [fl_len] at hv q1 q3
  subst hv
  obtain ⟨b, off, rfl, hbl, hcc⟩ := q3 (by omega)
  have HCC := Lib.hid hcc
  clear q3 hcc
  have hb0 : Below w.heap.size w (w.alloc (Obj.cells #[] 23)) := (Below.refl _ _).alloc (Nat.le_refl _) _
  have hcell0 := (hb0.cell (p := ⟨g, 0, none⟩) hg).trans hcell
  have hng : ∀ x, Op.unary .neg (.float .f32 x) = pure (.float .f32 (Op.negFloat .f32 x)) := fun _ => rfl
  go_enter Try.func170, Try.ntmps170
  go_wp2
  have hown : (w.alloc (Obj.cells #[] 23)).ownsRow w.heap.size 23 1 (.slice (some ⟨w.heap.size, 0, none⟩) 0 0) 0 (fl []) := World.ownsRow_made w #[] 0 (Nat.le_refl _) (Nat.zero_le _) rfl
  go_loopw [3, 5] (HiRel w xs) (fun _ i _ => xs.length - (intOf i).toNat)
  case atStart => exact ⟨0, Nat.zero_le _, rfl, hown, hb0⟩
  case round =>
    clear hown hb0 hcell0
    obtain ⟨k, hk, rfl, hown, hb⟩ := hrel
    have HOW := Lib.hid hown
    have HB := Lib.hid hb
    clear hown hb
    by_cases hlt : k < xs.length
    · have hbw : b < wr.heap.size := by have := HB.out.size; omega
      have hc1 := (HB.out.cell (p := ⟨g, 0, none⟩) hg).trans hcell
      obtain ⟨q, hq⟩ : ∃ q : Nat, q = xs.length - 1 - k := ⟨_, rfl⟩
      have HQ := Lib.hid hq
      have hqi : (xs.length : Int) - 1 - (k : Int) = (q : Int) := by omega
      have hql : q < xs.length := by omega
      obtain ⟨x, hx⟩ : ∃ x, xs.getD q 0 = x := ⟨_, rfl⟩
      have hs1 : wr.cell? ⟨b, off + q, none⟩ = some (.float .f32 x) := by
        rw [← hx, (HB.out.cell (p := ⟨b, off + q, none⟩) hbl).trans (HCC.out q _ (fl_get xs q hql))]
        simp [List.getD, hql]
      clear hq
      by_cases he : k % 2 = 1
      · have he' : (((k : Nat) : Int) % 2 == 1) = true := by rw [beq_iff_eq]; omega
        have HA := Lib.hid (show hiK xs (k + 1) = hiK xs k ++ [(Op.negFloat .f32 x)] by rw [hiK_succ]; unfold hiA; rw [if_pos he, ← HQ.out, hx]; rfl)
        clear he hx
        go_wp2_with (at_builtin; refine wpList_append_own _ rfl _ _ 22 rfl w.heap.size 23 i0 (.float .f32 0) 1 4 Try.underlying22 hi hz0 hz1 hz2 rfl (by decide) _ _ _ rfl (HOW.out.alloc _) ⟨wr.heap.size, 0, none⟩ 1 1 [.float .f32 (Op.negFloat .f32 x)] rfl rfl (one_newF _ _ _) (cellsF [(Op.negFloat .f32 x)]) (by unfold maxLen; omega) (by omega) (by simp; have := HB.out.size; omega) ?_; intro v' w1 hown' hgrow _)
        have hown2 : w1.ownsRow w.heap.size 23 1 v' (k + 1) (fl (hiK xs (k + 1))) := by rw [HA.out, fl_app]; exact hown'
        have hb2 : Below w.heap.size w w1 := (HB.out.alloc (by exact HB.out.size) _).grown hgrow (by simp; have := HB.out.size; omega) (fun j hj => (HOW.out.lt j hj).1)
        have HO2 := Lib.hid hown2
        have HB2 := Lib.hid hb2
        clear hown' hgrow hown2 hb2
        go_wp2
        go_roundw
        case rel => exact ⟨k + 1, by omega, by go_num, HO2.out, HB2.out⟩
        case measure => simp [intOf]; omega
      · have he' : (((k : Nat) : Int) % 2 == 1) = false := by rw [beq_eq_false_iff_ne]; omega
        have HA := Lib.hid (show hiK xs (k + 1) = hiK xs k ++ [x] by rw [hiK_succ]; unfold hiA; rw [if_neg he, ← HQ.out, hx])
        clear he hx
        go_wp2_with (at_builtin; refine wpList_append_own _ rfl _ _ 22 rfl w.heap.size 23 i0 (.float .f32 0) 1 4 Try.underlying22 hi hz0 hz1 hz2 rfl (by decide) _ _ _ rfl (HOW.out.alloc _) ⟨wr.heap.size, 0, none⟩ 1 1 [.float .f32 x] rfl rfl (one_newF _ _ _) (cellsF [x]) (by unfold maxLen; omega) (by omega) (by simp; have := HB.out.size; omega) ?_; intro v' w1 hown' hgrow _)
        have hown2 : w1.ownsRow w.heap.size 23 1 v' (k + 1) (fl (hiK xs (k + 1))) := by rw [HA.out, fl_app]; exact hown'
        have hb2 : Below w.heap.size w w1 := (HB.out.alloc (by exact HB.out.size) _).grown hgrow (by simp; have := HB.out.size; omega) (fun j hj => (HOW.out.lt j hj).1)
        have HO2 := Lib.hid hown2
        have HB2 := Lib.hid hb2
        clear hown' hgrow hown2 hb2
        go_wp2
        go_roundw
        case rel => exact ⟨k + 1, by omega, by go_num, HO2.out, HB2.out⟩
        case measure => simp [intOf]; omega
    · obtain rfl : k = xs.length := by omega
      go_wp2
      go_ret
      exact ⟨_, rfl, Own.row HOW.out, HB.out⟩
def hiR (xs : List Nat) : List Nat := if vpB xs then hiK xs xs.length else []
theorem hiR_len (xs : List Nat) : (hiR xs).length ≤ 1048576 := by
  unfold hiR
  split
  · rename_i h
    have := (vpB_len h).2.1
    rw [hiK_len]; omega
  · simp
end Go.Proofs.Ythkklilfignmpaa
