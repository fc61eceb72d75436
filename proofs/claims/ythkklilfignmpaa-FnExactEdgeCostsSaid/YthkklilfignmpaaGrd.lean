/-
  Contracts: grids, of both sides.
-/
import Derived.Test.YthkklilfignmpaaMid
import Derived.Test.YthkklilfignmpaaFin
import Derived.Test.YthkklilfignmpaaTw
import Derived.Deep.RegionWith
namespace Go.Proofs.Ythkklilfignmpaa
open Go.RowKit Fl
set_option linter.unusedVariables false

/-- A list, if it is finite. -/
def RetFi (v : Value) (b : Bool) (w : World) (e : Ending) (w' : World) : Prop := e = .returned (.tuple #[if b then v else .slice none 0 0, .bool b]) ∧ ∃ n, w' = w.drewN n
theorem iflI_any (v : Value) (L : List Nat) (w : World) (B : Nat) (h : Rd w B v (fl L)) (hm : L.length ≤ 1048576) (hx : ∀ x ∈ L, x < 2 ^ 32) :
    Calls Try.prog 135 #[v] w (RetFi v (finA L) w) := by
  have HF := Lib.hid (finI_any v L w B h hm hx)
  obtain ⟨A, c, hv, _, _, _⟩ := h
  rw [fl_len] at hv
  subst hv
  cases hf : finA L
  all_goals
    have HT := Lib.hid hf
    clear hf
    go_enter Try.func135, Try.ntmps135
    go_wp2_with (go_at_call 129; refine HF.out.mono ?_; rintro e w' ⟨rfl, n, rfl⟩; rw [HT.out])
    go_ret2
    exact ⟨rfl, _, rfl⟩
theorem Own.nums {w : World} {lo g o n c : Nat} {xs : List Nat} (h : Own w lo (.slice (some ⟨g, o, none⟩) n c) (fl xs)) (h0 : 0 < n) :
    xs.length = n ∧ lo ≤ g ∧ g < w.heap.size ∧ (∀ j, j < n → w.cell? ⟨g, o + j, none⟩ = some (.float .f32 (xs.getD j 0))) ∧ ∀ j, j < n → w.frozen? ⟨g, o + j, none⟩ = false := by
  obtain ⟨A, c', hv, _, _, q⟩ := h
  rw [fl_len] at hv q
  cases hv
  obtain ⟨b, off, e, h1, h2, h3, h4⟩ := q h0
  cases e
  exact ⟨rfl, h1, h2, fun j hj => h3 j _ (fl_getD xs j hj), fun j hj => h4 j hj⟩
theorem Own.openF {w : World} {lo : Nat} {v : Value} {xs : List Nat} (h : Own w lo v (fl xs)) (h0 : 0 < xs.length) : ∃ g o c, v = .slice (some ⟨g, o, none⟩) xs.length c := by
  obtain ⟨A, c', hv, _, _, q⟩ := h
  rw [fl_len] at hv q
  obtain ⟨b, off, e, _⟩ := q h0
  exact ⟨b, off, c', by rw [hv, e]⟩
theorem Own.put1 {w : World} {lo b off n c : Nat} {xs : List Value} (h : Own w lo (.slice (some ⟨b, off, none⟩) n c) xs) (k : Nat) (hk : k < n) (x : Value) :
    Own (w.setCell ⟨b, off + k, none⟩ x) lo (.slice (some ⟨b, off, none⟩) n c) (xs.set k x) := by
  obtain ⟨A, c', hv, h1, h2, h3⟩ := h
  simp only [Value.slice.injEq] at hv
  obtain ⟨rfl, rfl, rfl⟩ := hv
  obtain ⟨b', off', e, hlo, hb, hc, hf⟩ := h3 (by omega)
  cases e
  refine ⟨_, _, by simp, by simpa using h1, h2, fun hp => ⟨b, off, rfl, hlo, by simpa [World.setCell] using hb, fun i y hy => ?_, fun i hi => ?_⟩⟩
  · by_cases hik : i = k
    · subst hik
      have hlt : i < xs.length := hk
      rw [List.getElem?_set_self hlt] at hy
      cases hy
      exact World.cell?_setCell_same _ _ _ (hc i _ (List.getElem?_eq_getElem hlt))
    · rw [List.getElem?_set_ne (by omega)] at hy
      rw [World.cell?_setCell_other _ _ _ _ (fun e => by simp only [Addr.mk.injEq] at e; omega)]
      exact hc i y hy
  · rw [World.frozen?_setCell]; exact hf i (by simpa using hi)
theorem Own.putF {w : World} {lo g o n c : Nat} {xs : List Nat} (h : Own w lo (.slice (some ⟨g, o, none⟩) n c) (fl xs)) (k : Nat) (hk : k < n) (x : Nat) : Own (w.setCell ⟨g, o + k, none⟩ (.float .f32 x)) lo (.slice (some ⟨g, o, none⟩) n c) (fl (xs.set k x)) := by
  rw [← fl_set]; exact h.put1 k hk _
end Go.Proofs.Ythkklilfignmpaa
