/-
  A struct of a slice of 32-bit floats and a 32-bit float that came in (no program in it).
-/
import Derived.Test.YtfbdmhkmkmbipaaRd
import Derived.Lib.SmallJoins
namespace Go.Proofs.Ytfbdmhkmkmbipaa
open Go.RowKit Go.WideShapes Go.ChangeShapes

section
variable {H : Type} {enc : TypeId × Value → H} {P : Program} {w : World} {spare : Nat → Bool}
/-- A slice of 32-bit floats that came in reads as their bits. -/
theorem open_floatsT {t e : TypeId} {fuel : Nat} {v : Value} {y : DataW H × List MemPlace} (ht : P.underlying t = some (.slice e)) (he : P.underlying e = some (.float .f32)) (hc : P.cellsOf e = 1)
    (hf : DataW.trod enc P w 0 spare true fuel t [v] = some y) (hlt : ∀ x ∈ y.2, x.block < w.heap.size) :
    ∃ xs : List Nat, Rd w w.heap.size v (xs.map (.float .f32)) ∧ ∀ x ∈ xs, x < 2 ^ 32 := by
  obtain ⟨a0, len0, cap0, hv0⟩ := Go.Joins.slice_form ht hf
  simp only [List.cons.injEq, and_true] at hv0
  subst hv0
  rcases Go.Deep.open_slice1 ht hc hf with ⟨h0, _⟩ | ⟨a, len, cap, m, n, V, D, Pl, hcs, _, hl, hm, hmm, hx, hel⟩
  · simp at h0
    obtain ⟨rfl, rfl, rfl⟩ := h0
    exact ⟨[], ⟨none, 0, rfl, Nat.le_refl _, Nat.zero_le _, fun h => absurd h (by simp)⟩, by simp⟩
  · simp at hcs
    obtain ⟨rfl, rfl, rfl⟩ := hcs
    have hml : len0 ≤ m := by rw [hmm]; split <;> omega
    have each : ∀ i, i < m → ∃ x, V i = .float .f32 x ∧ x < 2 ^ 32 := by
      intro i hi
      obtain ⟨_, htr⟩ := hel i hi
      cases n with
      | zero => simp [DataW.trod] at htr
      | succ n =>
        unfold DataW.trod at htr
        rw [he] at htr
        cases hV : V i with
        | float k x =>
          rw [hV] at htr
          by_cases hw : (Lit.float .f32 x).wf = true
          · cases k with
            | f32 => exact ⟨x, rfl, by simpa [Lit.wf] using hw⟩
            | f64 => simp at htr
          · cases k with
            | f32 => simp [hw] at htr
            | f64 => simp at htr
        | _ => rw [hV] at htr; simp at htr
    have hpick : ∃ f : Nat → Nat, ∀ i, i < m → V i = .float .f32 (f i) ∧ f i < 2 ^ 32 := Go.Deep.choose_lt each
    obtain ⟨f, hfx⟩ := hpick
    have hlen : ((List.range len0).map f).length = len0 := by simp
    refine ⟨(List.range len0).map f, ?_, ?_⟩
    · refine ⟨some a, cap0, by simp, by simpa using hl, hm, fun hp => ?_⟩
      have hpos : 0 < len0 := by simpa using hp
      obtain ⟨b, off, spot⟩ := a
      have hspot : spot = none := by
        have h0 := (hel 0 (by omega)).1
        simpa [Addr.add] using World.cell?_spot h0
      subst hspot
      refine ⟨b, off, rfl, ?_, fun i x hx => ?_⟩
      · have hin : MemPlace.cell b off ∈ y.2 := by
          have h2 := congrArg Prod.snd hx
          simp only [] at h2
          rw [h2]
          exact List.mem_append_left _ (MemPlace.mem_row.2 ⟨0, by omega, by simp⟩)
        exact hlt _ hin
      · have hi : i < len0 := by
          have := (List.getElem?_eq_some_iff.1 hx).1
          simpa using this
        have hxe : x = .float .f32 (f i) := by
          simp [List.getElem?_map, List.getElem?_range hi] at hx
          exact hx.symm
        rw [hxe, ← add_plain, (hel i (by omega)).1, (hfx i (by omega)).1]
    · intro x hx
      obtain ⟨i, hi, rfl⟩ := List.mem_map.1 hx
      exact (hfx i (by have := List.mem_range.1 hi; omega)).2

theorem open_f32T {t : TypeId} {fuel : Nat} {v : Value} {y : DataW H × List MemPlace} (he : P.underlying t = some (.float .f32)) (htr : DataW.trod enc P w 0 spare true fuel t [v] = some y) : ∃ x, v = .float .f32 x ∧ x < 2 ^ 32 := by
  cases fuel with
  | zero => simp [DataW.trod] at htr
  | succ n =>
    unfold DataW.trod at htr
    rw [he] at htr
    cases v with
    | float k x =>
      by_cases hw : (Lit.float .f32 x).wf = true
      · cases k with
        | f32 => exact ⟨x, rfl, by simpa [Lit.wf] using hw⟩
        | f64 => simp at htr
      · cases k with
        | f32 => simp [hw] at htr
        | f64 => simp at htr
    | _ => simp at htr
theorem open_sch {t e : TypeId} {f0 f1 : Field} {r : Reach} {b0 : Nat} {v : Value} {d : DataW H} {ps : List MemPlace} (hs : P.underlying t = some (.struct #[f0, f1])) (hone : Go.Deep.oneCellFields P #[f0, f1] = true) (hC : P.cellsOf t = 2)
    (ht : P.underlying f0.type = some (.slice e)) (he : P.underlying e = some (.float .f32)) (hc : P.cellsOf e = 1) (h1 : P.underlying f1.type = some (.float .f32))
    (hval : Value.okWide P w r b0 t v) (hd : DataW.Trod enc P w 0 spare true t v d ps) (hlt : ∀ x ∈ ps, x.block < w.heap.size) :
    ∃ (v0 : Value) (xs : List Nat) (s : Nat), v = .agg #[v0, .float .f32 s] ∧ Rd w w.heap.size v0 (xs.map (.float .f32)) ∧ (∀ x ∈ xs, x < 2 ^ 32) ∧ s < 2 ^ 32 := by
  obtain ⟨v0, v1, y0, y1, n, rfl, rfl, rfl, q0, q1⟩ := Go.Joins.open_agg2 hs hone hC hval hd
  obtain ⟨xs, g, hx⟩ := open_floatsT ht he hc q0 (fun x hx => hlt x (List.mem_append_left _ hx))
  obtain ⟨s, rfl, hs2⟩ := open_f32T h1 q1
  exact ⟨v0, xs, s, rfl, g, hx, hs2⟩
end
end Go.Proofs.Ytfbdmhkmkmbipaa
