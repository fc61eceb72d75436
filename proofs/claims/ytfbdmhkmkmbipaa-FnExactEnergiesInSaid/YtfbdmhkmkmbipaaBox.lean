/-
  Boxes of one cell, structs of one slice of 32-bit floats that came in (no program in it).
-/
import Derived.Test.YtfbdmhkmkmbipaaMem
import Derived.Lib.SmallJoins
namespace Go.Proofs.Ytfbdmhkmkmbipaa
open Go.RowKit Go.WideShapes Go.ChangeShapes
set_option linter.unusedVariables false

theorem bcell {W w1 : World} (hb : Below W.heap.size W w1) : (∀ b o, b < W.heap.size → w1.cell? ⟨b, o, none⟩ = W.cell? ⟨b, o, none⟩) ∧ (∀ b o, b < W.heap.size → w1.frozen? ⟨b, o, none⟩ = W.frozen? ⟨b, o, none⟩) :=
  ⟨fun b o h => hb.cell (p := ⟨b, o, none⟩) h, fun b o h => hb.frozen (p := ⟨b, o, none⟩) h⟩
theorem Own.setLess {w : World} {lo : Nat} {v : Value} {xs : List Value} (h : Own w lo v xs) {a : Addr} (ha : a.block < lo) (u : Value) : Own (w.setCell a u) lo v xs := by
  obtain ⟨A, c, hv, h1, h2, h3⟩ := h
  refine ⟨A, c, hv, h1, h2, fun hp => ?_⟩
  obtain ⟨b, off, hA, hlo, hlt, hc, hf⟩ := h3 hp
  refine ⟨b, off, hA, hlo, by simpa [World.setCell] using hlt, fun i x hx => ?_, fun i hi => by rw [World.frozen?_setCell]; exact hf i hi⟩
  rw [World.cell?_setCell_other _ _ _ _ (fun e => by subst e; simp only [] at ha; omega)]
  exact hc i x hx
theorem Own.cells' {w : World} {lo b off n c : Nat} {xs : List Value} (h : Own w lo (.slice (some ⟨b, off, none⟩) n c) xs) (hn : 0 < n) :
    lo ≤ b ∧ b < w.heap.size ∧ (∀ (i : Nat) (x : Value), xs[i]? = some x → w.cell? ⟨b, off + i, none⟩ = some x) ∧ ∀ i, i < n → w.frozen? ⟨b, off + i, none⟩ = false := by
  obtain ⟨A, c', hv, h1, h2, h3⟩ := h
  simp only [Value.slice.injEq] at hv
  obtain ⟨rfl, rfl, rfl⟩ := hv
  obtain ⟨b', off', e, hlo, hb, hc, hf⟩ := h3 hn
  cases e
  exact ⟨hlo, hb, hc, hf⟩
/-- A box of one cell. -/
theorem own_box1 (w : World) (a : Value) (T : TypeId) : Own (w.alloc (.cells #[a] T)) w.heap.size (.slice (some ⟨w.heap.size, 0, none⟩) 1 1) [a] := by
  have h := Own.row (World.ownsRow_lit (base := w.heap.size) (e := T) (size := 1) w #[a] 1 (Nat.le_refl _) (by simp [maxLen]) rfl)
  exact h
theorem below_draw1 {B : Nat} {w w' : World} (h : Below B w.drew w') : Below B w w' := ⟨h.os, h.tape, h.output, h.size, h.block⟩

theorem array1 {α : Type} {cs : Array α} (h : cs.size = 1) : ∃ c0, cs = #[c0] := by
  obtain ⟨l⟩ := cs
  match l, h with
  | [c0], _ => exact ⟨c0, rfl⟩
section
variable {H : Type} {enc : TypeId × Value → H} {P : Program} {w : World} {spare : Nat → Bool}
/-- A slice of 32-bit floats that came in, a cell, reads as their bits. -/
theorem open_floatsC {t e : TypeId} {fuel : Nat} {v : Value} {y : DataW H × List MemPlace} (ht : P.underlying t = some (.slice e)) (he : P.underlying e = some (.float .f32)) (hc : P.cellsOf e = 1)
    (hf : DataW.trod enc P w 0 spare true fuel t [v] = some y) (hlt : ∀ x ∈ y.2, x.block < w.heap.size) :
    ∃ xs : List Nat, Rd w w.heap.size v (xs.map (.float .f32)) ∧ ∀ x ∈ xs, x < 2 ^ 32 := by
  obtain ⟨a0, len0, cap0, hv0⟩ := Go.Joins.slice_form ht hf
  simp only [List.cons.injEq, and_true] at hv0
  subst hv0
  rcases Go.Deep.open_slice1 ht hc hf with ⟨h0, _⟩ | ⟨a, len, cap, m, n, V, D, Pl, hcs, _, hl, hm, hmm, hx, hel⟩
  · simp at h0
    obtain ⟨rfl, rfl, rfl⟩ := h0
    exact ⟨[], ⟨none, 0, rfl, Nat.le_refl _, Nat.zero_le _, fun h => absurd h (by simp)⟩, by simp⟩
  · simp at hcs
    obtain ⟨rfl, rfl, rfl⟩ := hcs
    have hml : len0 ≤ m := by rw [hmm]; split <;> omega
    have each : ∀ i, i < m → ∃ x, V i = .float .f32 x ∧ x < 2 ^ 32 := by
      intro i hi
      obtain ⟨_, htr⟩ := hel i hi
      cases n with
      | zero => simp [DataW.trod] at htr
      | succ n =>
        unfold DataW.trod at htr
        rw [he] at htr
        cases hV : V i with
        | float k x =>
          rw [hV] at htr
          by_cases hw : (Lit.float .f32 x).wf = true
          · cases k with
            | f32 => exact ⟨x, rfl, by simpa [Lit.wf] using hw⟩
            | f64 => simp at htr
          · cases k with
            | f32 => simp [hw] at htr
            | f64 => simp at htr
        | _ => rw [hV] at htr; simp at htr
    have hpick : ∃ f : Nat → Nat, ∀ i, i < m → V i = .float .f32 (f i) ∧ f i < 2 ^ 32 := Go.Deep.choose_lt each
    obtain ⟨f, hfx⟩ := hpick
    have hlen : ((List.range len0).map f).length = len0 := by simp
    refine ⟨(List.range len0).map f, ?_, ?_⟩
    · refine ⟨some a, cap0, by simp, by simpa using hl, hm, fun hp => ?_⟩
      have hpos : 0 < len0 := by simpa using hp
      obtain ⟨b, off, spot⟩ := a
      have hspot : spot = none := by
        have h0 := (hel 0 (by omega)).1
        simpa [Addr.add] using World.cell?_spot h0
      subst hspot
      refine ⟨b, off, rfl, ?_, fun i x hx => ?_⟩
      · have hin : MemPlace.cell b off ∈ y.2 := by
          have h2 := congrArg Prod.snd hx
          simp only [] at h2
          rw [h2]
          exact List.mem_append_left _ (MemPlace.mem_row.2 ⟨0, by omega, by simp⟩)
        exact hlt _ hin
      · have hi : i < len0 := by
          have := (List.getElem?_eq_some_iff.1 hx).1
          simpa using this
        have hxe : x = .float .f32 (f i) := by
          simp [List.getElem?_map, List.getElem?_range hi] at hx
          exact hx.symm
        rw [hxe, ← add_plain, (hel i (by omega)).1, (hfx i (by omega)).1]
    · intro x hx
      obtain ⟨i, hi, rfl⟩ := List.mem_map.1 hx
      exact (hfx i (by have := List.mem_range.1 hi; omega)).2
theorem open_pair {t e : TypeId} {f0 : Field} {r : Reach} {b0 : Nat} {v : Value} {d : DataW H} {ps : List MemPlace} (hs : P.underlying t = some (.struct #[f0])) (hone : Go.Deep.oneCellFields P #[f0] = true) (hC : P.cellsOf t = 1)
    (ht : P.underlying f0.type = some (.slice e)) (he : P.underlying e = some (.float .f32)) (hc : P.cellsOf e = 1)
    (hval : Value.okWide P w r b0 t v) (hd : DataW.Trod enc P w 0 spare true t v d ps) (hlt : ∀ x ∈ ps, x.block < w.heap.size) :
    ∃ (v0 : Value) (xs : List Nat), v = .agg #[v0] ∧ Rd w w.heap.size v0 (xs.map (.float .f32)) ∧ ∀ x ∈ xs, x < 2 ^ 32 := by
  obtain ⟨cs, rfl, hsz⟩ := okWide_struct hs hval
  obtain ⟨c0, rfl⟩ := array1 (hsz.trans hC)
  obtain ⟨fuel, hf⟩ := hd
  obtain ⟨ys, n, _, hx, hl, hlen, hf⟩ := DataW.trod_struct hs hf
  obtain ⟨o0, k0⟩ := Go.Deep.hone_of hone 0 f0 rfl
  simp only [Prod.mk.injEq] at hx
  have q0 := hf 0 f0 rfl
  have hl0 : 0 < ys.length := by rw [hlen]; simp
  rw [List.getElem?_eq_getElem hl0] at q0
  obtain ⟨xs, g, hxs⟩ := open_floatsC ht he hc (by simpa [Value.cells, o0, k0] using q0) (fun x hxm => hlt x (by rw [hx.2]; exact List.mem_flatMap.2 ⟨_, List.getElem_mem hl0, hxm⟩))
  exact ⟨c0, xs, rfl, g, hxs⟩
end
end Go.Proofs.Ytfbdmhkmkmbipaa
