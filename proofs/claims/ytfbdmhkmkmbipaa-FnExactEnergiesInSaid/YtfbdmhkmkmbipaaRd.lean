/-
  A slice that reads as a list of values, each of one cell, nil let in; how it is carried (no program in it).
-/
import Derived.Below
import Derived.Laws.OwnMore
import Derived.OpenShut
import Derived.Deep.Draws
import Derived.Deep.Slices
import Derived.Laws.Cover2
import Derived.Test.YtfbdmhkmkmbipaaLow
namespace Go.Proofs.Ytfbdmhkmkmbipaa
open Go.RowKit Go.WideShapes Go.ChangeShapes

/-- The slice value v reads as vs, in blocks below B. -/
def Rd (w : World) (B : Nat) (v : Value) (vs : List Value) : Prop :=
  ∃ A c, v = .slice A vs.length c ∧ vs.length ≤ c ∧ c ≤ maxLen ∧ (0 < vs.length → ∃ b off, A = some ⟨b, off, none⟩ ∧ b < B ∧ ∀ (i : Nat) (x : Value), vs[i]? = some x → w.cell? ⟨b, off + i, none⟩ = some x)

theorem Rd.below {w w' : World} {B : Nat} {v : Value} {vs : List Value} (h : Rd w B v vs) (hb : Below B w w') : Rd w' B v vs := by
  obtain ⟨A, c, hv, h1, h2, h3⟩ := h
  refine ⟨A, c, hv, h1, h2, fun hp => ?_⟩
  obtain ⟨b, off, hA, hlt, hc⟩ := h3 hp
  exact ⟨b, off, hA, hlt, fun i x hx => (hb.cell (p := ⟨b, off + i, none⟩) hlt).trans (hc i x hx)⟩
theorem Rd.more {w : World} {B B' : Nat} {v : Value} {vs : List Value} (h : Rd w B v vs) (hB : B ≤ B') : Rd w B' v vs := by
  obtain ⟨A, c, hv, h1, h2, h3⟩ := h
  refine ⟨A, c, hv, h1, h2, fun hp => ?_⟩
  obtain ⟨b, off, hA, hlt, hc⟩ := h3 hp
  exact ⟨b, off, hA, by omega, hc⟩
theorem Rd.drewN {w : World} {B : Nat} {v : Value} {vs : List Value} (h : Rd w B v vs) (n : Nat) : Rd (w.drewN n) B v vs := h
theorem Rd.le {w : World} {B : Nat} {v : Value} {vs : List Value} (h : Rd w B v vs) : vs.length ≤ maxLen := by
  obtain ⟨A, c, hv, h1, h2, h3⟩ := h
  omega
/-- What the call itself has made reads as what it owns. -/
theorem Rd.own {w : World} {base : Nat} {e : TypeId} {g n c : Nat} {xs : List Value} (h : w.ownsRow base e 1 (.slice (some ⟨g, 0, none⟩) n c) n xs) (hc : n ≤ c) (hm : c ≤ maxLen) : Rd w w.heap.size (.slice (some ⟨g, 0, none⟩) n c) xs := by
  have hn : xs.length = n := by have := h.1; omega
  subst hn
  refine ⟨_, c, rfl, hc, hm, fun hp => ⟨g, 0, rfl, ?_, fun i x hx => ?_⟩⟩
  · exact (h.lt g rfl).2
  · have hi := (List.getElem?_eq_some_iff.1 hx).1
    rw [Nat.zero_add, h.cellAt i (by omega)]
    exact hx

section
variable {H : Type} {enc : TypeId × Value → H} {P : Program} {w : World} {spare : Nat → Bool}
/-- A slice of 32-bit floats that came in reads as their bits. -/
theorem open_floats {t e : TypeId} {r : Reach} {b0 : Nat} {v : Value} {d : DataW H} {ps : List MemPlace} (ht : P.underlying t = some (.slice e)) (he : P.underlying e = some (.float .f32)) (hc : P.cellsOf e = 1)
    (hval : Value.okWide P w r b0 t v) (hd : DataW.Trod enc P w 0 spare true t v d ps) (hlt : ∀ x ∈ ps, x.block < w.heap.size) :
    ∃ xs : List Nat, Rd w w.heap.size v (xs.map (.float .f32)) ∧ ∀ x ∈ xs, x < 2 ^ 32 := by
  obtain ⟨a0, len0, cap0, rfl⟩ := okWide_slice ht hval
  obtain ⟨fuel, hf⟩ := hd
  rcases Go.Deep.open_slice1 ht hc hf with ⟨h0, _⟩ | ⟨a, len, cap, m, n, V, D, Pl, hcs, _, hl, hm, hmm, hx, hel⟩
  · simp [Value.cells] at h0
    obtain ⟨rfl, rfl, rfl⟩ := h0
    exact ⟨[], ⟨none, 0, rfl, Nat.le_refl _, Nat.zero_le _, fun h => absurd h (by simp)⟩, by simp⟩
  · simp [Value.cells] at hcs
    obtain ⟨rfl, rfl, rfl⟩ := hcs
    have hml : len0 ≤ m := by rw [hmm]; split <;> omega
    have each : ∀ i, i < m → ∃ x, V i = .float .f32 x ∧ x < 2 ^ 32 := by
      intro i hi
      obtain ⟨_, htr⟩ := hel i hi
      cases n with
      | zero => simp [DataW.trod] at htr
      | succ n =>
        unfold DataW.trod at htr
        rw [he] at htr
        cases hV : V i with
        | float k x =>
          rw [hV] at htr
          by_cases hw : (Lit.float .f32 x).wf = true
          · cases k with
            | f32 => exact ⟨x, rfl, by simpa [Lit.wf] using hw⟩
            | f64 => simp at htr
          · cases k with
            | f32 => simp [hw] at htr
            | f64 => simp at htr
        | _ => rw [hV] at htr; simp at htr
    have hpick : ∃ f : Nat → Nat, ∀ i, i < m → V i = .float .f32 (f i) ∧ f i < 2 ^ 32 := Go.Deep.choose_lt each
    obtain ⟨f, hfx⟩ := hpick
    have hlen : ((List.range len0).map f).length = len0 := by simp
    refine ⟨(List.range len0).map f, ?_, ?_⟩
    · refine ⟨some a, cap0, by simp, by simpa using hl, hm, fun hp => ?_⟩
      have hpos : 0 < len0 := by simpa using hp
      obtain ⟨b, off, spot⟩ := a
      have hspot : spot = none := by
        have h0 := (hel 0 (by omega)).1
        simpa [Addr.add] using World.cell?_spot h0
      subst hspot
      refine ⟨b, off, rfl, ?_, fun i x hx => ?_⟩
      · have hin : MemPlace.cell b off ∈ ps := by
          have h2 := congrArg Prod.snd hx
          simp only [] at h2
          rw [h2]
          exact List.mem_append_left _ (MemPlace.mem_row.2 ⟨0, by omega, by simp⟩)
        exact hlt _ hin
      · have hi : i < len0 := by
          have := (List.getElem?_eq_some_iff.1 hx).1
          simpa using this
        have hxe : x = .float .f32 (f i) := by
          simp [List.getElem?_map, List.getElem?_range hi] at hx
          exact hx.symm
        rw [hxe, ← add_plain, (hel i (by omega)).1, (hfx i (by omega)).1]
    · intro x hx
      obtain ⟨i, hi, rfl⟩ := List.mem_map.1 hx
      exact (hfx i (by have := List.mem_range.1 hi; omega)).2
end
end Go.Proofs.Ytfbdmhkmkmbipaa
