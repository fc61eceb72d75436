/-
  A slice of structs of an integer and a 32-bit float that came in.
-/
import Derived.Test.YthkklilfignmpaaCst
import Derived.Test.YthkklilfignmpaaOpS
import Derived.Deep.SlicePairs
namespace Go.Proofs.Ythkklilfignmpaa
open Go.RowKit Go.WideShapes Go.ChangeShapes

section
variable {H : Type} {enc : TypeId × Value → H} {P : Program} {w : World} {spare : Nat → Bool}
theorem open_costs {t e : TypeId} {f0 f1 : Field} {r : Reach} {b0 : Nat} {v : Value} {d : DataW H} {ps : List MemPlace} (ht : P.underlying t = some (.slice e)) (he : P.underlying e = some (.struct #[f0, f1])) (ce : P.cellsOf e = 2) (o0 : f0.offset = 0) (o1 : f1.offset = 1) (c0 : P.cellsOf f0.type = 1) (c1 : P.cellsOf f1.type = 1)
    (h0 : P.underlying f0.type = some (.int .i64)) (h1 : P.underlying f1.type = some (.float .f32))
    (hval : Value.okWide P w r b0 t v) (hd : DataW.Trod enc P w 0 spare true t v d ps) (hlt : ∀ x ∈ ps, x.block < w.heap.size) :
    ∃ xs : List (Int × Nat), RdC w w.heap.size v xs ∧ xs.length ≤ maxLen ∧ ∀ x ∈ xs, x.2 < 2 ^ 32 := by
  obtain ⟨a0, len0, cap0, rfl⟩ := okWide_slice ht hval
  obtain ⟨fuel, hf⟩ := hd
  rcases Go.Deep.open_slice_pairs ht he ce o0 o1 c0 c1 hf with ⟨hn, _⟩ | ⟨a, len, cap, m, n, V0, V1, D0, D1, P0, P1, hcs, _, hl, hm, hmm, hx, hel⟩
  · simp [Value.cells] at hn
    obtain ⟨rfl, rfl, rfl⟩ := hn
    exact ⟨[], ⟨none, 0, rfl, fun h => absurd h (by simp)⟩, by simp, by simp⟩
  · simp [Value.cells] at hcs
    obtain ⟨rfl, rfl, rfl⟩ := hcs
    have hml : len0 ≤ m := by rw [hmm]; split <;> omega
    have each : ∀ i, i < m → ∃ q : Int × Nat, V0 i = .int .i64 q.1 ∧ V1 i = .float .f32 q.2 ∧ q.2 < 2 ^ 32 := by
      intro i hi
      obtain ⟨_, _, t0, t1⟩ := hel i hi
      obtain ⟨z, e1, _, _⟩ := DataW.trod_int h0 t0
      obtain ⟨x, e2, hx2⟩ := open_f32T h1 t1
      simp at e1
      exact ⟨(z, x), e1, e2, hx2⟩
    obtain ⟨q, hq⟩ := Go.Deep.choose_lt each
    have hg : ∀ j, j < len0 → ((List.range len0).map q).getD j (0, 0) = q j := fun j hj => by simp [List.getD, hj]
    refine ⟨(List.range len0).map q, ⟨some a, cap0, by simp, fun hp => ?_⟩, by simp; omega, fun x hx => ?_⟩
    · simp only [List.length_map, List.length_range] at hp ⊢
      obtain ⟨b, off, spot⟩ := a
      have hspot : spot = none := by
        have h0 := (hel 0 (by omega)).1
        simpa [Addr.add] using World.cell?_spot h0
      subst hspot
      refine ⟨b, off, rfl, ?_, fun j hj => ?_⟩
      · have hin : MemPlace.cell b off ∈ ps := by
          have h2 := congrArg Prod.snd hx
          simp only [] at h2
          rw [h2]
          exact List.mem_append_left _ (MemPlace.mem_row.2 ⟨0, by omega, by simp⟩)
        exact hlt _ hin
      · obtain ⟨k0, k1, _, _⟩ := hel j (by omega)
        rw [add_plain] at k0 k1
        rw [hg j hj]
        exact ⟨by rw [k0, (hq j (by omega)).1], by rw [show off + j * 2 + 1 = off + (j * 2 + 1) by omega, k1, (hq j (by omega)).2.1]⟩
    · obtain ⟨i, hi, rfl⟩ := List.mem_map.1 hx
      exact (hq i (by have := List.mem_range.1 hi; omega)).2.2
end
end Go.Proofs.Ythkklilfignmpaa
