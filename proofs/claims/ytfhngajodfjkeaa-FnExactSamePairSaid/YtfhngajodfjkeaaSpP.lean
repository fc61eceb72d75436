/-
  Contracts: SamePair of both sides.
-/
import Derived.Test.YtfhngajodfjkeaaSam
namespace Go.Proofs.Ytfhngajodfjkeaa
open Go.RowKit Fl
set_option linter.unusedVariables false

def RetBB (b : Bool) (w : World) (e : Ending) (w' : World) : Prop := e = .returned (.bool b) ∧ Below w.heap.size w w'
set_option maxHeartbeats 1000000 in
theorem spS_any (va vb : Value) (xs ys : List Nat) (w : World) (ha : Rd w w.heap.size va (fl xs)) (hb : Rd w w.heap.size vb (fl ys)) (hm : xs.length ≤ 1048576) (hm' : ys.length ≤ 1048576) (hx : ∀ x ∈ xs, x < 2 ^ 32) (hy : ∀ x ∈ ys, x < 2 ^ 32) :
    Calls Try.prog 26 #[.agg #[va], .agg #[vb]] w (RetBB (wsB xs ys) w) := by
  have hb2 : Below w.heap.size w ((w.alloc (.cells #[va] 24)).alloc (.cells #[vb] 24)) := ((Below.refl _ _).alloc (Nat.le_refl _) _).alloc (by simp) _
  have HW := Lib.hid (wsP_any _ _ xs ys _ _ _ (ha.step hb2) (hb.step hb2) hm hm' hx hy)
  obtain ⟨A, c, hva, _, _, _⟩ := id ha
  obtain ⟨A', c', hvb, _, _, _⟩ := id hb
  rw [fl_len] at hva hvb
  subst hva hvb
  clear hx hy
  go_enter Try.func26, Try.ntmps26
  go_wp2_with fail
  refine HW.out.mono ?_
  rintro e w1 ⟨rfl, n, rfl⟩
  go_wp2_with fail
  go_ret
  exact ⟨rfl, below_drawn hb2 _⟩
set_option maxHeartbeats 1000000 in
theorem spI_any (va vb : Value) (xs ys : List Nat) (w : World) (ha : Rd w w.heap.size va (fl xs)) (hb : Rd w w.heap.size vb (fl ys)) (hm : xs.length ≤ 1048576) (hm' : ys.length ≤ 1048576) (hx : ∀ x ∈ xs, x < 2 ^ 32) (hy : ∀ x ∈ ys, x < 2 ^ 32) :
    Calls Try.prog 27 #[.agg #[va], .agg #[vb]] w (RetBB (wsB xs ys) w) := by
  have hb2 : Below w.heap.size w ((w.alloc (.cells #[va] 24)).alloc (.cells #[vb] 24)) := ((Below.refl _ _).alloc (Nat.le_refl _) _).alloc (by simp) _
  have HW := Lib.hid (wsI_any _ _ xs ys _ _ _ (ha.step hb2) (hb.step hb2) hm hm' hx hy)
  obtain ⟨A, c, hva, _, _, _⟩ := id ha
  obtain ⟨A', c', hvb, _, _, _⟩ := id hb
  rw [fl_len] at hva hvb
  subst hva hvb
  clear hx hy
  go_enter Try.func27, Try.ntmps27
  go_wp2_with fail
  refine HW.out.mono ?_
  rintro e w1 ⟨rfl, n, rfl⟩
  go_wp2_with fail
  go_ret
  exact ⟨rfl, below_drawn hb2 _⟩
end Go.Proofs.Ytfhngajodfjkeaa
