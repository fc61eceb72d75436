/-
  Contracts: the law's own marks of schemes; the two given schemes of both sides.
-/
import Derived.Test.YtfbdmhkmkmbipaaMkF
import Derived.Test.YtfbdmhkmkmbipaaSch
namespace Go.Proofs.Ytfbdmhkmkmbipaa.Sf
open Go.RowKit Fl
set_option linter.unusedVariables false

/-- A box of two cells. -/
theorem own_box (w : World) (a b : Value) (T : TypeId) : Own (w.alloc (.cells #[a, b] T)) w.heap.size (.slice (some ⟨w.heap.size, 0, none⟩) 2 2) [a, b] := by
  have h := Own.row (World.ownsRow_lit (base := w.heap.size) (e := T) (size := 1) w #[a, b] 2 (Nat.le_refl _) (by simp [maxLen]) rfl)
  exact h
def Mark2 (v : Value) (k n : Int) (w : World) (e : Ending) (w' : World) : Prop := e = .returned (.int .i64 (k + n)) ∧ ∃ w0, Below w.heap.size w w0 ∧ w' = over w0 v (mkF k)
set_option maxHeartbeats 400000 in
theorem markS_any (v : Value) (xs : List Nat) (s : Nat) (k0 : Int) (w : World) (lo : Nat) (h : Own w lo v (fl xs)) (hm : xs.length ≤ 1048576) (hk0 : 0 ≤ k0) (hk1 : k0 ≤ 1000000000) :
    Calls Try.prog 22 #[.agg #[v, .float .f32 s], .int .i64 k0] w (Mark2 v k0 xs.length w) := by
  obtain ⟨A, c, hv, q1, q2, q3⟩ := id h
  clear q1 q2 q3
  rw [fl_len] at hv
  subst hv
  have hb : Below w.heap.size w (w.alloc (.cells #[.slice A xs.length c, .float .f32 s] 29)) := (Below.refl _ _).alloc (Nat.le_refl _) _
  have HM := Lib.hid (markF_any _ xs k0 _ lo (h.below hb) hm hk0 hk1)
  go_enter Try.func22, Try.ntmps22
  go_wp2_with fail
  refine HM.out.mono ?_
  rintro e w1 ⟨rfl, hw⟩
  go_wp2_with fail
  go_ret
  exact ⟨rfl, _, hb, rfl⟩
end Go.Proofs.Ytfbdmhkmkmbipaa.Sf
