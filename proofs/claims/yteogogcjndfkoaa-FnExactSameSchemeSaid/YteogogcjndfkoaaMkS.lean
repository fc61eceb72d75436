/-
  Contracts: the law's own marks of schemes; the two given schemes of both sides.
-/
import Derived.Test.YteogogcjndfkoaaMkF
import Derived.Test.YteogogcjndfkoaaSch
namespace Go.Proofs.Yteogogcjndfkoaa
open Go.RowKit Fl
set_option linter.unusedVariables false

theorem Own.cells' {w : World} {lo b off n c : Nat} {xs : List Value} (h : Own w lo (.slice (some ⟨b, off, none⟩) n c) xs) (hn : 0 < n) :
    lo ≤ b ∧ b < w.heap.size ∧ (∀ (i : Nat) (x : Value), xs[i]? = some x → w.cell? ⟨b, off + i, none⟩ = some x) ∧ ∀ i, i < n → w.frozen? ⟨b, off + i, none⟩ = false := by
  obtain ⟨A, c', hv, h1, h2, h3⟩ := h
  simp only [Value.slice.injEq] at hv
  obtain ⟨rfl, rfl, rfl⟩ := hv
  obtain ⟨b', off', e, hlo, hb, hc, hf⟩ := h3 hn
  cases e
  exact ⟨hlo, hb, hc, hf⟩
/-- A box of two cells. -/
theorem own_box (w : World) (a b : Value) (T : TypeId) : Own (w.alloc (.cells #[a, b] T)) w.heap.size (.slice (some ⟨w.heap.size, 0, none⟩) 2 2) [a, b] := by
  have h := Own.row (World.ownsRow_lit (base := w.heap.size) (e := T) (size := 1) w #[a, b] 2 (Nat.le_refl _) (by simp [maxLen]) rfl)
  exact h
def Mark2 (v : Value) (k n : Int) (w : World) (e : Ending) (w' : World) : Prop := e = .returned (.int .i64 (k + n)) ∧ ∃ w0, Below w.heap.size w w0 ∧ w' = over w0 v (mkF k)
set_option maxHeartbeats 400000 in
theorem markS_any (v : Value) (xs : List Nat) (s : Nat) (k0 : Int) (w : World) (lo : Nat) (h : Own w lo v (fl xs)) (hm : xs.length ≤ 1048576) (hk0 : 0 ≤ k0) (hk1 : k0 ≤ 1000000000) :
    Calls Try.prog 46 #[.agg #[v, .float .f32 s], .int .i64 k0] w (Mark2 v k0 xs.length w) := by
  obtain ⟨A, c, hv, q1, q2, q3⟩ := id h
  clear q1 q2 q3
  rw [fl_len] at hv
  subst hv
  have hb : Below w.heap.size w (w.alloc (.cells #[.slice A xs.length c, .float .f32 s] 50)) := (Below.refl _ _).alloc (Nat.le_refl _) _
  have HM := Lib.hid (markF_any _ xs k0 _ lo (h.below hb) hm hk0 hk1)
  go_enter Try.func46, Try.ntmps46
  go_wp2_with fail
  refine HM.out.mono ?_
  rintro e w1 ⟨rfl, hw⟩
  go_wp2_with fail
  go_ret
  exact ⟨rfl, _, hb, rfl⟩
set_option maxHeartbeats 400000 in
theorem heldS_any (v : Value) (n s : Nat) (k0 : Int) (w : World) (h : Rd w w.heap.size v ((List.range n).map (mkF k0))) (hm : n ≤ 1048576) (hk0 : 0 ≤ k0) (hk1 : k0 ≤ 1000000000) :
    Calls Try.prog 47 #[.agg #[v, .float .f32 s], .int .i64 k0] w fun e w' => e = .returned (.int .i64 (k0 + n)) ∧ Below w.heap.size w w' := by
  obtain ⟨A, c, hv, q1, q2, q3⟩ := id h
  clear q1 q2 q3
  rw [show ((List.range n).map (mkF k0)).length = n by simp] at hv
  subst hv
  have hb : Below w.heap.size w (w.alloc (.cells #[.slice A n c, .float .f32 s] 50)) := (Below.refl _ _).alloc (Nat.le_refl _) _
  have HM := Lib.hid (heldF_any _ n k0 _ _ (h.step hb) hm hk0 hk1)
  go_enter Try.func47, Try.ntmps47
  go_wp2_with fail
  refine HM.out.mono ?_
  rintro e w1 ⟨rfl, rfl⟩
  go_wp2_with fail
  go_ret
  exact ⟨rfl, hb⟩
def linesW : List Nat := [3204448256, 1048576000]
def nineW : List Nat := [3217753715, 3176726958, 1063388790, 1055069013]
set_option maxHeartbeats 400000 in
theorem linI_any (w : World) : Calls Try.prog 45 #[] w (MadeS linesW 1065353216 w) := by
  have hsf : ∀ (a : Addr) (x : Nat) (w : World), (store a (.float .f32 x)).run Try.prog w = stored Try.prog w a (.float .f32 x) .plain := fun a x w => run_store _ w a _ _ rfl
  have hb : Below w.heap.size w ((w.alloc (.cells #[.slice (some ⟨w.heap.size + 1, 0, none⟩) 2 2, .float .f32 1065353216] 50)).alloc (.cells #[.float .f32 3204448256, .float .f32 1048576000] 45)) := ((Below.refl _ _).alloc (Nat.le_refl _) _).alloc (by simp) _
  have ho : Own ((w.alloc (.cells #[.slice (some ⟨w.heap.size + 1, 0, none⟩) 2 2, .float .f32 1065353216] 50)).alloc (.cells #[.float .f32 3204448256, .float .f32 1048576000] 45)) w.heap.size (.slice (some ⟨w.heap.size + 1, 0, none⟩) 2 2) (fl linesW) := by
    have h := Own.row (World.ownsRow_lit (base := w.heap.size) (e := 45) (size := 1) (w.alloc (.cells #[.slice (some ⟨w.heap.size + 1, 0, none⟩) 2 2, .float .f32 1065353216] 50)) #[.float .f32 3204448256, .float .f32 1048576000] 2 (by simp) (by simp [maxLen]) rfl)
    simpa [fl, linesW] using h
  go_enter Try.func45, Try.ntmps45
  go_wp2
  exact bodyPost_ret (v := .agg #[.slice (some ⟨w.heap.size + 1, 0, none⟩) 2 2, .float .f32 1065353216]) (by simp [results, Try.results45, go_sem]) rfl ⟨w.heap.size + 1, rfl, ho, hb⟩
set_option maxHeartbeats 400000 in
theorem linS_any (w : World) : Calls Try.prog 44 #[] w (MadeS linesW 1065353216 w) := by
  have hsf : ∀ (a : Addr) (x : Nat) (w : World), (store a (.float .f32 x)).run Try.prog w = stored Try.prog w a (.float .f32 x) .plain := fun a x w => run_store _ w a _ _ rfl
  have hb : Below w.heap.size w ((w.alloc (.cells #[.slice (some ⟨w.heap.size + 1, 0, none⟩) 2 2, .float .f32 1065353216] 50)).alloc (.cells #[.float .f32 3204448256, .float .f32 1048576000] 45)) := ((Below.refl _ _).alloc (Nat.le_refl _) _).alloc (by simp) _
  have ho : Own ((w.alloc (.cells #[.slice (some ⟨w.heap.size + 1, 0, none⟩) 2 2, .float .f32 1065353216] 50)).alloc (.cells #[.float .f32 3204448256, .float .f32 1048576000] 45)) w.heap.size (.slice (some ⟨w.heap.size + 1, 0, none⟩) 2 2) (fl linesW) := by
    have h := Own.row (World.ownsRow_lit (base := w.heap.size) (e := 45) (size := 1) (w.alloc (.cells #[.slice (some ⟨w.heap.size + 1, 0, none⟩) 2 2, .float .f32 1065353216] 50)) #[.float .f32 3204448256, .float .f32 1048576000] 2 (by simp) (by simp [maxLen]) rfl)
    simpa [fl, linesW] using h
  go_enter Try.func44, Try.ntmps44
  go_wp2
  exact bodyPost_ret (v := .agg #[.slice (some ⟨w.heap.size + 1, 0, none⟩) 2 2, .float .f32 1065353216]) (by simp [results, Try.results44, go_sem]) rfl ⟨w.heap.size + 1, rfl, ho, hb⟩
set_option maxHeartbeats 400000 in
theorem ninI_any (w : World) : Calls Try.prog 49 #[] w (MadeS nineW 1066608189 w) := by
  have hsf : ∀ (a : Addr) (x : Nat) (w : World), (store a (.float .f32 x)).run Try.prog w = stored Try.prog w a (.float .f32 x) .plain := fun a x w => run_store _ w a _ _ rfl
  have hb : Below w.heap.size w ((w.alloc (.cells #[.slice (some ⟨w.heap.size + 1, 0, none⟩) 4 4, .float .f32 1066608189] 50)).alloc (.cells #[.float .f32 3217753715, .float .f32 3176726958, .float .f32 1063388790, .float .f32 1055069013] 45)) := ((Below.refl _ _).alloc (Nat.le_refl _) _).alloc (by simp) _
  have ho : Own ((w.alloc (.cells #[.slice (some ⟨w.heap.size + 1, 0, none⟩) 4 4, .float .f32 1066608189] 50)).alloc (.cells #[.float .f32 3217753715, .float .f32 3176726958, .float .f32 1063388790, .float .f32 1055069013] 45)) w.heap.size (.slice (some ⟨w.heap.size + 1, 0, none⟩) 4 4) (fl nineW) := by
    have h := Own.row (World.ownsRow_lit (base := w.heap.size) (e := 45) (size := 1) (w.alloc (.cells #[.slice (some ⟨w.heap.size + 1, 0, none⟩) 4 4, .float .f32 1066608189] 50)) #[.float .f32 3217753715, .float .f32 3176726958, .float .f32 1063388790, .float .f32 1055069013] 4 (by simp) (by simp [maxLen]) rfl)
    simpa [fl, nineW] using h
  go_enter Try.func49, Try.ntmps49
  go_wp2
  exact bodyPost_ret (v := .agg #[.slice (some ⟨w.heap.size + 1, 0, none⟩) 4 4, .float .f32 1066608189]) (by simp [results, Try.results49, go_sem]) rfl ⟨w.heap.size + 1, rfl, ho, hb⟩
set_option maxHeartbeats 400000 in
theorem ninS_any (w : World) : Calls Try.prog 48 #[] w (MadeS nineW 1066608189 w) := by
  have hsf : ∀ (a : Addr) (x : Nat) (w : World), (store a (.float .f32 x)).run Try.prog w = stored Try.prog w a (.float .f32 x) .plain := fun a x w => run_store _ w a _ _ rfl
  have hb : Below w.heap.size w ((w.alloc (.cells #[.slice (some ⟨w.heap.size + 1, 0, none⟩) 4 4, .float .f32 1066608189] 50)).alloc (.cells #[.float .f32 3217753715, .float .f32 3176726958, .float .f32 1063388790, .float .f32 1055069013] 45)) := ((Below.refl _ _).alloc (Nat.le_refl _) _).alloc (by simp) _
  have ho : Own ((w.alloc (.cells #[.slice (some ⟨w.heap.size + 1, 0, none⟩) 4 4, .float .f32 1066608189] 50)).alloc (.cells #[.float .f32 3217753715, .float .f32 3176726958, .float .f32 1063388790, .float .f32 1055069013] 45)) w.heap.size (.slice (some ⟨w.heap.size + 1, 0, none⟩) 4 4) (fl nineW) := by
    have h := Own.row (World.ownsRow_lit (base := w.heap.size) (e := 45) (size := 1) (w.alloc (.cells #[.slice (some ⟨w.heap.size + 1, 0, none⟩) 4 4, .float .f32 1066608189] 50)) #[.float .f32 3217753715, .float .f32 3176726958, .float .f32 1063388790, .float .f32 1055069013] 4 (by simp) (by simp [maxLen]) rfl)
    simpa [fl, nineW] using h
  go_enter Try.func48, Try.ntmps48
  go_wp2
  exact bodyPost_ret (v := .agg #[.slice (some ⟨w.heap.size + 1, 0, none⟩) 4 4, .float .f32 1066608189]) (by simp [results, Try.results48, go_sem]) rfl ⟨w.heap.size + 1, rfl, ho, hb⟩
end Go.Proofs.Yteogogcjndfkoaa
