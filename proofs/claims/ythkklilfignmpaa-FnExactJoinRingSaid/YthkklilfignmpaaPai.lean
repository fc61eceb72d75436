/-
  Contracts: the law's own copies, comparisons and marks of pairs.
-/
import Derived.Test.YthkklilfignmpaaMkF
import Derived.Test.YthkklilfignmpaaBox
namespace Go.Proofs.Ythkklilfignmpaa
open Go.RowKit Fl
set_option linter.unusedVariables false

/-- A new pair with these numbers, in memory of its own. -/
def MadeP (xs : List Nat) (w : World) (e : Ending) (w' : World) : Prop :=
  ∃ g, e = .returned (.agg #[.slice (some ⟨g, 0, none⟩) xs.length xs.length]) ∧ Own w' w.heap.size (.slice (some ⟨g, 0, none⟩) xs.length xs.length) (fl xs) ∧ Below w.heap.size w w'
set_option maxHeartbeats 1000000 in
theorem toPair_any (v : Value) (xs : List Nat) (w : World) (h : Rd w w.heap.size v (fl xs)) (hm : xs.length ≤ 1048576) :
    Calls Try.prog 58 #[.agg #[v]] w (MadeP xs w) := by
  obtain ⟨A, c, hv, q1, q2, q3⟩ := id h
  clear q1 q2 q3
  rw [fl_len] at hv
  subst hv
  have HT := Lib.hid (fun (w' : World) (hb : Below w.heap.size w w') => toF_any (.slice A xs.length c) xs w' w.heap.size (h.below hb) hb.size hm)
  go_enter Try.func58, Try.ntmps58
  go_wp2_with fail
  refine (HT.out _ (((Below.refl _ _).alloc (Nat.le_refl _) _).alloc (by simp) _ |>.alloc (by simp; omega) _)).mono ?_
  rintro e w1 ⟨g, rfl, ho, hb⟩
  obtain ⟨hc, hf⟩ := bcell hb
  have hz := hb.size
  simp at hz
  go_wp2_with fail
  have hb0 : Below w.heap.size w w1 := (((Below.refl _ _).alloc (Nat.le_refl _) _).alloc (by simp) _ |>.alloc (by simp; omega) _).trans (hb.mono (by simp; omega))
  have ho1 := ((Own.row ho).setLess (a := ⟨w.heap.size + 1 + 1, 0, none⟩) (by simp) (.slice (some ⟨g, 0, none⟩) xs.length xs.length)).setLess (a := ⟨w.heap.size + 1, 0, none⟩) (by simp) (.slice (some ⟨g, 0, none⟩) xs.length xs.length)
  have ho2 := ho1.less (lo' := w.heap.size) (by simp; omega)
  have hb1 := (hb0.setCell (p := ⟨w.heap.size + 1 + 1, 0, none⟩) (by show _ ≤ w.heap.size + 1 + 1; omega) (.slice (some ⟨g, 0, none⟩) xs.length xs.length)).setCell (p := ⟨w.heap.size + 1, 0, none⟩) (by show _ ≤ w.heap.size + 1; omega) (.slice (some ⟨g, 0, none⟩) xs.length xs.length)
  clear ho ho1 hb hb0
  exact bodyPost_ret (v := .agg #[.slice (some ⟨g, 0, none⟩) xs.length xs.length]) (by simp [results, Try.results58, go_sem, hc]) rfl ⟨g, rfl, ho2, hb1⟩
/-- Returns yes, and turns nothing that there was. -/
def Yes (w : World) (e : Ending) (w' : World) : Prop := e = .returned (.bool true) ∧ Below w.heap.size w w'
set_option maxHeartbeats 1000000 in
theorem eqPair_any (v u : Value) (xs ys : List Nat) (w : World) (h1 : Rd w w.heap.size v (fl xs)) (h2 : Rd w w.heap.size u (fl ys)) (hxy : Worth xs ys) (hm : xs.length ≤ 1048576) :
    Calls Try.prog 61 #[.agg #[v], .agg #[u]] w (Yes w) := by
  have HE := Lib.hid (fun (w' : World) (hb : Below w.heap.size w w') => eqF_any v u xs ys w' w.heap.size (h1.below hb) (h2.below hb) hxy hm)
  obtain ⟨A, c, hv, q1, q2, q3⟩ := id h1
  obtain ⟨A', c', hv', q4, q5, q6⟩ := id h2
  clear q1 q2 q3 q4 q5 q6
  rw [fl_len] at hv hv'
  subst hv hv'
  go_enter Try.func61, Try.ntmps61
  go_wp2_with fail
  refine (HE.out _ (((Below.refl _ _).alloc (Nat.le_refl _) _).alloc (by simp) _)).mono ?_
  rintro e w1 ⟨rfl, n, rfl⟩
  go_wp2_with fail
  go_ret
  exact ⟨rfl, below_drawn (((Below.refl _ _).alloc (Nat.le_refl _) _).alloc (by simp) _) _⟩
theorem szF_any (v : Value) (xs : List Nat) (l : Int) (w : World) (B : Nat) (h : Rd w B v (fl xs)) (h0 : 0 ≤ l) (h1 : l ≤ 1048576) (hm : xs.length ≤ 9223372036854775807) :
    Calls Try.prog 69 #[v, .int .i64 l] w fun e w' => e = .returned (.int .i64 (if l < xs.length then -1 else l - xs.length)) ∧ w = w' := by
  obtain ⟨A, c, hv, hc1, hc2, hcell⟩ := h
  rw [fl_len] at hv
  subst hv
  clear hcell hc1 hc2
  by_cases hl : l < xs.length
  · rw [if_pos hl]
    go_enter Try.func69, Try.ntmps69
    go_wp2_with fail
    go_ret
    exact ⟨rfl, rfl⟩
  · rw [if_neg hl]
    have hl' : (xs.length : Int) ≤ l := by omega
    clear hl
    go_enter Try.func69, Try.ntmps69
    go_wp2_with fail
    go_ret
    exact ⟨rfl, rfl⟩
set_option maxHeartbeats 400000 in
theorem szPair_any (v : Value) (xs : List Nat) (l : Int) (w : World) (h : Rd w w.heap.size v (fl xs)) (h0 : 0 ≤ l) (h1 : l ≤ 1048576) (hm : xs.length ≤ 9223372036854775807) :
    Calls Try.prog 55 #[.agg #[v], .int .i64 l] w fun e w' => e = .returned (.int .i64 (if l < xs.length then -1 else l - xs.length)) ∧ Below w.heap.size w w' := by
  obtain ⟨A, c, hv, q1, q2, q3⟩ := id h
  clear q1 q2 q3
  rw [fl_len] at hv
  subst hv
  have HZ := Lib.hid (fun (w' : World) (hb : Below w.heap.size w w') => szF_any (.slice A xs.length c) xs l w' w.heap.size (h.below hb) h0 h1 hm)
  by_cases hl : l < xs.length
  · rw [if_pos hl] at HZ ⊢
    go_enter Try.func55, Try.ntmps55
    go_wp2_with fail
    refine (HZ.out _ ((Below.refl _ _).alloc (Nat.le_refl _) _)).mono ?_
    rintro e w1 ⟨rfl, rfl⟩
    go_wp2_with fail
    go_ret
    exact ⟨rfl, (Below.refl _ _).alloc (Nat.le_refl _) _⟩
  · rw [if_neg hl] at HZ ⊢
    have hl' : (xs.length : Int) ≤ l := by omega
    clear hl
    go_enter Try.func55, Try.ntmps55
    go_wp2_with fail
    refine (HZ.out _ ((Below.refl _ _).alloc (Nat.le_refl _) _)).mono ?_
    rintro e w1 ⟨rfl, rfl⟩
    go_wp2_with fail
    go_ret
    exact ⟨rfl, (Below.refl _ _).alloc (Nat.le_refl _) _⟩
def Mark2 (v : Value) (k n : Int) (w : World) (e : Ending) (w' : World) : Prop := e = .returned (.int .i64 (k + n)) ∧ ∃ w0, Below w.heap.size w w0 ∧ w' = over w0 v (mkF k)
set_option maxHeartbeats 400000 in
theorem markP_any (v : Value) (xs : List Nat) (k0 : Int) (w : World) (lo : Nat) (h : Own w lo v (fl xs)) (hm : xs.length ≤ 1048576) (hk0 : 0 ≤ k0) (hk1 : k0 ≤ 1000000000) :
    Calls Try.prog 63 #[.agg #[v], .int .i64 k0] w (Mark2 v k0 xs.length w) := by
  obtain ⟨A, c, hv, q1, q2, q3⟩ := id h
  clear q1 q2 q3
  rw [fl_len] at hv
  subst hv
  have hb : Below w.heap.size w (w.alloc (.cells #[.slice A xs.length c] 91)) := (Below.refl _ _).alloc (Nat.le_refl _) _
  have HM := Lib.hid (markF_any _ xs k0 _ lo (h.below hb) hm hk0 hk1)
  go_enter Try.func63, Try.ntmps63
  go_wp2_with fail
  refine HM.out.mono ?_
  rintro e w1 ⟨rfl, hw⟩
  go_wp2_with fail
  go_ret
  exact ⟨rfl, _, hb, rfl⟩
end Go.Proofs.Ythkklilfignmpaa
