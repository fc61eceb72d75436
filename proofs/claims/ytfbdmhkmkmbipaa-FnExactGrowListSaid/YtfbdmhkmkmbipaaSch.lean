/-
  Contracts: the law's own copies and comparisons of schemes.
-/
import Derived.Test.YtfbdmhkmkmbipaaFin
import Derived.Test.YtfbdmhkmkmbipaaBox
namespace Go.Proofs.Ytfbdmhkmkmbipaa.Sf
open Go.RowKit Fl
set_option linter.unusedVariables false

/-- A new scheme with these numbers, in memory of its own. -/
def MadeS (xs : List Nat) (s : Nat) (w : World) (e : Ending) (w' : World) : Prop :=
  ∃ g, e = .returned (.agg #[.slice (some ⟨g, 0, none⟩) xs.length xs.length, .float .f32 s]) ∧ Own w' w.heap.size (.slice (some ⟨g, 0, none⟩) xs.length xs.length) (fl xs) ∧ Below w.heap.size w w'

set_option maxRecDepth 100000 in
set_option maxHeartbeats 1000000 in
theorem toSch_any (v : Value) (xs : List Nat) (s : Nat) (w : World) (h : Rd w w.heap.size v (fl xs)) (hm : xs.length ≤ 1048576) :
    Calls Try.prog 17 #[.agg #[v, .float .f32 s]] w (MadeS xs s w) := by
  obtain ⟨A, c, hv, q1, q2, q3⟩ := id h
  clear q1 q2 q3
  rw [fl_len] at hv
  subst hv
  have HT := Lib.hid (fun (w' : World) (hb : Below w.heap.size w w') => toF_any (.slice A xs.length c) xs w' w.heap.size (h.below hb) hb.size hm)
  go_enter Try.func17, Try.ntmps17
  have hsf : ∀ (a : Addr) (x : Nat) (w : World), (store a (.float .f32 x)).run Try.prog w = stored Try.prog w a (.float .f32 x) .plain := fun a x w => run_store _ w a _ _ rfl
  go_wp2_with fail
  refine (HT.out _ (((Below.refl _ _).alloc (Nat.le_refl _) _).alloc (by simp) _ |>.alloc (by simp; omega) _)).mono ?_
  rintro e w1 ⟨g, rfl, ho, hb⟩
  obtain ⟨hc, hf⟩ := bcell hb
  have hz := hb.size
  simp at hz
  go_wp2_with fail
  have hb0 : Below w.heap.size w w1 := (((Below.refl _ _).alloc (Nat.le_refl _) _).alloc (by simp) _ |>.alloc (by simp; omega) _).trans (hb.mono (by simp; omega))
  have ho1 := (((Own.row ho).setLess (a := ⟨w.heap.size + 1 + 1, 0, none⟩) (by simp) (.slice (some ⟨g, 0, none⟩) xs.length xs.length)).setLess (a := ⟨w.heap.size + 1 + 1, 1, none⟩) (by simp) (.float .f32 s)).setLess (a := ⟨w.heap.size + 1, 0, none⟩) (by simp) (.slice (some ⟨g, 0, none⟩) xs.length xs.length) |>.setLess (a := ⟨w.heap.size + 1, 1, none⟩) (by simp) (.float .f32 s)
  have ho2 := ho1.less (lo' := w.heap.size) (by simp; omega)
  have hb1 := (((hb0.setCell (p := ⟨w.heap.size + 1 + 1, 0, none⟩) (by show _ ≤ w.heap.size + 1 + 1; omega) (.slice (some ⟨g, 0, none⟩) xs.length xs.length)).setCell (p := ⟨w.heap.size + 1 + 1, 1, none⟩) (by show _ ≤ w.heap.size + 1 + 1; omega) (.float .f32 s)).setCell (p := ⟨w.heap.size + 1, 0, none⟩) (by show _ ≤ w.heap.size + 1; omega) (.slice (some ⟨g, 0, none⟩) xs.length xs.length)).setCell (p := ⟨w.heap.size + 1, 1, none⟩) (by show _ ≤ w.heap.size + 1; omega) (.float .f32 s)
  clear ho ho1 hb hb0
  exact bodyPost_ret (v := .agg #[.slice (some ⟨g, 0, none⟩) xs.length xs.length, .float .f32 s]) (by simp [results, Try.results17, go_sem, hc]) rfl ⟨g, rfl, ho2, hb1⟩

/-- Returns yes, and turns nothing that there was. -/
def Yes (w : World) (e : Ending) (w' : World) : Prop := e = .returned (.bool true) ∧ Below w.heap.size w w'
set_option maxRecDepth 100000 in
set_option maxHeartbeats 1000000 in
theorem eqSch_any (v u : Value) (xs : List Nat) (s : Nat) (w : World) (h1 : Rd w w.heap.size v (fl xs)) (h2 : Rd w w.heap.size u (fl xs)) (hm : xs.length ≤ 1048576) :
    Calls Try.prog 21 #[.agg #[v, .float .f32 s], .agg #[u, .float .f32 s]] w (Yes w) := by
  have HE := Lib.hid (fun (w' : World) (hb : Below w.heap.size w w') => eqF_any v u xs xs w' w.heap.size (h1.below hb) (h2.below hb) (Worth.refl _) hm)
  obtain ⟨A, c, hv, q1, q2, q3⟩ := id h1
  obtain ⟨A', c', hv', q4, q5, q6⟩ := id h2
  clear q1 q2 q3 q4 q5 q6
  rw [fl_len] at hv hv'
  subst hv hv'
  go_enter Try.func21, Try.ntmps21
  go_wp2_with fail
  refine (HE.out _ (((Below.refl _ _).alloc (Nat.le_refl _) _).alloc (by simp) _)).mono ?_
  rintro e w1 ⟨rfl, n, rfl⟩
  go_wp2_with (first | (refine up_wide (by rw [Try.underlying23]; rfl) Try.underlying72 ?_; intro r n hr) | (go_at_call 55; refine (same_wi _ _ _ (by assumption) (by assumption) rfl).mono ?_; rintro e w' ⟨rfl, n5, rfl⟩))
  go_ret
  exact ⟨rfl, below_drawn (((Below.refl _ _).alloc (Nat.le_refl _) _).alloc (by simp) _) _⟩
set_option maxRecDepth 100000 in
theorem szF_any (v : Value) (xs : List Nat) (l : Int) (w : World) (B : Nat) (h : Rd w B v (fl xs)) (h0 : 0 ≤ l) (h1 : l ≤ 1048576) (hm : xs.length ≤ 9223372036854775807) :
    Calls Try.prog 56 #[v, .int .i64 l] w fun e w' => e = .returned (.int .i64 (if l < xs.length then -1 else l - xs.length)) ∧ w = w' := by
  obtain ⟨A, c, hv, hc1, hc2, hcell⟩ := h
  rw [fl_len] at hv
  subst hv
  clear hcell hc1 hc2
  by_cases hl : l < xs.length
  · rw [if_pos hl]
    go_enter Try.func56, Try.ntmps56
    go_wp2_with fail
    go_ret
    exact ⟨rfl, rfl⟩
  · rw [if_neg hl]
    have hl' : (xs.length : Int) ≤ l := by omega
    clear hl
    go_enter Try.func56, Try.ntmps56
    go_wp2_with fail
    go_ret
    exact ⟨rfl, rfl⟩
set_option maxRecDepth 100000 in
set_option maxHeartbeats 400000 in
theorem szSch_any (v : Value) (xs : List Nat) (s : Nat) (l : Int) (w : World) (h : Rd w w.heap.size v (fl xs)) (h0 : 0 ≤ l) (h1 : l ≤ 1048576) (hm : xs.length ≤ 9223372036854775807) :
    Calls Try.prog 15 #[.agg #[v, .float .f32 s], .int .i64 l] w fun e w' => e = .returned (.int .i64 (if l < xs.length then -1 else l - xs.length)) ∧ Below w.heap.size w w' := by
  obtain ⟨A, c, hv, q1, q2, q3⟩ := id h
  clear q1 q2 q3
  rw [fl_len] at hv
  subst hv
  have HZ := Lib.hid (fun (w' : World) (hb : Below w.heap.size w w') => szF_any (.slice A xs.length c) xs l w' w.heap.size (h.below hb) h0 h1 hm)
  by_cases hl : l < xs.length
  · rw [if_pos hl] at HZ ⊢
    go_enter Try.func15, Try.ntmps15
    go_wp2_with fail
    refine (HZ.out _ ((Below.refl _ _).alloc (Nat.le_refl _) _)).mono ?_
    rintro e w1 ⟨rfl, rfl⟩
    go_wp2_with fail
    go_ret
    exact ⟨rfl, (Below.refl _ _).alloc (Nat.le_refl _) _⟩
  · rw [if_neg hl] at HZ ⊢
    have hl' : (xs.length : Int) ≤ l := by omega
    clear hl
    go_enter Try.func15, Try.ntmps15
    go_wp2_with fail
    refine (HZ.out _ ((Below.refl _ _).alloc (Nat.le_refl _) _)).mono ?_
    rintro e w1 ⟨rfl, rfl⟩
    go_wp2_with fail
    go_ret
    exact ⟨rfl, (Below.refl _ _).alloc (Nat.le_refl _) _⟩
end Go.Proofs.Ytfbdmhkmkmbipaa.Sf
