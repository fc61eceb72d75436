/-
  Contracts: ValidCoded of both sides.
-/
import Derived.Test.YthkklilfignmpaaCiL
import Derived.Test.YthkklilfignmpaaIn
import Derived.Test.YthkklilfignmpaaZz
import Derived.Deep.QuietTactic
import Derived.BigQuiet
namespace Go.Proofs.Ythkklilfignmpaa.Cf
open Go.RowKit Fl
set_option linter.unusedVariables false

def RetBB (b : Bool) (w : World) (e : Ending) (w' : World) : Prop := e = .returned (.bool b) ∧ Below w.heap.size w w'
theorem inD_any (k lo hi : Int) (w : World) : Calls Try.prog 131 #[.int .i64 k, .int .i64 lo, .int .i64 hi] w fun e w' => e = .returned (.bool (decide (lo ≤ k ∧ k ≤ hi))) ∧ w = w' := by
  by_cases h : lo ≤ k ∧ k ≤ hi
  · rw [decide_eq_true h]; exact in_yes k lo hi w h.1 h.2
  · rw [decide_eq_false h]; exact in_not k lo hi w (by omega)
def cnB (k : Int) : Bool := decide (1 ≤ k ∧ k ≤ 128)
theorem cnB_out {k : Int} (h : cnB k = true) : 1 ≤ k ∧ k ≤ 128 := of_decide_eq_true h
def stB (xs : List Bool) : Bool := decide (xs.length ≤ 32768)
def plB (k : Int) : Bool := decide (0 ≤ k ∧ k ≤ 24)
theorem plI_any (k : Int) (w : World) : Calls Try.prog 144 #[.int .i64 k] w fun e w' => e = .returned (.bool (plB k)) ∧ w = w' := by
  by_cases h1 : 0 ≤ k
  · by_cases h2 : k ≤ 24
    · have HN := Lib.hid (show plB k = true from decide_eq_true ⟨h1, h2⟩)
      have HD := Lib.hid (show decide (k ≤ 24) = true from decide_eq_true h2)
      clear h2
      go_enter Try.func144, Try.ntmps144
      go_wp2_with fail
      go_ret
      rw [HN.out]
      exact ⟨by rw [← HD.out]; rfl, rfl⟩
    · have HN := Lib.hid (show plB k = false from decide_eq_false (by omega))
      have HD := Lib.hid (show decide (k ≤ 24) = false from decide_eq_false h2)
      clear h2
      go_enter Try.func144, Try.ntmps144
      go_wp2_with fail
      go_ret
      rw [HN.out]
      exact ⟨by rw [← HD.out]; rfl, rfl⟩
  · have HN := Lib.hid (show plB k = false from decide_eq_false (by omega))
    have h3 : k < 0 := by omega
    clear h1
    go_enter Try.func144, Try.ntmps144
    go_wp2_with fail
    go_ret
    rw [HN.out]
    exact ⟨rfl, rfl⟩
theorem plB_out {k : Int} (h : plB k = true) : 0 ≤ k ∧ k ≤ 24 := of_decide_eq_true h
theorem inC_any (k : Int) (w : World) : Calls Try.prog 131 #[.int .i64 k, .int .i64 1, .int .i64 128] w fun e w' => e = .returned (.bool (cnB k)) ∧ w = w' := inD_any k 1 128 w
theorem inPl_any (k : Int) (w : World) : Calls Try.prog 131 #[.int .i64 k, .int .i64 0, .int .i64 24] w fun e w' => e = .returned (.bool (plB k)) ∧ w = w' := inD_any k 0 24 w
theorem stI_any (v : Value) (xs : List Bool) (w : World) (B : Nat) (h : Rd w B v (bl xs)) : Calls Try.prog 145 #[v] w fun e w' => e = .returned (.bool (stB xs)) ∧ w = w' := by
  obtain ⟨A, c, hv, _, _, _⟩ := h
  rw [bl_len] at hv
  subst hv
  have HD := Lib.hid (show stB xs = decide ((xs.length : Int) ≤ 32768) by unfold stB; rw [decide_eq_decide]; omega)
  go_enter Try.func145, Try.ntmps145
  go_wp2_with fail
  go_ret
  rw [HD.out]
  exact ⟨rfl, rfl⟩
def vcB (p q : Int) (xs : List Bool) : Bool := cnB p && plB q && stB xs
theorem vcB_out {p q : Int} {xs : List Bool} (h : vcB p q xs = true) : (1 ≤ p ∧ p ≤ 128) ∧ (0 ≤ q ∧ q ≤ 24) ∧ xs.length ≤ 32768 := by
  unfold vcB at h; rw [Bool.and_eq_true, Bool.and_eq_true] at h
  exact ⟨cnB_out h.1.1, plB_out h.1.2, of_decide_eq_true h.2⟩
set_option maxRecDepth 100000 in
set_option maxHeartbeats 1000000 in
theorem vcP_any (g : Nat) (v : Value) (p q : Int) (xs : List Bool) (w : World) (B : Nat) (h : Rd w B v (bl xs)) (k0 : w.cell? ⟨g, 0, none⟩ = some (.int .i64 p)) (k1 : w.cell? ⟨g, 1, none⟩ = some (.int .i64 q)) (k2 : w.cell? ⟨g, 2, none⟩ = some v) :
    Calls Try.prog 140 #[.pointer (some ⟨g, 0, none⟩)] w fun e w' => e = .returned (.bool (vcB p q xs)) ∧ w = w' := by
  obtain ⟨A, c, hv, _, _, _⟩ := h
  rw [bl_len] at hv
  subst hv
  have HD := Lib.hid (show stB xs = decide ((xs.length : Int) ≤ 32768) by unfold stB; rw [decide_eq_decide]; omega)
  cases t1 : cnB p with
  | false =>
    have HV := Lib.hid (show vcB p q xs = false by unfold vcB; rw [t1]; rfl)
    have T1 := Lib.hid t1
    clear t1
    go_enter Try.func140, Try.ntmps140
    go_wp2_with (first | (go_at_call_of 131 p; refine (inC_any p _).mono ?_; rintro e w' ⟨rfl, rfl⟩; rw [T1.out]))
    go_ret
    rw [HV.out]
    exact ⟨rfl, rfl⟩
  | true =>
    cases t2 : plB q with
    | false =>
      have HV := Lib.hid (show vcB p q xs = false by unfold vcB; rw [t1, t2]; rfl)
      have T1 := Lib.hid t1
      have T2 := Lib.hid t2
      clear t1 t2
      go_enter Try.func140, Try.ntmps140
      go_wp2_with (first | (go_at_call_of 131 p; refine (inC_any p _).mono ?_; rintro e w' ⟨rfl, rfl⟩; rw [T1.out]) | (go_at_call_of 131 q; refine (inPl_any q _).mono ?_; rintro e w' ⟨rfl, rfl⟩; rw [T2.out]))
      go_ret
      rw [HV.out]
      exact ⟨rfl, rfl⟩
    | true =>
      have HV := Lib.hid (show vcB p q xs = stB xs by unfold vcB; rw [t1, t2]; rfl)
      have T1 := Lib.hid t1
      have T2 := Lib.hid t2
      clear t1 t2
      go_enter Try.func140, Try.ntmps140
      go_wp2_with (first | (go_at_call_of 131 p; refine (inC_any p _).mono ?_; rintro e w' ⟨rfl, rfl⟩; rw [T1.out]) | (go_at_call_of 131 q; refine (inPl_any q _).mono ?_; rintro e w' ⟨rfl, rfl⟩; rw [T2.out]))
      go_ret
      rw [HV.out, HD.out]
      exact ⟨rfl, rfl⟩
set_option maxRecDepth 100000 in
set_option maxHeartbeats 1000000 in
theorem vcI_any (v : Value) (p q : Int) (xs : List Bool) (w : World) (h : Rd w w.heap.size v (bl xs)) :
    Calls Try.prog 78 #[.agg #[.int .i64 p, .int .i64 q, v]] w (RetBB (vcB p q xs) w) := by
  obtain ⟨A, c, hv, _, _, _⟩ := id h
  rw [bl_len] at hv
  subst hv
  have hb : Below w.heap.size w (w.alloc (.cells #[.int .i64 p, .int .i64 q, .slice A xs.length c] 37)) := (Below.refl _ _).alloc (Nat.le_refl _) _
  have HS := Lib.hid (stI_any (.slice A xs.length c) xs _ _ (h.below hb))
  have HB := Lib.hid hb
  clear h hb
  by_cases h1 : 1 ≤ p
  · by_cases h2 : p ≤ 128
    · cases t2 : plB q with
      | false =>
        have HV := Lib.hid (show vcB p q xs = false by unfold vcB; rw [t2, show cnB p = true from decide_eq_true ⟨h1, h2⟩]; rfl)
        have T2 := Lib.hid t2
        clear t2
        go_enter Try.func78, Try.ntmps78
        go_wp2_with (go_at_call 144; refine (plI_any q _).mono ?_; rintro e w' ⟨rfl, rfl⟩; rw [T2.out])
        go_ret
        rw [HV.out]
        exact ⟨rfl, HB.out⟩
      | true =>
        have HV := Lib.hid (show vcB p q xs = stB xs by unfold vcB; rw [t2, show cnB p = true from decide_eq_true ⟨h1, h2⟩]; rfl)
        have T2 := Lib.hid t2
        clear t2
        go_enter Try.func78, Try.ntmps78
        go_wp2_with (first | (go_at_call 144; refine (plI_any q _).mono ?_; rintro e w' ⟨rfl, rfl⟩; rw [T2.out]) | (go_at_call 145; refine HS.out.mono ?_; rintro e w' ⟨rfl, rfl⟩))
        go_ret
        rw [HV.out]
        exact ⟨rfl, HB.out⟩
    · have HV := Lib.hid (show vcB p q xs = false by unfold vcB; rw [show cnB p = false from decide_eq_false (by omega)]; rfl)
      have h3 : 128 < p := by omega
      clear h2
      go_enter Try.func78, Try.ntmps78
      go_wp2_with fail
      go_ret
      rw [HV.out]
      exact ⟨rfl, HB.out⟩
  · have HV := Lib.hid (show vcB p q xs = false by unfold vcB; rw [show cnB p = false from decide_eq_false (by omega)]; rfl)
    have h3 : p < 1 := by omega
    clear h1
    go_enter Try.func78, Try.ntmps78
    go_wp2_with fail
    go_ret
    rw [HV.out]
    exact ⟨rfl, HB.out⟩
end Go.Proofs.Ythkklilfignmpaa.Cf
