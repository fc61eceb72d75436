/-
  Contracts: valid schemes, of both sides.
-/
import Derived.Test.YtfbdmhkmkmbipaaSch
namespace Go.Proofs.Ytfbdmhkmkmbipaa.Sf
open Go.RowKit Fl
set_option linter.unusedVariables false

def gtB (s : Nat) : Bool := FloatKind.f32.format.order s 0 == some .gt
def vsB (xs : List Nat) (s : Nat) : Bool := decide (1 ≤ xs.length ∧ xs.length ≤ 8) && finA xs && finB .f32 s && gtB s
def RetBB (b : Bool) (w : World) (e : Ending) (w' : World) : Prop := e = .returned (.bool b) ∧ Below w.heap.size w w'
theorem abv_any (s : Nat) (w : World) (hs : s < 2 ^ 32) : Calls Try.prog 116 #[.float .f32 s] w (RetBo (finB .f32 s && gtB s) w) := by
  have HF := Lib.hid (fun w => specFin_any s w hs)
  cases hf : finB .f32 s with
  | true =>
    have H1 := Lib.hid hf
    cases hg : gtB s with
    | true =>
      have hg' : (FloatKind.f32.format.order s 0 == some .gt) = true := hg
      clear hf hg
      go_enter Try.func116, Try.ntmps116
      go_wp2_with (go_at_call 122; refine (HF.out _).mono ?_; rintro e w' ⟨rfl, n, rfl⟩; rw [H1.out])
      go_ret
      exact ⟨rfl, _, rfl⟩
    | false =>
      have hg' : (FloatKind.f32.format.order s 0 == some .gt) = false := hg
      clear hf hg
      go_enter Try.func116, Try.ntmps116
      go_wp2_with (go_at_call 122; refine (HF.out _).mono ?_; rintro e w' ⟨rfl, n, rfl⟩; rw [H1.out])
      go_ret
      exact ⟨rfl, _, rfl⟩
  | false =>
    have H1 := Lib.hid hf
    clear hf
    go_enter Try.func116, Try.ntmps116
    go_wp2_with (go_at_call 122; refine (HF.out _).mono ?_; rintro e w' ⟨rfl, n, rfl⟩; rw [H1.out])
    go_ret
    exact ⟨rfl, _, rfl⟩
set_option maxRecDepth 100000 in
set_option maxHeartbeats 1000000 in
theorem vsI_any (v : Value) (xs : List Nat) (s : Nat) (w : World) (h : Rd w w.heap.size v (fl xs)) (hm : xs.length ≤ 1048576) (hx : ∀ x ∈ xs, x < 2 ^ 32) (hs : s < 2 ^ 32) :
    Calls Try.prog 60 #[.agg #[v, .float .f32 s]] w (RetBB (vsB xs s) w) := by
  obtain ⟨A, c, hv, q1, q2, q3⟩ := id h
  clear q1 q2 q3
  rw [fl_len] at hv
  subst hv
  have HX := Lib.hid hx
  clear hx
  have hr : ∀ (o : Obj), Rd (w.alloc o) w.heap.size (.slice A xs.length c) (fl xs) := fun o => h.below ((Below.refl _ _).alloc (Nat.le_refl _) o)
  have HR := Lib.hid hr
  clear hr
  by_cases h1 : 1 ≤ xs.length
  · by_cases h8 : xs.length ≤ 8
    · cases hfi : finA xs with
      | true =>
        have HFI := Lib.hid hfi
        cases hfs : finB .f32 s with
        | true =>
          have HFS := Lib.hid hfs
          cases hg : gtB s with
          | true =>
            have HV := Lib.hid (show vsB xs s = true by unfold vsB; rw [decide_eq_true ⟨h1, h8⟩, hfi, hfs, hg]; rfl)
            have HG := Lib.hid hg
            have hg' : (FloatKind.f32.format.order s 0 == some .gt) = true := hg
            clear hfi hfs hg
            go_enter Try.func60, Try.ntmps60
            go_wp2_with (first | (go_at_call 63; refine (finI_any _ _ _ _ (HR.out _) hm HX.out).mono ?_; rintro e w' ⟨rfl, n1, rfl⟩; rw [HFI.out]) | (go_at_call 118; refine (implFin_any s _ hs).mono ?_; rintro e w' ⟨rfl, n2, rfl⟩; rw [HFS.out]))
            go_ret
            rw [HV.out]
            exact ⟨rfl, below_drawn ((Below.refl _ _).alloc (Nat.le_refl _) _) _⟩
          | false =>
            have HV := Lib.hid (show vsB xs s = false by unfold vsB; rw [hg]; simp)
            have HG := Lib.hid hg
            have hg' : (FloatKind.f32.format.order s 0 == some .gt) = false := hg
            clear hfi hfs hg
            go_enter Try.func60, Try.ntmps60
            go_wp2_with (first | (go_at_call 63; refine (finI_any _ _ _ _ (HR.out _) hm HX.out).mono ?_; rintro e w' ⟨rfl, n1, rfl⟩; rw [HFI.out]) | (go_at_call 118; refine (implFin_any s _ hs).mono ?_; rintro e w' ⟨rfl, n2, rfl⟩; rw [HFS.out]))
            go_ret
            rw [HV.out]
            exact ⟨rfl, below_drawn ((Below.refl _ _).alloc (Nat.le_refl _) _) _⟩
        | false =>
          have HFS := Lib.hid hfs
          have HV := Lib.hid (show vsB xs s = false by unfold vsB; rw [hfs]; simp)
          have HG := Lib.hid (rfl : gtB s = gtB s)
          clear hfi hfs
          go_enter Try.func60, Try.ntmps60
          go_wp2_with (first | (go_at_call 63; refine (finI_any _ _ _ _ (HR.out _) hm HX.out).mono ?_; rintro e w' ⟨rfl, n1, rfl⟩; rw [HFI.out]) | (go_at_call 118; refine (implFin_any s _ hs).mono ?_; rintro e w' ⟨rfl, n2, rfl⟩; rw [HFS.out]))
          go_ret
          rw [HV.out]
          exact ⟨rfl, below_drawn ((Below.refl _ _).alloc (Nat.le_refl _) _) _⟩
      | false =>
        have HFI := Lib.hid hfi
        have HV := Lib.hid (show vsB xs s = false by unfold vsB; rw [hfi]; simp)
        clear hfi
        go_enter Try.func60, Try.ntmps60
        go_wp2_with (go_at_call 63; refine (finI_any _ _ _ _ (HR.out _) hm HX.out).mono ?_; rintro e w' ⟨rfl, n1, rfl⟩; rw [HFI.out])
        go_ret
        rw [HV.out]
        exact ⟨rfl, below_drawn ((Below.refl _ _).alloc (Nat.le_refl _) _) _⟩
    · have HV := Lib.hid (show vsB xs s = false by unfold vsB; rw [decide_eq_false (by omega)]; rfl)
      have h9 : 8 < xs.length := by omega
      clear h8
      go_enter Try.func60, Try.ntmps60
      go_wp2_with fail
      go_ret
      rw [HV.out]
      exact ⟨rfl, (Below.refl _ _).alloc (Nat.le_refl _) _⟩
  · have HV := Lib.hid (show vsB xs s = false by unfold vsB; rw [decide_eq_false (by omega)]; rfl)
    have h0 : xs.length < 1 := by omega
    clear h1
    go_enter Try.func60, Try.ntmps60
    go_wp2_with fail
    go_ret
    rw [HV.out]
    exact ⟨rfl, (Below.refl _ _).alloc (Nat.le_refl _) _⟩
set_option maxRecDepth 100000 in
set_option maxHeartbeats 1000000 in
theorem vsP_any (g : Nat) (v : Value) (xs : List Nat) (s : Nat) (w : World) (B : Nat) (h : Rd w B v (fl xs)) (hc0 : w.cell? ⟨g, 0, none⟩ = some v) (hc1 : w.cell? ⟨g, 1, none⟩ = some (.float .f32 s)) (hm : xs.length ≤ 1048576) (hx : ∀ x ∈ xs, x < 2 ^ 32) (hs : s < 2 ^ 32) :
    Calls Try.prog 57 #[.pointer (some ⟨g, 0, none⟩)] w (RetBo (vsB xs s) w) := by
  obtain ⟨A, c, hv, q1, q2, q3⟩ := id h
  clear q1 q2 q3
  rw [fl_len] at hv
  subst hv
  have HX := Lib.hid hx
  clear hx
  by_cases h1 : 1 ≤ xs.length
  · by_cases h8 : xs.length ≤ 8
    · cases hfi : finA xs with
      | true =>
        have HFI := Lib.hid hfi
        cases hfs : finB .f32 s with
        | true =>
          have HFS := Lib.hid hfs
          cases hg : gtB s with
          | true =>
            have HV := Lib.hid (show vsB xs s = true by unfold vsB; rw [decide_eq_true ⟨h1, h8⟩, hfi, hfs, hg]; rfl)
            have HG := Lib.hid hg
            have hg' : (FloatKind.f32.format.order s 0 == some .gt) = true := hg
            clear hfi hfs hg
            go_enter Try.func57, Try.ntmps57
            go_wp2_with (first | (go_at_call 65; refine (finS_any _ _ _ _ h hm HX.out).mono ?_; rintro e w' ⟨rfl, n1, rfl⟩; rw [HFI.out]) | (go_at_call 116; refine (abv_any s _ hs).mono ?_; rintro e w' ⟨rfl, n2, rfl⟩; (first | rw [HFS.out, Bool.false_and] | rw [HFS.out, HG.out])))
            go_ret
            rw [HV.out]
            exact ⟨rfl, _, rfl⟩
          | false =>
            have HV := Lib.hid (show vsB xs s = false by unfold vsB; rw [hg]; simp)
            have HG := Lib.hid hg
            have hg' : (FloatKind.f32.format.order s 0 == some .gt) = false := hg
            clear hfi hfs hg
            go_enter Try.func57, Try.ntmps57
            go_wp2_with (first | (go_at_call 65; refine (finS_any _ _ _ _ h hm HX.out).mono ?_; rintro e w' ⟨rfl, n1, rfl⟩; rw [HFI.out]) | (go_at_call 116; refine (abv_any s _ hs).mono ?_; rintro e w' ⟨rfl, n2, rfl⟩; (first | rw [HFS.out, Bool.false_and] | rw [HFS.out, HG.out])))
            go_ret
            rw [HV.out]
            exact ⟨rfl, _, rfl⟩
        | false =>
          have HFS := Lib.hid hfs
          have HV := Lib.hid (show vsB xs s = false by unfold vsB; rw [hfs]; simp)
          have HG := Lib.hid (rfl : gtB s = gtB s)
          clear hfi hfs
          go_enter Try.func57, Try.ntmps57
          go_wp2_with (first | (go_at_call 65; refine (finS_any _ _ _ _ h hm HX.out).mono ?_; rintro e w' ⟨rfl, n1, rfl⟩; rw [HFI.out]) | (go_at_call 116; refine (abv_any s _ hs).mono ?_; rintro e w' ⟨rfl, n2, rfl⟩; (first | rw [HFS.out, Bool.false_and] | rw [HFS.out, HG.out])))
          go_ret
          rw [HV.out]
          exact ⟨rfl, _, rfl⟩
      | false =>
        have HFI := Lib.hid hfi
        have HV := Lib.hid (show vsB xs s = false by unfold vsB; rw [hfi]; simp)
        clear hfi
        go_enter Try.func57, Try.ntmps57
        go_wp2_with (go_at_call 65; refine (finS_any _ _ _ _ h hm HX.out).mono ?_; rintro e w' ⟨rfl, n1, rfl⟩; rw [HFI.out])
        go_ret
        rw [HV.out]
        exact ⟨rfl, _, rfl⟩
    · have HV := Lib.hid (show vsB xs s = false by unfold vsB; rw [decide_eq_false (by omega)]; rfl)
      have h9 : 8 < xs.length := by omega
      clear h8
      go_enter Try.func57, Try.ntmps57
      go_wp2_with fail
      go_ret
      rw [HV.out]
      exact ⟨rfl, 0, rfl⟩
  · have HV := Lib.hid (show vsB xs s = false by unfold vsB; rw [decide_eq_false (by omega)]; rfl)
    have h0 : xs.length < 1 := by omega
    clear h1
    go_enter Try.func57, Try.ntmps57
    go_wp2_with fail
    go_ret
    rw [HV.out]
    exact ⟨rfl, 0, rfl⟩
end Go.Proofs.Ytfbdmhkmkmbipaa.Sf
