/-
  Contracts by pointers into a desk: schemes, pictures and codes that lie in it.
-/
import Derived.Test.YthkklilfignmpaaVs
import Derived.Test.YthkklilfignmpaaSamS
import Derived.Test.YthkklilfignmpaaSps
import Derived.Test.YthkklilfignmpaaSc
namespace Go.Proofs.Ythkklilfignmpaa.Sf
open Go.RowKit Fl
set_option linter.unusedVariables false
set_option maxRecDepth 100000 in
set_option maxHeartbeats 1000000 in
theorem vsO_any (g : Nat) (v : Value) (xs : List Nat) (s : Nat) (w : World) (B : Nat) (h : Rd w B v (fl xs)) (hc0 : w.cell? ⟨g, 1, none⟩ = some v) (hc1 : w.cell? ⟨g, 2, none⟩ = some (.float .f32 s)) (hm : xs.length ≤ 1048576) (hx : ∀ x ∈ xs, x < 2 ^ 32) (hs : s < 2 ^ 32) :
    Calls Try.prog 139 #[.pointer (some ⟨g, 1, none⟩)] w (RetBo (vsB xs s) w) := by
  obtain ⟨A, c, hv, q1, q2, q3⟩ := id h
  clear q1 q2 q3
  rw [fl_len] at hv
  subst hv
  have HX := Lib.hid hx
  clear hx
  by_cases h1 : 1 ≤ xs.length
  · by_cases h8 : xs.length ≤ 8
    · cases hfi : finA xs with
      | true =>
        have HFI := Lib.hid hfi
        cases hfs : finB .f32 s with
        | true =>
          have HFS := Lib.hid hfs
          cases hg : gtB s with
          | true =>
            have HV := Lib.hid (show vsB xs s = true by unfold vsB; rw [decide_eq_true ⟨h1, h8⟩, hfi, hfs, hg]; rfl)
            have HG := Lib.hid hg
            have hg' : (FloatKind.f32.format.order s 0 == some .gt) = true := hg
            clear hfi hfs hg
            go_enter Try.func139, Try.ntmps139
            go_wp2_with (first | (go_at_call 125; refine (finS_any _ _ _ _ h hm HX.out).mono ?_; rintro e w' ⟨rfl, n1, rfl⟩; rw [HFI.out]) | (go_at_call 120; refine (abv_any s _ hs).mono ?_; rintro e w' ⟨rfl, n2, rfl⟩; (first | rw [HFS.out, Bool.false_and] | rw [HFS.out, HG.out])))
            go_ret
            rw [HV.out]
            exact ⟨rfl, _, rfl⟩
          | false =>
            have HV := Lib.hid (show vsB xs s = false by unfold vsB; rw [hg]; simp)
            have HG := Lib.hid hg
            have hg' : (FloatKind.f32.format.order s 0 == some .gt) = false := hg
            clear hfi hfs hg
            go_enter Try.func139, Try.ntmps139
            go_wp2_with (first | (go_at_call 125; refine (finS_any _ _ _ _ h hm HX.out).mono ?_; rintro e w' ⟨rfl, n1, rfl⟩; rw [HFI.out]) | (go_at_call 120; refine (abv_any s _ hs).mono ?_; rintro e w' ⟨rfl, n2, rfl⟩; (first | rw [HFS.out, Bool.false_and] | rw [HFS.out, HG.out])))
            go_ret
            rw [HV.out]
            exact ⟨rfl, _, rfl⟩
        | false =>
          have HFS := Lib.hid hfs
          have HV := Lib.hid (show vsB xs s = false by unfold vsB; rw [hfs]; simp)
          have HG := Lib.hid (rfl : gtB s = gtB s)
          clear hfi hfs
          go_enter Try.func139, Try.ntmps139
          go_wp2_with (first | (go_at_call 125; refine (finS_any _ _ _ _ h hm HX.out).mono ?_; rintro e w' ⟨rfl, n1, rfl⟩; rw [HFI.out]) | (go_at_call 120; refine (abv_any s _ hs).mono ?_; rintro e w' ⟨rfl, n2, rfl⟩; (first | rw [HFS.out, Bool.false_and] | rw [HFS.out, HG.out])))
          go_ret
          rw [HV.out]
          exact ⟨rfl, _, rfl⟩
      | false =>
        have HFI := Lib.hid hfi
        have HV := Lib.hid (show vsB xs s = false by unfold vsB; rw [hfi]; simp)
        clear hfi
        go_enter Try.func139, Try.ntmps139
        go_wp2_with (go_at_call 125; refine (finS_any _ _ _ _ h hm HX.out).mono ?_; rintro e w' ⟨rfl, n1, rfl⟩; rw [HFI.out])
        go_ret
        rw [HV.out]
        exact ⟨rfl, _, rfl⟩
    · have HV := Lib.hid (show vsB xs s = false by unfold vsB; rw [decide_eq_false (by omega)]; rfl)
      have h9 : 8 < xs.length := by omega
      clear h8
      go_enter Try.func139, Try.ntmps139
      go_wp2_with fail
      go_ret
      rw [HV.out]
      exact ⟨rfl, 0, rfl⟩
  · have HV := Lib.hid (show vsB xs s = false by unfold vsB; rw [decide_eq_false (by omega)]; rfl)
    have h0 : xs.length < 1 := by omega
    clear h1
    go_enter Try.func139, Try.ntmps139
    go_wp2_with fail
    go_ret
    rw [HV.out]
    exact ⟨rfl, 0, rfl⟩
end Go.Proofs.Ythkklilfignmpaa.Sf
namespace Go.Proofs.Ythkklilfignmpaa.Sg
open Go.RowKit Fl
set_option linter.unusedVariables false
set_option maxRecDepth 100000 in
set_option maxHeartbeats 1000000 in
theorem ssO_any (g1 g2 : Nat) (va vb : Value) (xs ys : List Nat) (s t : Nat) (w : World) (B B' : Nat) (ha : Rd w B va (fl xs)) (hb : Rd w B' vb (fl ys)) (a0 : w.cell? ⟨g1, 1, none⟩ = some va) (a1 : w.cell? ⟨g1, 2, none⟩ = some (.float .f32 s)) (b0 : w.cell? ⟨g2, 1, none⟩ = some vb) (b1 : w.cell? ⟨g2, 2, none⟩ = some (.float .f32 t)) (hm : xs.length ≤ 1048576) (hm' : ys.length ≤ 1048576) (hx : ∀ x ∈ xs, x < 2 ^ 32) (hy : ∀ x ∈ ys, x < 2 ^ 32) (hs : s < 2 ^ 32) (ht : t < 2 ^ 32) :
    Calls Try.prog 82 #[.pointer (some ⟨g1, 1, none⟩), .pointer (some ⟨g2, 1, none⟩)] w (RetBo (ssB xs s ys t) w) := by
  obtain ⟨A, c, hva, _, _, _⟩ := id ha
  obtain ⟨A', c', hvb, _, _, _⟩ := id hb
  rw [fl_len] at hva hvb
  subst hva hvb
  have HW := Lib.hid (fun n => wsP_any _ _ xs ys (w.drewN n) B B' (ha.drewN n) (hb.drewN n) hm hm' hx hy)
  have HS := Lib.hid (fun n => smP_any s t (w.drewN n) hs ht)
  clear hx hy
  cases hw : wsB xs ys
  all_goals
    rw [hw] at HW
    have HV := Lib.hid hw
    clear hw
    cases hss : smB s t
    all_goals
      rw [hss] at HS
      have HV2 := Lib.hid (show ssB xs s ys t = _ by unfold ssB; rw [HV.out, hss])
      clear hss
      go_enter Try.func82, Try.ntmps82
      go_wp2
      go_quiet ((first | (go_at_call 81; exact quietBo (HW.out _)) | (go_at_call 147; exact quietBo (HS.out _))))
      go_wp2
      go_ret
      rw [HV2.out]
      exact ⟨rfl, _, rfl⟩

end Go.Proofs.Ythkklilfignmpaa.Sg
namespace Go.Proofs.Ythkklilfignmpaa
open Go.RowKit Fl
set_option linter.unusedVariables false
set_option maxHeartbeats 2000000 in
theorem vpO_any (g : Nat) (v : Value) (p q : Int) (xs : List Nat) (w : World) (B : Nat) (h : Rd w B v (fl xs)) (hc0 : w.cell? ⟨g, 3, none⟩ = some (.int .i64 p)) (hc1 : w.cell? ⟨g, 4, none⟩ = some (.int .i64 q)) (hc2 : w.cell? ⟨g, 5, none⟩ = some v) (hm : xs.length ≤ 1048576) (hx : ∀ x ∈ xs, x < 2 ^ 32) :
    Calls Try.prog 101 #[.pointer (some ⟨g, 3, none⟩)] w (RetBo (vpcB p q xs) w) := by
  obtain ⟨A, c, hv, q1, q2, q3⟩ := id h
  clear q1 q2 q3
  rw [fl_len] at hv
  subst hv
  have HQ1 := Lib.hid (fun a => (ssS_any p q (w.drewN a)).mono (R' := fun e w'' => e = .returned (.bool (ssB p q)) ∧ ∃ q, w'' = w.drewN q) fun e w' ⟨he, hw⟩ => ⟨he, a, hw.symm⟩)
  have HQ2 := Lib.hid (fun a => (finS_any (.slice A xs.length c) xs (w.drewN a) B (h.drewN a) hm hx).mono (R' := fun e w'' => e = .returned (.bool (finA xs)) ∧ ∃ q, w'' = w.drewN q) fun e w' ⟨he, q, hw⟩ => ⟨he, a + q, by rw [hw, World.drewN_drewN]⟩)
  clear hx
  cases hs : ssB p q with
  | false =>
    rw [hs] at HQ1
    have HV := Lib.hid (show vpcB p q xs = false by unfold vpcB; rw [hs]; rfl)
    have HS := Lib.hid hs
    have HF := Lib.hid (rfl : finA xs = finA xs)
    clear hs
    go_enter Try.func101, Try.ntmps101
    go_wp2_with fail
    go_quiet ((first | exact HQ1.out _ | exact HQ2.out _))
    go_wp2
    go_ret
    rw [HV.out]
    exact ⟨rfl, _, rfl⟩
  | true =>
    obtain ⟨b1, b2⟩ := ssB_out hs
    have hpq := mul_bd b1 b2
    rw [hs] at HQ1
    by_cases he : (xs.length : Int) = p * q
    · cases hfi : finA xs with
      | true =>
        rw [hfi] at HQ2
        have HV := Lib.hid (show vpcB p q xs = true by unfold vpcB; rw [hs, hfi, decide_eq_true he]; rfl)
        have HF := Lib.hid hfi
        clear hs hfi
        go_enter Try.func101, Try.ntmps101
        go_wp2_with fail
        go_quiet ((first | exact HQ1.out _ | exact HQ2.out _))
        go_wp2
        go_ret
        rw [HV.out]
        exact ⟨rfl, _, rfl⟩
      | false =>
        rw [hfi] at HQ2
        have HV := Lib.hid (show vpcB p q xs = false by unfold vpcB; rw [hfi]; simp)
        have HF := Lib.hid hfi
        clear hs hfi
        go_enter Try.func101, Try.ntmps101
        go_wp2_with fail
        go_quiet ((first | exact HQ1.out _ | exact HQ2.out _))
        go_wp2
        go_ret
        rw [HV.out]
        exact ⟨rfl, _, rfl⟩
    · have HV := Lib.hid (show vpcB p q xs = false by unfold vpcB; rw [decide_eq_false he]; simp)
      have hbe : ((xs.length : Int) == p * q) = false := by rw [beq_eq_false_iff_ne]; exact he
      have hde : decide ((xs.length : Int) = p * q) = false := decide_eq_false he
      have HF := Lib.hid (rfl : finA xs = finA xs)
      clear hs
      go_enter Try.func101, Try.ntmps101
      go_wp2_with fail
      go_quiet ((first | exact HQ1.out _ | exact HQ2.out _))
      go_wp2
      go_ret
      rw [HV.out]
      exact ⟨rfl, _, rfl⟩
set_option maxRecDepth 100000 in
set_option maxHeartbeats 4000000 in
theorem spcO_any (g g' : Nat) (v0 v1 : Value) (p0 q0 p1 q1 : Int) (a0 a1 : List Nat) (w : World) (B : Nat) (h0 : Rd w B v0 (fl a0)) (h1 : Rd w B v1 (fl a1)) (hm0 : a0.length ≤ 1048576) (hm1 : a1.length ≤ 1048576) (HX0 : ∀ x ∈ a0, x < 2 ^ 32) (HX1 : ∀ x ∈ a1, x < 2 ^ 32)
    (k0 : w.cell? ⟨g, 3, none⟩ = some (.int .i64 p0)) (k1 : w.cell? ⟨g, 4, none⟩ = some (.int .i64 q0)) (k2 : w.cell? ⟨g, 5, none⟩ = some v0)
    (k3 : w.cell? ⟨g', 3, none⟩ = some (.int .i64 p1)) (k4 : w.cell? ⟨g', 4, none⟩ = some (.int .i64 q1)) (k5 : w.cell? ⟨g', 5, none⟩ = some v1) :
    Calls Try.prog 83 #[.pointer (some ⟨g, 3, none⟩), .pointer (some ⟨g', 3, none⟩)] w (RetBo (spcB p0 q0 a0 p1 q1 a1) w) := by
  obtain ⟨A0, c0, hv0, _, _, _⟩ := id h0
  obtain ⟨A1, c1, hv1, _, _, _⟩ := id h1
  rw [fl_len] at hv0 hv1
  subst hv0 hv1
  have HQ := Lib.hid (fun a => (wsP_any (.slice A0 a0.length c0) (.slice A1 a1.length c1) a0 a1 (w.drewN a) B B (h0.drewN a) (h1.drewN a) hm0 hm1 HX0 HX1).mono (R' := fun e w'' => e = .returned (.bool (wsB a0 a1)) ∧ ∃ q, w'' = w.drewN q) fun e w' ⟨he, q, hw⟩ => ⟨he, a + q, by rw [hw, World.drewN_drewN]⟩)
  clear h0 h1
  by_cases hp : p0 = p1
  · by_cases hq : q0 = q1
    · subst hp hq
      rw [show spcB p0 q0 a0 p0 q0 a1 = wsB a0 a1 by simp [spcB]]
      go_enter Try.func83, Try.ntmps83
      go_wp2_with fail
      go_quiet ((exact HQ.out _))
      go_wp2
      go_ret
      exact ⟨rfl, _, rfl⟩
    · rw [show spcB p0 q0 a0 p1 q1 a1 = false by simp [spcB, hq]]
      have hq' : (q0 == q1) = false := beq_eq_false_iff_ne.2 hq
      have hq2 : decide (q0 = q1) = false := decide_eq_false hq
      subst hp
      clear hq
      go_enter Try.func83, Try.ntmps83
      go_wp2_with fail
      go_quiet ((exact HQ.out _))
      go_wp2
      go_ret
      exact ⟨rfl, _, rfl⟩
  · rw [show spcB p0 q0 a0 p1 q1 a1 = false by simp [spcB, hp]]
    have hp' : (p0 == p1) = false := beq_eq_false_iff_ne.2 hp
    have hp2 : decide (p0 = p1) = false := decide_eq_false hp
    clear hp
    go_enter Try.func83, Try.ntmps83
    go_wp2_with fail
    go_quiet ((exact HQ.out _))
    go_wp2
    go_ret
    exact ⟨rfl, _, rfl⟩
end Go.Proofs.Ythkklilfignmpaa
namespace Go.Proofs.Ythkklilfignmpaa.Cf
open Go.RowKit Fl
set_option linter.unusedVariables false
set_option maxRecDepth 100000 in
set_option maxHeartbeats 1000000 in
theorem vcO_any (g : Nat) (v : Value) (p q : Int) (xs : List Bool) (w : World) (B : Nat) (h : Rd w B v (bl xs)) (k0 : w.cell? ⟨g, 6, none⟩ = some (.int .i64 p)) (k1 : w.cell? ⟨g, 7, none⟩ = some (.int .i64 q)) (k2 : w.cell? ⟨g, 8, none⟩ = some v) :
    Calls Try.prog 140 #[.pointer (some ⟨g, 6, none⟩)] w fun e w' => e = .returned (.bool (vcB p q xs)) ∧ w = w' := by
  obtain ⟨A, c, hv, _, _, _⟩ := h
  rw [bl_len] at hv
  subst hv
  have HD := Lib.hid (show stB xs = decide ((xs.length : Int) ≤ 32768) by unfold stB; rw [decide_eq_decide]; omega)
  cases t1 : cnB p with
  | false =>
    have HV := Lib.hid (show vcB p q xs = false by unfold vcB; rw [t1]; rfl)
    have T1 := Lib.hid t1
    clear t1
    go_enter Try.func140, Try.ntmps140
    go_wp2_with (first | (go_at_call_of 131 p; refine (inC_any p _).mono ?_; rintro e w' ⟨rfl, rfl⟩; rw [T1.out]))
    go_ret
    rw [HV.out]
    exact ⟨rfl, rfl⟩
  | true =>
    cases t2 : plB q with
    | false =>
      have HV := Lib.hid (show vcB p q xs = false by unfold vcB; rw [t1, t2]; rfl)
      have T1 := Lib.hid t1
      have T2 := Lib.hid t2
      clear t1 t2
      go_enter Try.func140, Try.ntmps140
      go_wp2_with (first | (go_at_call_of 131 p; refine (inC_any p _).mono ?_; rintro e w' ⟨rfl, rfl⟩; rw [T1.out]) | (go_at_call_of 131 q; refine (inPl_any q _).mono ?_; rintro e w' ⟨rfl, rfl⟩; rw [T2.out]))
      go_ret
      rw [HV.out]
      exact ⟨rfl, rfl⟩
    | true =>
      have HV := Lib.hid (show vcB p q xs = stB xs by unfold vcB; rw [t1, t2]; rfl)
      have T1 := Lib.hid t1
      have T2 := Lib.hid t2
      clear t1 t2
      go_enter Try.func140, Try.ntmps140
      go_wp2_with (first | (go_at_call_of 131 p; refine (inC_any p _).mono ?_; rintro e w' ⟨rfl, rfl⟩; rw [T1.out]) | (go_at_call_of 131 q; refine (inPl_any q _).mono ?_; rintro e w' ⟨rfl, rfl⟩; rw [T2.out]))
      go_ret
      rw [HV.out, HD.out]
      exact ⟨rfl, rfl⟩
set_option maxRecDepth 100000 in
set_option maxHeartbeats 4000000 in
theorem scO_any (g g' : Nat) (v0 v1 : Value) (p0 q0 p1 q1 : Int) (a0 a1 : List Bool) (w : World) (B : Nat) (h0 : Rd w B v0 (bl a0)) (h1 : Rd w B v1 (bl a1)) (hm0 : a0.length ≤ 1048576) (hm1 : a1.length ≤ 1048576)
    (k0 : w.cell? ⟨g, 6, none⟩ = some (.int .i64 p0)) (k1 : w.cell? ⟨g, 7, none⟩ = some (.int .i64 q0)) (k2 : w.cell? ⟨g, 8, none⟩ = some v0)
    (k3 : w.cell? ⟨g', 6, none⟩ = some (.int .i64 p1)) (k4 : w.cell? ⟨g', 7, none⟩ = some (.int .i64 q1)) (k5 : w.cell? ⟨g', 8, none⟩ = some v1) :
    Calls Try.prog 84 #[.pointer (some ⟨g, 6, none⟩), .pointer (some ⟨g', 6, none⟩)] w (RetBo (scdB p0 q0 a0 p1 q1 a1) w) := by
  obtain ⟨A0, c0, hv0, _, _, _⟩ := id h0
  obtain ⟨A1, c1, hv1, _, _, _⟩ := id h1
  rw [bl_len] at hv0 hv1
  subst hv0 hv1
  have HQ := Lib.hid (fun a => (sbS_any (.slice A0 a0.length c0) (.slice A1 a1.length c1) a0 a1 (w.drewN a) B B (h0.drewN a) (h1.drewN a) hm0 hm1).mono (R' := fun e w'' => e = .returned (.bool (decide (a0 = a1))) ∧ ∃ q, w'' = w.drewN q) fun e w' ⟨he, q, hw⟩ => ⟨he, a + q, by rw [hw, World.drewN_drewN]⟩)
  clear h0 h1
  by_cases hp : p0 = p1
  · by_cases hq : q0 = q1
    · subst hp hq
      rw [show scdB p0 q0 a0 p0 q0 a1 = decide (a0 = a1) by simp [scdB]]
      go_enter Try.func84, Try.ntmps84
      go_wp2_with fail
      go_quiet ((exact HQ.out _))
      go_wp2
      go_ret
      exact ⟨rfl, _, rfl⟩
    · rw [show scdB p0 q0 a0 p1 q1 a1 = false by simp [scdB, hq]]
      have hq' : (q0 == q1) = false := beq_eq_false_iff_ne.2 hq
      have hq2 : decide (q0 = q1) = false := decide_eq_false hq
      subst hp
      clear hq
      go_enter Try.func84, Try.ntmps84
      go_wp2_with fail
      go_quiet ((exact HQ.out _))
      go_wp2
      go_ret
      exact ⟨rfl, _, rfl⟩
  · rw [show scdB p0 q0 a0 p1 q1 a1 = false by simp [scdB, hp]]
    have hp' : (p0 == p1) = false := beq_eq_false_iff_ne.2 hp
    have hp2 : decide (p0 = p1) = false := decide_eq_false hp
    clear hp
    go_enter Try.func84, Try.ntmps84
    go_wp2_with fail
    go_quiet ((exact HQ.out _))
    go_wp2
    go_ret
    exact ⟨rfl, _, rfl⟩
end Go.Proofs.Ythkklilfignmpaa.Cf
