/-
  Contracts: risks, of both sides, whether there are any.
-/
import Derived.Test.YtpckljkhmaghmaaRk
import Derived.Test.YtpckljkhmaghmaaRkI
namespace Go.Proofs.Ytpckljkhmaghmaa
open Go.RowKit Fl Ieee
set_option linter.unusedVariables false

def rkG (xs : List Nat) (a l : Nat) : Bool := isL xs && psB a && lsB l
def rkV (xs : List Nat) (a l : Nat) : Nat := if rkG xs a l then fnV (rkX xs a l) else 0
def rkB (xs : List Nat) (a l : Nat) : Bool := rkG xs a l && finB .f32 (rkX xs a l)
theorem rk_no {xs : List Nat} {a l : Nat} (h : rkG xs a l = false) : rkV xs a l = 0 ∧ rkB xs a l = false := by unfold rkV rkB; rw [h]; exact ⟨rfl, rfl⟩
theorem rk_yes {xs : List Nat} {a l : Nat} (h : rkG xs a l = true) : rkV xs a l = fnV (rkX xs a l) ∧ rkB xs a l = finB .f32 (rkX xs a l) := by unfold rkV rkB; rw [h]; exact ⟨rfl, rfl⟩
theorem psB_fin {a : Nat} (h : psB a = true) : finB .f32 a = true := by unfold psB at h; rw [Bool.and_eq_true] at h; exact h.1
set_option maxRecDepth 100000 in
set_option maxHeartbeats 1000000 in
theorem rkoS_any (v : Value) (xs : List Nat) (a l : Nat) (w : World) (hv : Rd w w.heap.size v (fl xs)) (hm : xs.length ≤ 1048576) (hx : ∀ x ∈ xs, x < 2 ^ 32) (ha : a < 2 ^ 32) (hl : l < 2 ^ 32) :
    Calls Try.prog 28 #[v, .float .f32 a, .float .f32 l] w (RetB1 (rkV xs a l) (rkB xs a l) w) := by
  obtain ⟨Av, cv, ev, _, _, _⟩ := id hv
  rw [fl_len] at ev
  subst ev
  have hB0 : Below w.heap.size w w := Below.refl _ _
  have R0v := Lib.hid (show Rd w w.heap.size (.slice Av xs.length cv) (fl xs) from hv)
  have HX := Lib.hid hx
  clear hx
  clear hv
  cases t1 : isL xs with
  | false =>
    have T1 := Lib.hid t1
    have HG := Lib.hid (show rkG xs a l = false by (unfold rkG; rw [t1]; first | done | rfl | simp))
    clear t1
    go_enter Try.func28, Try.ntmps28
    go_wp2_with (first | (go_at_call 52; refine (lngS_any (.slice Av xs.length cv) xs w _ R0v.out hm HX.out).mono ?_; rintro e w1 ⟨rfl, n1, hw1⟩; have hb1 : Below w.heap.size w w1 := (by rw [hw1]; exact below_drawn (Below.refl _ _) _); have R1v := Lib.hid (show Rd w1 w1.heap.size (.slice Av xs.length cv) (fl xs) from R0v.out.step hb1); have hB1 : Below w.heap.size w w1 := hB0.trans (hb1.mono hB0.size); clear hw1 hb1; rw [T1.out]))
    go_ret2
    rw [(rk_no HG.out).1, (rk_no HG.out).2]; exact retB1_no hB1
  | true =>
    cases t2 : psB a with
    | false =>
      have T1 := Lib.hid t1
      have T2 := Lib.hid t2
      have HG := Lib.hid (show rkG xs a l = false by (unfold rkG; rw [t1, t2]; first | done | rfl | simp))
      clear t1 t2
      go_enter Try.func28, Try.ntmps28
      go_wp2_with (first | (go_at_call 52; refine (lngS_any (.slice Av xs.length cv) xs w _ R0v.out hm HX.out).mono ?_; rintro e w1 ⟨rfl, n1, hw1⟩; have hb1 : Below w.heap.size w w1 := (by rw [hw1]; exact below_drawn (Below.refl _ _) _); have R1v := Lib.hid (show Rd w1 w1.heap.size (.slice Av xs.length cv) (fl xs) from R0v.out.step hb1); have hB1 : Below w.heap.size w w1 := hB0.trans (hb1.mono hB0.size); clear hw1 hb1; rw [T1.out]) | (go_at_call 64; refine (psS_any a w1 ha).mono ?_; rintro e w2 ⟨rfl, n2, hw2⟩; have hb2 : Below w1.heap.size w1 w2 := (by rw [hw2]; exact below_drawn (Below.refl _ _) _); have R2v := Lib.hid (show Rd w2 w2.heap.size (.slice Av xs.length cv) (fl xs) from R1v.out.step hb2); have hB2 : Below w.heap.size w w2 := hB1.trans (hb2.mono hB1.size); clear hw2 hb2; rw [T2.out]))
      go_ret2
      rw [(rk_no HG.out).1, (rk_no HG.out).2]; exact retB1_no hB2
    | true =>
      cases t3 : lsB l with
      | false =>
        have T1 := Lib.hid t1
        have T2 := Lib.hid t2
        have T3 := Lib.hid t3
        have HG := Lib.hid (show rkG xs a l = false by (unfold rkG; rw [t1, t2, t3]; first | done | rfl | simp))
        clear t1 t2 t3
        go_enter Try.func28, Try.ntmps28
        go_wp2_with (first | (go_at_call 52; refine (lngS_any (.slice Av xs.length cv) xs w _ R0v.out hm HX.out).mono ?_; rintro e w1 ⟨rfl, n1, hw1⟩; have hb1 : Below w.heap.size w w1 := (by rw [hw1]; exact below_drawn (Below.refl _ _) _); have R1v := Lib.hid (show Rd w1 w1.heap.size (.slice Av xs.length cv) (fl xs) from R0v.out.step hb1); have hB1 : Below w.heap.size w w1 := hB0.trans (hb1.mono hB0.size); clear hw1 hb1; rw [T1.out]) | (go_at_call 64; refine (psS_any a w1 ha).mono ?_; rintro e w2 ⟨rfl, n2, hw2⟩; have hb2 : Below w1.heap.size w1 w2 := (by rw [hw2]; exact below_drawn (Below.refl _ _) _); have R2v := Lib.hid (show Rd w2 w2.heap.size (.slice Av xs.length cv) (fl xs) from R1v.out.step hb2); have hB2 : Below w.heap.size w w2 := hB1.trans (hb2.mono hB1.size); clear hw2 hb2; rw [T2.out]) | (go_at_call 48; refine (lsS_any l w2 hl).mono ?_; rintro e w3 ⟨rfl, n3, hw3⟩; have hb3 : Below w2.heap.size w2 w3 := (by rw [hw3]; exact below_drawn (Below.refl _ _) _); have R3v := Lib.hid (show Rd w3 w3.heap.size (.slice Av xs.length cv) (fl xs) from R2v.out.step hb3); have hB3 : Below w.heap.size w w3 := hB2.trans (hb3.mono hB2.size); clear hw3 hb3; rw [T3.out]))
        go_ret2
        rw [(rk_no HG.out).1, (rk_no HG.out).2]; exact retB1_no hB3
      | true =>
        have T1 := Lib.hid t1
        have T2 := Lib.hid t2
        have T3 := Lib.hid t3
        have HG := Lib.hid (show rkG xs a l = true by (unfold rkG; rw [t1, t2, t3]; first | done | rfl | simp))
        have HF := Lib.hid (fun w' (hr : Rd w' w'.heap.size (.slice Av xs.length cv) (fl xs)) => rkS_any _ xs a l w' hr (isL_len t1).2.1 HX.out (isL_len t1).2.2 ha (psB_fin t2) hl t3)
        have HV := Lib.hid (rk_yes HG.out)
        clear t1 t2 t3
        go_enter Try.func28, Try.ntmps28
        go_wp2_with (first | (go_at_call 52; refine (lngS_any (.slice Av xs.length cv) xs w _ R0v.out hm HX.out).mono ?_; rintro e w1 ⟨rfl, n1, hw1⟩; have hb1 : Below w.heap.size w w1 := (by rw [hw1]; exact below_drawn (Below.refl _ _) _); have R1v := Lib.hid (show Rd w1 w1.heap.size (.slice Av xs.length cv) (fl xs) from R0v.out.step hb1); have hB1 : Below w.heap.size w w1 := hB0.trans (hb1.mono hB0.size); clear hw1 hb1; rw [T1.out]) | (go_at_call 64; refine (psS_any a w1 ha).mono ?_; rintro e w2 ⟨rfl, n2, hw2⟩; have hb2 : Below w1.heap.size w1 w2 := (by rw [hw2]; exact below_drawn (Below.refl _ _) _); have R2v := Lib.hid (show Rd w2 w2.heap.size (.slice Av xs.length cv) (fl xs) from R1v.out.step hb2); have hB2 : Below w.heap.size w w2 := hB1.trans (hb2.mono hB1.size); clear hw2 hb2; rw [T2.out]) | (go_at_call 48; refine (lsS_any l w2 hl).mono ?_; rintro e w3 ⟨rfl, n3, hw3⟩; have hb3 : Below w2.heap.size w2 w3 := (by rw [hw3]; exact below_drawn (Below.refl _ _) _); have R3v := Lib.hid (show Rd w3 w3.heap.size (.slice Av xs.length cv) (fl xs) from R2v.out.step hb3); have hB3 : Below w.heap.size w w3 := hB2.trans (hb3.mono hB2.size); clear hw3 hb3; rw [T3.out]) | (go_at_call 65; refine (HF.out w3 R3v.out).mono ?_; rintro e w8 ⟨r8, n8, rfl, h8, rfl⟩) | (go_at_call 57; refine (numS_any _ _ _ h8).mono ?_; rintro e w9 ⟨r9, n9, rfl, h9, rfl⟩))
        go_ret2
        rw [HV.out.1, HV.out.2]; exact ⟨_, rfl, h9, below_drawn hB3 _⟩
set_option maxRecDepth 100000 in
set_option maxHeartbeats 1000000 in
theorem rkoI_no (v : Value) (xs : List Nat) (a l : Nat) (w : World) (hv : Rd w w.heap.size v (fl xs)) (hm : xs.length ≤ 1048576) (hx : ∀ x ∈ xs, x < 2 ^ 32) (ha : a < 2 ^ 32) (hl : l < 2 ^ 32) (hno : rkG xs a l = false) :
    Calls Try.prog 29 #[v, .float .f32 a, .float .f32 l] w (RetB1 (rkV xs a l) (rkB xs a l) w) := by
  obtain ⟨Av, cv, ev, _, _, _⟩ := id hv
  rw [fl_len] at ev
  subst ev
  have hB0 : Below w.heap.size w w := Below.refl _ _
  have R0v := Lib.hid (show Rd w w.heap.size (.slice Av xs.length cv) (fl xs) from hv)
  have HX := Lib.hid hx
  clear hx
  have HNO := Lib.hid hno
  clear hno
  clear hv
  cases t1 : isL xs with
  | false =>
    have T1 := Lib.hid t1
    have HG := Lib.hid (show rkG xs a l = false by (unfold rkG; rw [t1]; first | done | rfl | simp))
    clear t1
    go_enter Try.func29, Try.ntmps29
    go_wp2_with (first | (go_at_call 54; refine (lngI_any (.slice Av xs.length cv) xs w _ R0v.out hm HX.out).mono ?_; rintro e w1 ⟨rfl, n1, hw1⟩; have hb1 : Below w.heap.size w w1 := (by rw [hw1]; exact below_drawn (Below.refl _ _) _); have R1v := Lib.hid (show Rd w1 w1.heap.size (.slice Av xs.length cv) (fl xs) from R0v.out.step hb1); have hB1 : Below w.heap.size w w1 := hB0.trans (hb1.mono hB0.size); clear hw1 hb1; rw [T1.out]))
    go_ret2
    rw [(rk_no HG.out).1, (rk_no HG.out).2]; exact retB1_no hB1
  | true =>
    cases t2 : psB a with
    | false =>
      have T1 := Lib.hid t1
      have T2 := Lib.hid t2
      have HG := Lib.hid (show rkG xs a l = false by (unfold rkG; rw [t1, t2]; first | done | rfl | simp))
      clear t1 t2
      go_enter Try.func29, Try.ntmps29
      go_wp2_with (first | (go_at_call 54; refine (lngI_any (.slice Av xs.length cv) xs w _ R0v.out hm HX.out).mono ?_; rintro e w1 ⟨rfl, n1, hw1⟩; have hb1 : Below w.heap.size w w1 := (by rw [hw1]; exact below_drawn (Below.refl _ _) _); have R1v := Lib.hid (show Rd w1 w1.heap.size (.slice Av xs.length cv) (fl xs) from R0v.out.step hb1); have hB1 : Below w.heap.size w w1 := hB0.trans (hb1.mono hB0.size); clear hw1 hb1; rw [T1.out]) | (go_at_call 66; refine (psI_any a w1 ha).mono ?_; rintro e w2 ⟨rfl, n2, hw2⟩; have hb2 : Below w1.heap.size w1 w2 := (by rw [hw2]; exact below_drawn (Below.refl _ _) _); have R2v := Lib.hid (show Rd w2 w2.heap.size (.slice Av xs.length cv) (fl xs) from R1v.out.step hb2); have hB2 : Below w.heap.size w w2 := hB1.trans (hb2.mono hB1.size); clear hw2 hb2; rw [T2.out]))
      go_ret2
      rw [(rk_no HG.out).1, (rk_no HG.out).2]; exact retB1_no hB2
    | true =>
      cases t3 : lsB l with
      | false =>
        have T1 := Lib.hid t1
        have T2 := Lib.hid t2
        have T3 := Lib.hid t3
        have HG := Lib.hid (show rkG xs a l = false by (unfold rkG; rw [t1, t2, t3]; first | done | rfl | simp))
        clear t1 t2 t3
        go_enter Try.func29, Try.ntmps29
        go_wp2_with (first | (go_at_call 54; refine (lngI_any (.slice Av xs.length cv) xs w _ R0v.out hm HX.out).mono ?_; rintro e w1 ⟨rfl, n1, hw1⟩; have hb1 : Below w.heap.size w w1 := (by rw [hw1]; exact below_drawn (Below.refl _ _) _); have R1v := Lib.hid (show Rd w1 w1.heap.size (.slice Av xs.length cv) (fl xs) from R0v.out.step hb1); have hB1 : Below w.heap.size w w1 := hB0.trans (hb1.mono hB0.size); clear hw1 hb1; rw [T1.out]) | (go_at_call 66; refine (psI_any a w1 ha).mono ?_; rintro e w2 ⟨rfl, n2, hw2⟩; have hb2 : Below w1.heap.size w1 w2 := (by rw [hw2]; exact below_drawn (Below.refl _ _) _); have R2v := Lib.hid (show Rd w2 w2.heap.size (.slice Av xs.length cv) (fl xs) from R1v.out.step hb2); have hB2 : Below w.heap.size w w2 := hB1.trans (hb2.mono hB1.size); clear hw2 hb2; rw [T2.out]) | (go_at_call 60; refine (lsI_any l w2 hl).mono ?_; rintro e w3 ⟨rfl, n3, hw3⟩; have hb3 : Below w2.heap.size w2 w3 := (by rw [hw3]; exact below_drawn (Below.refl _ _) _); have R3v := Lib.hid (show Rd w3 w3.heap.size (.slice Av xs.length cv) (fl xs) from R2v.out.step hb3); have hB3 : Below w.heap.size w w3 := hB2.trans (hb3.mono hB2.size); clear hw3 hb3; rw [T3.out]))
        go_ret2
        rw [(rk_no HG.out).1, (rk_no HG.out).2]; exact retB1_no hB3
      | true =>
        have T1 := Lib.hid t1
        have T2 := Lib.hid t2
        have T3 := Lib.hid t3
        have HG := Lib.hid (show rkG xs a l = true by (unfold rkG; rw [t1, t2, t3]; first | done | rfl | simp))
        exact absurd HG.out (by rw [HNO.out]; simp)
theorem rkoI_any (v : Value) (xs : List Nat) (a l : Nat) (w : World) (hv : Rd w w.heap.size v (fl xs)) (hm : xs.length ≤ 1048576) (hx : ∀ x ∈ xs, x < 2 ^ 32) (ha : a < 2 ^ 32) (hl : l < 2 ^ 32) : Calls Try.prog 29 #[v, .float .f32 a, .float .f32 l] w (RetB1 (rkV xs a l) (rkB xs a l) w) := by
  cases hG : rkG xs a l with
  | false => have h := rkoI_no v xs a l w hv hm hx ha hl hG; exact h
  | true =>
    have h := hG
    unfold rkG at h
    rw [Bool.and_eq_true, Bool.and_eq_true] at h
    obtain ⟨⟨h1, h2⟩, h3⟩ := h
    rw [(rk_yes hG).1, (rk_yes hG).2]
    exact (rkI_ok v xs a l w hv (isL_len h1).2.1 hx h1 ha h2 hl h3).mono fun e w' h => retB1_of h
end Go.Proofs.Ytpckljkhmaghmaa
