/-
  Contracts: means of what is near, where there are none.
-/
import Derived.Test.YtlagmkpofibibaaKmK
import Derived.Deep.RegionWith
namespace Go.Proofs.Ytlagmkpofibibaa
open Go.RowKit Fl Ieee
set_option linter.unusedVariables false

set_option maxRecDepth 100000 in
set_option maxHeartbeats 1000000 in
theorem kmI_no (va vb : Value) (xs ys : List Nat) (a b : Nat) (w : World) (hva : Rd w w.heap.size va (fl xs)) (hvb : Rd w w.heap.size vb (fl ys)) (hm : xs.length ≤ 1048576) (hm2 : ys.length ≤ 1048576) (hx : ∀ x ∈ xs, x < 2 ^ 32) (hy : ∀ x ∈ ys, x < 2 ^ 32) (ha : a < 2 ^ 32) (hb : b < 2 ^ 32) (hno : (mlG xs ys && finB .f32 a && psB b) = false) :
    Calls Try.prog 16 #[va, vb, .float .f32 a, .float .f32 b] w (RetB1 (kmV a b xs ys) (kmB a b xs ys) w) := by
  obtain ⟨Ava, cva, eva, y1va, y2va, y3va⟩ := id hva
  clear y1va y2va y3va
  rw [fl_len] at eva
  subst eva
  obtain ⟨Avb, cvb, evb, y1vb, y2vb, y3vb⟩ := id hvb
  clear y1vb y2vb y3vb
  rw [fl_len] at evb
  subst evb
  have hB0 : Below w.heap.size w w := Below.refl _ _
  have R0va := Lib.hid (show Rd w w.heap.size (.slice Ava xs.length cva) (fl xs) from hva)
  have R0vb := Lib.hid (show Rd w w.heap.size (.slice Avb ys.length cvb) (fl ys) from hvb)
  have HX := Lib.hid hx
  have HY := Lib.hid hy
  have HNO := Lib.hid hno
  clear hx hy hno
  clear hva hvb
  cases t1 : mlG xs ys with
  | false =>
    have T1 := Lib.hid t1
    have HG := Lib.hid (show kmG a b xs ys = false by (unfold kmG; rw [t1]; first | done | rfl | simp))
    clear t1
    go_enter Try.func16, Try.ntmps16
    go_wp2_with (first | (go_at_call 56; refine (apI_any (.slice Ava xs.length cva) (.slice Avb ys.length cvb) xs ys w R0va.out R0vb.out hm hm2 HX.out HY.out).mono ?_; rintro e w1 ⟨rfl, hb1⟩; have R1va := Lib.hid (show Rd w1 w1.heap.size (.slice Ava xs.length cva) (fl xs) from R0va.out.step hb1); have R1vb := Lib.hid (show Rd w1 w1.heap.size (.slice Avb ys.length cvb) (fl ys) from R0vb.out.step hb1); have hB1 : Below w.heap.size w w1 := hB0.trans (hb1.mono hB0.size); clear hb1; rw [T1.out]))
    go_ret2
    exact retB1_km HG.out hB1
  | true =>
    cases t2 : finB .f32 a with
    | false =>
      have T1 := Lib.hid t1
      have T2 := Lib.hid t2
      have HG := Lib.hid (show kmG a b xs ys = false by (unfold kmG; rw [t1, t2]; first | done | rfl | simp))
      clear t1 t2
      go_enter Try.func16, Try.ntmps16
      go_wp2_with (first | (go_at_call 56; refine (apI_any (.slice Ava xs.length cva) (.slice Avb ys.length cvb) xs ys w R0va.out R0vb.out hm hm2 HX.out HY.out).mono ?_; rintro e w1 ⟨rfl, hb1⟩; have R1va := Lib.hid (show Rd w1 w1.heap.size (.slice Ava xs.length cva) (fl xs) from R0va.out.step hb1); have R1vb := Lib.hid (show Rd w1 w1.heap.size (.slice Avb ys.length cvb) (fl ys) from R0vb.out.step hb1); have hB1 : Below w.heap.size w w1 := hB0.trans (hb1.mono hB0.size); clear hb1; rw [T1.out]) | (go_at_call 57; refine (implFin_any a w1 ha).mono ?_; rintro e w2 ⟨rfl, n2, hw2⟩; have hb2 : Below w1.heap.size w1 w2 := (by rw [hw2]; exact below_drawn (Below.refl _ _) _); clear hw2; have R2va := Lib.hid (show Rd w2 w2.heap.size (.slice Ava xs.length cva) (fl xs) from R1va.out.step hb2); have R2vb := Lib.hid (show Rd w2 w2.heap.size (.slice Avb ys.length cvb) (fl ys) from R1vb.out.step hb2); have hB2 : Below w.heap.size w w2 := hB1.trans (hb2.mono hB1.size); clear hb2; rw [T2.out]))
      go_ret2
      exact retB1_km HG.out hB2
    | true =>
      cases t3 : psB b with
      | false =>
        have T1 := Lib.hid t1
        have T2 := Lib.hid t2
        have T3 := Lib.hid t3
        have HG := Lib.hid (show kmG a b xs ys = false by (unfold kmG; rw [t1, t2, t3]; first | done | rfl | simp))
        clear t1 t2 t3
        go_enter Try.func16, Try.ntmps16
        go_wp2_with (first | (go_at_call 56; refine (apI_any (.slice Ava xs.length cva) (.slice Avb ys.length cvb) xs ys w R0va.out R0vb.out hm hm2 HX.out HY.out).mono ?_; rintro e w1 ⟨rfl, hb1⟩; have R1va := Lib.hid (show Rd w1 w1.heap.size (.slice Ava xs.length cva) (fl xs) from R0va.out.step hb1); have R1vb := Lib.hid (show Rd w1 w1.heap.size (.slice Avb ys.length cvb) (fl ys) from R0vb.out.step hb1); have hB1 : Below w.heap.size w w1 := hB0.trans (hb1.mono hB0.size); clear hb1; rw [T1.out]) | (go_at_call 57; refine (implFin_any a w1 ha).mono ?_; rintro e w2 ⟨rfl, n2, hw2⟩; have hb2 : Below w1.heap.size w1 w2 := (by rw [hw2]; exact below_drawn (Below.refl _ _) _); clear hw2; have R2va := Lib.hid (show Rd w2 w2.heap.size (.slice Ava xs.length cva) (fl xs) from R1va.out.step hb2); have R2vb := Lib.hid (show Rd w2 w2.heap.size (.slice Avb ys.length cvb) (fl ys) from R1vb.out.step hb2); have hB2 : Below w.heap.size w w2 := hB1.trans (hb2.mono hB1.size); clear hb2; rw [T2.out]) | (go_at_call 58; refine (psI_any b w2 hb).mono ?_; rintro e w3 ⟨rfl, n3, hw3⟩; have hb3 : Below w2.heap.size w2 w3 := (by rw [hw3]; exact below_drawn (Below.refl _ _) _); clear hw3; have R3va := Lib.hid (show Rd w3 w3.heap.size (.slice Ava xs.length cva) (fl xs) from R2va.out.step hb3); have R3vb := Lib.hid (show Rd w3 w3.heap.size (.slice Avb ys.length cvb) (fl ys) from R2vb.out.step hb3); have hB3 : Below w.heap.size w w3 := hB2.trans (hb3.mono hB2.size); clear hb3; rw [T3.out]))
        go_ret2
        exact retB1_km HG.out hB3
      | true =>
        have T1 := Lib.hid t1
        have T2 := Lib.hid t2
        have T3 := Lib.hid t3
        have HG := Lib.hid (show (mlG xs ys && finB .f32 a && psB b) = true by rw [t1, t2, t3]; rfl)
        exact absurd HG.out (by rw [HNO.out]; simp)
set_option maxRecDepth 100000 in
set_option maxHeartbeats 1000000 in
theorem kmS_ne (va vb : Value) (xs ys : List Nat) (a b : Nat) (w : World) (hva : Rd w w.heap.size va (fl xs)) (hvb : Rd w w.heap.size vb (fl ys)) (hm : xs.length ≤ 1048576) (hm2 : ys.length ≤ 1048576) (hx : ∀ x ∈ xs, x < 2 ^ 32) (hy : ∀ x ∈ ys, x < 2 ^ 32) (ha : a < 2 ^ 32) (hb : b < 2 ^ 32) (hl : ¬ xs.length = ys.length) :
    Calls Try.prog 14 #[va, vb, .float .f32 a, .float .f32 b] w (RetB1 (kmV a b xs ys) (kmB a b xs ys) w) := by
  obtain ⟨Ava, cva, eva, y1va, y2va, y3va⟩ := id hva
  clear y1va y2va y3va
  rw [fl_len] at eva
  subst eva
  obtain ⟨Avb, cvb, evb, y1vb, y2vb, y3vb⟩ := id hvb
  clear y1vb y2vb y3vb
  rw [fl_len] at evb
  subst evb
  have hB0 : Below w.heap.size w w := Below.refl _ _
  have R0va := Lib.hid (show Rd w w.heap.size (.slice Ava xs.length cva) (fl xs) from hva)
  have R0vb := Lib.hid (show Rd w w.heap.size (.slice Avb ys.length cvb) (fl ys) from hvb)
  have HX := Lib.hid hx
  have HY := Lib.hid hy
  clear hx hy
  have HD := Lib.hid (show mlG xs ys = false by unfold mlG; rw [decide_eq_false hl, Bool.and_false])
  have hne1 : (((xs.length : Int) != (ys.length : Int)) : Bool) = true := by simp; omega
  clear hl
  clear hva hvb
  cases t1 : isL xs with
  | false =>
    have T1 := Lib.hid t1
    have HG := Lib.hid (show kmG a b xs ys = false by (unfold kmG; rw [HD.out]; rfl))
    clear t1
    go_enter Try.func14, Try.ntmps14
    go_wp2_with (first | (go_at_call_of 51 Ava; refine (lngS_any (.slice Ava xs.length cva) xs w _ R0va.out hm HX.out).mono ?_; rintro e w1 ⟨rfl, n1, hw1⟩; have hb1 : Below w.heap.size w w1 := (by rw [hw1]; exact below_drawn (Below.refl _ _) _); clear hw1; have R1va := Lib.hid (show Rd w1 w1.heap.size (.slice Ava xs.length cva) (fl xs) from R0va.out.step hb1); have R1vb := Lib.hid (show Rd w1 w1.heap.size (.slice Avb ys.length cvb) (fl ys) from R0vb.out.step hb1); have hB1 : Below w.heap.size w w1 := hB0.trans (hb1.mono hB0.size); clear hb1; rw [T1.out]))
    go_ret2
    exact retB1_km HG.out hB1
  | true =>
    cases t2 : isL ys with
    | false =>
      have T1 := Lib.hid t1
      have T2 := Lib.hid t2
      have HG := Lib.hid (show kmG a b xs ys = false by (unfold kmG; rw [HD.out]; rfl))
      clear t1 t2
      go_enter Try.func14, Try.ntmps14
      go_wp2_with (first | (go_at_call_of 51 Ava; refine (lngS_any (.slice Ava xs.length cva) xs w _ R0va.out hm HX.out).mono ?_; rintro e w1 ⟨rfl, n1, hw1⟩; have hb1 : Below w.heap.size w w1 := (by rw [hw1]; exact below_drawn (Below.refl _ _) _); clear hw1; have R1va := Lib.hid (show Rd w1 w1.heap.size (.slice Ava xs.length cva) (fl xs) from R0va.out.step hb1); have R1vb := Lib.hid (show Rd w1 w1.heap.size (.slice Avb ys.length cvb) (fl ys) from R0vb.out.step hb1); have hB1 : Below w.heap.size w w1 := hB0.trans (hb1.mono hB0.size); clear hb1; rw [T1.out]) | (go_at_call_of 51 Avb; refine (lngS_any (.slice Avb ys.length cvb) ys w1 _ R1vb.out hm2 HY.out).mono ?_; rintro e w2 ⟨rfl, n2, hw2⟩; have hb2 : Below w1.heap.size w1 w2 := (by rw [hw2]; exact below_drawn (Below.refl _ _) _); clear hw2; have R2va := Lib.hid (show Rd w2 w2.heap.size (.slice Ava xs.length cva) (fl xs) from R1va.out.step hb2); have R2vb := Lib.hid (show Rd w2 w2.heap.size (.slice Avb ys.length cvb) (fl ys) from R1vb.out.step hb2); have hB2 : Below w.heap.size w w2 := hB1.trans (hb2.mono hB1.size); clear hb2; rw [T2.out]))
      go_ret2
      exact retB1_km HG.out hB2
    | true =>
      have T1 := Lib.hid t1
      have T2 := Lib.hid t2
      have HG := Lib.hid (show kmG a b xs ys = false by (unfold kmG; rw [HD.out]; rfl))
      clear t1 t2
      go_enter Try.func14, Try.ntmps14
      go_wp2_with (first | (go_at_call_of 51 Ava; refine (lngS_any (.slice Ava xs.length cva) xs w _ R0va.out hm HX.out).mono ?_; rintro e w1 ⟨rfl, n1, hw1⟩; have hb1 : Below w.heap.size w w1 := (by rw [hw1]; exact below_drawn (Below.refl _ _) _); clear hw1; have R1va := Lib.hid (show Rd w1 w1.heap.size (.slice Ava xs.length cva) (fl xs) from R0va.out.step hb1); have R1vb := Lib.hid (show Rd w1 w1.heap.size (.slice Avb ys.length cvb) (fl ys) from R0vb.out.step hb1); have hB1 : Below w.heap.size w w1 := hB0.trans (hb1.mono hB0.size); clear hb1; rw [T1.out]) | (go_at_call_of 51 Avb; refine (lngS_any (.slice Avb ys.length cvb) ys w1 _ R1vb.out hm2 HY.out).mono ?_; rintro e w2 ⟨rfl, n2, hw2⟩; have hb2 : Below w1.heap.size w1 w2 := (by rw [hw2]; exact below_drawn (Below.refl _ _) _); clear hw2; have R2va := Lib.hid (show Rd w2 w2.heap.size (.slice Ava xs.length cva) (fl xs) from R1va.out.step hb2); have R2vb := Lib.hid (show Rd w2 w2.heap.size (.slice Avb ys.length cvb) (fl ys) from R1vb.out.step hb2); have hB2 : Below w.heap.size w w2 := hB1.trans (hb2.mono hB1.size); clear hb2; rw [T2.out]))
      go_ret2
      exact retB1_km HG.out hB2
set_option maxRecDepth 100000 in
set_option maxHeartbeats 1000000 in
theorem kmS_no (va vb : Value) (xs ys : List Nat) (a b : Nat) (w : World) (hva : Rd w w.heap.size va (fl xs)) (hvb : Rd w w.heap.size vb (fl ys)) (hm : xs.length ≤ 1048576) (hm2 : ys.length ≤ 1048576) (hx : ∀ x ∈ xs, x < 2 ^ 32) (hy : ∀ x ∈ ys, x < 2 ^ 32) (ha : a < 2 ^ 32) (hb : b < 2 ^ 32) (hl : ys.length = xs.length) (hno : (mlG xs ys && finB .f32 a && psB b) = false) :
    Calls Try.prog 14 #[va, vb, .float .f32 a, .float .f32 b] w (RetB1 (kmV a b xs ys) (kmB a b xs ys) w) := by
  obtain ⟨Ava, cva, eva, y1va, y2va, y3va⟩ := id hva
  clear y1va y2va y3va
  rw [fl_len] at eva
  subst eva
  obtain ⟨Avb, cvb, evb, y1vb, y2vb, y3vb⟩ := id hvb
  clear y1vb y2vb y3vb
  rw [fl_len] at evb
  rw [hl] at evb
  subst evb
  have hB0 : Below w.heap.size w w := Below.refl _ _
  have R0va := Lib.hid (show Rd w w.heap.size (.slice Ava xs.length cva) (fl xs) from hva)
  have R0vb := Lib.hid (show Rd w w.heap.size (.slice Avb xs.length cvb) (fl ys) from hvb)
  have HX := Lib.hid hx
  have HY := Lib.hid hy
  have HNO := Lib.hid hno
  clear hx hy hno
  have HD := Lib.hid (show mlG xs ys = (isL xs && isL ys) by unfold mlG; rw [decide_eq_true hl.symm, Bool.and_true])
  clear hl
  clear hva hvb
  cases t1 : isL xs with
  | false =>
    have T1 := Lib.hid t1
    have HG := Lib.hid (show kmG a b xs ys = false by (unfold kmG; rw [HD.out, t1]; first | done | rfl | simp))
    clear t1
    go_enter Try.func14, Try.ntmps14
    go_wp2_with (first | (go_at_call_of 51 Ava; refine (lngS_any (.slice Ava xs.length cva) xs w _ R0va.out hm HX.out).mono ?_; rintro e w1 ⟨rfl, n1, hw1⟩; have hb1 : Below w.heap.size w w1 := (by rw [hw1]; exact below_drawn (Below.refl _ _) _); clear hw1; have R1va := Lib.hid (show Rd w1 w1.heap.size (.slice Ava xs.length cva) (fl xs) from R0va.out.step hb1); have R1vb := Lib.hid (show Rd w1 w1.heap.size (.slice Avb xs.length cvb) (fl ys) from R0vb.out.step hb1); have hB1 : Below w.heap.size w w1 := hB0.trans (hb1.mono hB0.size); clear hb1; rw [T1.out]))
    go_ret2
    exact retB1_km HG.out hB1
  | true =>
    cases t2 : isL ys with
    | false =>
      have T1 := Lib.hid t1
      have T2 := Lib.hid t2
      have HG := Lib.hid (show kmG a b xs ys = false by (unfold kmG; rw [HD.out, t1, t2]; first | done | rfl | simp))
      clear t1 t2
      go_enter Try.func14, Try.ntmps14
      go_wp2_with (first | (go_at_call_of 51 Ava; refine (lngS_any (.slice Ava xs.length cva) xs w _ R0va.out hm HX.out).mono ?_; rintro e w1 ⟨rfl, n1, hw1⟩; have hb1 : Below w.heap.size w w1 := (by rw [hw1]; exact below_drawn (Below.refl _ _) _); clear hw1; have R1va := Lib.hid (show Rd w1 w1.heap.size (.slice Ava xs.length cva) (fl xs) from R0va.out.step hb1); have R1vb := Lib.hid (show Rd w1 w1.heap.size (.slice Avb xs.length cvb) (fl ys) from R0vb.out.step hb1); have hB1 : Below w.heap.size w w1 := hB0.trans (hb1.mono hB0.size); clear hb1; rw [T1.out]) | (go_at_call_of 51 Avb; refine (lngS_any (.slice Avb xs.length cvb) ys w1 _ R1vb.out hm2 HY.out).mono ?_; rintro e w2 ⟨rfl, n2, hw2⟩; have hb2 : Below w1.heap.size w1 w2 := (by rw [hw2]; exact below_drawn (Below.refl _ _) _); clear hw2; have R2va := Lib.hid (show Rd w2 w2.heap.size (.slice Ava xs.length cva) (fl xs) from R1va.out.step hb2); have R2vb := Lib.hid (show Rd w2 w2.heap.size (.slice Avb xs.length cvb) (fl ys) from R1vb.out.step hb2); have hB2 : Below w.heap.size w w2 := hB1.trans (hb2.mono hB1.size); clear hb2; rw [T2.out]))
      go_ret2
      exact retB1_km HG.out hB2
    | true =>
      cases t3 : finB .f32 a with
      | false =>
        have T1 := Lib.hid t1
        have T2 := Lib.hid t2
        have T3 := Lib.hid t3
        have HG := Lib.hid (show kmG a b xs ys = false by (unfold kmG; rw [HD.out, t1, t2, t3]; first | done | rfl | simp))
        clear t1 t2 t3
        go_enter Try.func14, Try.ntmps14
        go_wp2_with (first | (go_at_call_of 51 Ava; refine (lngS_any (.slice Ava xs.length cva) xs w _ R0va.out hm HX.out).mono ?_; rintro e w1 ⟨rfl, n1, hw1⟩; have hb1 : Below w.heap.size w w1 := (by rw [hw1]; exact below_drawn (Below.refl _ _) _); clear hw1; have R1va := Lib.hid (show Rd w1 w1.heap.size (.slice Ava xs.length cva) (fl xs) from R0va.out.step hb1); have R1vb := Lib.hid (show Rd w1 w1.heap.size (.slice Avb xs.length cvb) (fl ys) from R0vb.out.step hb1); have hB1 : Below w.heap.size w w1 := hB0.trans (hb1.mono hB0.size); clear hb1; rw [T1.out]) | (go_at_call_of 51 Avb; refine (lngS_any (.slice Avb xs.length cvb) ys w1 _ R1vb.out hm2 HY.out).mono ?_; rintro e w2 ⟨rfl, n2, hw2⟩; have hb2 : Below w1.heap.size w1 w2 := (by rw [hw2]; exact below_drawn (Below.refl _ _) _); clear hw2; have R2va := Lib.hid (show Rd w2 w2.heap.size (.slice Ava xs.length cva) (fl xs) from R1va.out.step hb2); have R2vb := Lib.hid (show Rd w2 w2.heap.size (.slice Avb xs.length cvb) (fl ys) from R1vb.out.step hb2); have hB2 : Below w.heap.size w w2 := hB1.trans (hb2.mono hB1.size); clear hb2; rw [T2.out]) | (go_at_call 52; refine (specFin_any a w2 ha).mono ?_; rintro e w3 ⟨rfl, n3, hw3⟩; have hb3 : Below w2.heap.size w2 w3 := (by rw [hw3]; exact below_drawn (Below.refl _ _) _); clear hw3; have R3va := Lib.hid (show Rd w3 w3.heap.size (.slice Ava xs.length cva) (fl xs) from R2va.out.step hb3); have R3vb := Lib.hid (show Rd w3 w3.heap.size (.slice Avb xs.length cvb) (fl ys) from R2vb.out.step hb3); have hB3 : Below w.heap.size w w3 := hB2.trans (hb3.mono hB2.size); clear hb3; rw [T3.out]))
        go_ret2
        exact retB1_km HG.out hB3
      | true =>
        cases t4 : psB b with
        | false =>
          have T1 := Lib.hid t1
          have T2 := Lib.hid t2
          have T3 := Lib.hid t3
          have T4 := Lib.hid t4
          have HG := Lib.hid (show kmG a b xs ys = false by (unfold kmG; rw [HD.out, t1, t2, t3, t4]; first | done | rfl | simp))
          clear t1 t2 t3 t4
          go_enter Try.func14, Try.ntmps14
          go_wp2_with (first | (go_at_call_of 51 Ava; refine (lngS_any (.slice Ava xs.length cva) xs w _ R0va.out hm HX.out).mono ?_; rintro e w1 ⟨rfl, n1, hw1⟩; have hb1 : Below w.heap.size w w1 := (by rw [hw1]; exact below_drawn (Below.refl _ _) _); clear hw1; have R1va := Lib.hid (show Rd w1 w1.heap.size (.slice Ava xs.length cva) (fl xs) from R0va.out.step hb1); have R1vb := Lib.hid (show Rd w1 w1.heap.size (.slice Avb xs.length cvb) (fl ys) from R0vb.out.step hb1); have hB1 : Below w.heap.size w w1 := hB0.trans (hb1.mono hB0.size); clear hb1; rw [T1.out]) | (go_at_call_of 51 Avb; refine (lngS_any (.slice Avb xs.length cvb) ys w1 _ R1vb.out hm2 HY.out).mono ?_; rintro e w2 ⟨rfl, n2, hw2⟩; have hb2 : Below w1.heap.size w1 w2 := (by rw [hw2]; exact below_drawn (Below.refl _ _) _); clear hw2; have R2va := Lib.hid (show Rd w2 w2.heap.size (.slice Ava xs.length cva) (fl xs) from R1va.out.step hb2); have R2vb := Lib.hid (show Rd w2 w2.heap.size (.slice Avb xs.length cvb) (fl ys) from R1vb.out.step hb2); have hB2 : Below w.heap.size w w2 := hB1.trans (hb2.mono hB1.size); clear hb2; rw [T2.out]) | (go_at_call 52; refine (specFin_any a w2 ha).mono ?_; rintro e w3 ⟨rfl, n3, hw3⟩; have hb3 : Below w2.heap.size w2 w3 := (by rw [hw3]; exact below_drawn (Below.refl _ _) _); clear hw3; have R3va := Lib.hid (show Rd w3 w3.heap.size (.slice Ava xs.length cva) (fl xs) from R2va.out.step hb3); have R3vb := Lib.hid (show Rd w3 w3.heap.size (.slice Avb xs.length cvb) (fl ys) from R2vb.out.step hb3); have hB3 : Below w.heap.size w w3 := hB2.trans (hb3.mono hB2.size); clear hb3; rw [T3.out]) | (go_at_call 53; refine (psS_any b w3 hb).mono ?_; rintro e w4 ⟨rfl, n4, hw4⟩; have hb4 : Below w3.heap.size w3 w4 := (by rw [hw4]; exact below_drawn (Below.refl _ _) _); clear hw4; have R4va := Lib.hid (show Rd w4 w4.heap.size (.slice Ava xs.length cva) (fl xs) from R3va.out.step hb4); have R4vb := Lib.hid (show Rd w4 w4.heap.size (.slice Avb xs.length cvb) (fl ys) from R3vb.out.step hb4); have hB4 : Below w.heap.size w w4 := hB3.trans (hb4.mono hB3.size); clear hb4; rw [T4.out]))
          go_ret2
          exact retB1_km HG.out hB4
        | true =>
          have T1 := Lib.hid t1
          have T2 := Lib.hid t2
          have T3 := Lib.hid t3
          have T4 := Lib.hid t4
          have HG := Lib.hid (show (mlG xs ys && finB .f32 a && psB b) = true by rw [HD.out, t1, t2, t3, t4]; rfl)
          exact absurd HG.out (by rw [HNO.out]; simp)
end Go.Proofs.Ytlagmkpofibibaa
