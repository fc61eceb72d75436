/-
  Contracts: pairs of long lists of the same length.
-/
import Derived.Test.YtlagmkpofibibaaAp
import Derived.Test.YtlagmkpofibibaaLng
namespace Go.Proofs.Ytlagmkpofibibaa
open Go.RowKit Fl
set_option linter.unusedVariables false

theorem ar_lt32 (op : BinOp) (x y : Nat) : ar op .f32 x y < 2 ^ 32 := by
  unfold ar
  cases h : floatBits op .f32 (cn .f32 x) (cn .f32 y) with
  | none => decide
  | some r => exact wf_lt (floatBits_wf h)
theorem ar_self (op : BinOp) (x y : Nat) : Is .f32 (ar op .f32 x y) (ar op .f32 x y) := ⟨cn_ar _ _ _ _, ar_lt32 _ _ _⟩
def RetBl (b : Bool) (w : World) (e : Ending) (w' : World) : Prop := e = .returned (.bool b) ∧ Below w.heap.size w w'
def mlG (xs ys : List Nat) : Bool := isL xs && isL ys && decide (xs.length = ys.length)
theorem mlG_out {xs ys : List Nat} (h : mlG xs ys = true) : isL xs = true ∧ isL ys = true ∧ ys.length = xs.length := by
  unfold mlG at h
  rw [Bool.and_eq_true, Bool.and_eq_true] at h
  exact ⟨h.1.1, h.1.2, (of_decide_eq_true h.2).symm⟩
set_option maxRecDepth 100000 in
set_option maxHeartbeats 1000000 in
theorem apI_eq (va vb : Value) (xs ys : List Nat) (w : World) (hva : Rd w w.heap.size va (fl xs)) (hvb : Rd w w.heap.size vb (fl ys)) (hm : xs.length ≤ 1048576) (hm2 : ys.length ≤ 1048576) (hx : ∀ x ∈ xs, x < 2 ^ 32) (hy : ∀ x ∈ ys, x < 2 ^ 32) (hl : ys.length = xs.length) :
    Calls Try.prog 56 #[va, vb] w (RetBl (mlG xs ys) w) := by
  obtain ⟨Ava, cva, eva, y1va, y2va, y3va⟩ := id hva
  clear y1va y2va y3va
  rw [fl_len] at eva
  subst eva
  obtain ⟨Avb, cvb, evb, y1vb, y2vb, y3vb⟩ := id hvb
  clear y1vb y2vb y3vb
  rw [fl_len] at evb
  rw [hl] at evb
  subst evb
  have hB0 : Below w.heap.size w w := Below.refl _ _
  have R0va := Lib.hid (show Rd w w.heap.size (.slice Ava xs.length cva) (fl xs) from hva)
  have R0vb := Lib.hid (show Rd w w.heap.size (.slice Avb xs.length cvb) (fl ys) from hvb)
  have HX := Lib.hid hx
  have HY := Lib.hid hy
  clear hx hy
  have HD := Lib.hid (show decide (xs.length = ys.length) = true from decide_eq_true hl.symm)
  have HL := Lib.hid hl
  clear hl
  clear hva hvb
  cases t1 : isL xs with
  | false =>
    have T1 := Lib.hid t1
    have HG := Lib.hid (show mlG xs ys = false by (unfold mlG; rw [t1]; first | done | rfl | simp))
    clear t1
    go_enter Try.func56, Try.ntmps56
    go_wp2_with (first | (go_at_call_of 64 Ava; refine (lngI_any (.slice Ava xs.length cva) xs w _ R0va.out hm HX.out).mono ?_; rintro e w1 ⟨rfl, n1, hw1⟩; have hb1 : Below w.heap.size w w1 := (by rw [hw1]; exact below_drawn (Below.refl _ _) _); clear hw1; have R1va := Lib.hid (show Rd w1 w1.heap.size (.slice Ava xs.length cva) (fl xs) from R0va.out.step hb1); have R1vb := Lib.hid (show Rd w1 w1.heap.size (.slice Avb xs.length cvb) (fl ys) from R0vb.out.step hb1); have hB1 : Below w.heap.size w w1 := hB0.trans (hb1.mono hB0.size); clear hb1; rw [T1.out]))
    go_ret
    exact ⟨by rw [HG.out]; rfl, hB1⟩
  | true =>
    cases t2 : isL ys with
    | false =>
      have T1 := Lib.hid t1
      have T2 := Lib.hid t2
      have HG := Lib.hid (show mlG xs ys = false by (unfold mlG; rw [t1, t2, HD.out]; rfl))
      clear t1 t2
      go_enter Try.func56, Try.ntmps56
      go_wp2_with (first | (go_at_call_of 64 Ava; refine (lngI_any (.slice Ava xs.length cva) xs w _ R0va.out hm HX.out).mono ?_; rintro e w1 ⟨rfl, n1, hw1⟩; have hb1 : Below w.heap.size w w1 := (by rw [hw1]; exact below_drawn (Below.refl _ _) _); clear hw1; have R1va := Lib.hid (show Rd w1 w1.heap.size (.slice Ava xs.length cva) (fl xs) from R0va.out.step hb1); have R1vb := Lib.hid (show Rd w1 w1.heap.size (.slice Avb xs.length cvb) (fl ys) from R0vb.out.step hb1); have hB1 : Below w.heap.size w w1 := hB0.trans (hb1.mono hB0.size); clear hb1; rw [T1.out]) | (go_at_call_of 64 Avb; refine (lngI_any (.slice Avb xs.length cvb) ys w1 _ R1vb.out hm2 HY.out).mono ?_; rintro e w2 ⟨rfl, n2, hw2⟩; have hb2 : Below w1.heap.size w1 w2 := (by rw [hw2]; exact below_drawn (Below.refl _ _) _); clear hw2; have R2va := Lib.hid (show Rd w2 w2.heap.size (.slice Ava xs.length cva) (fl xs) from R1va.out.step hb2); have R2vb := Lib.hid (show Rd w2 w2.heap.size (.slice Avb xs.length cvb) (fl ys) from R1vb.out.step hb2); have hB2 : Below w.heap.size w w2 := hB1.trans (hb2.mono hB1.size); clear hb2; rw [T2.out]))
      go_ret
      exact ⟨by rw [HG.out]; rfl, hB2⟩
    | true =>
      have T1 := Lib.hid t1
      have T2 := Lib.hid t2
      have HG := Lib.hid (show mlG xs ys = true by (unfold mlG; rw [t1, t2, HD.out]; rfl))
      clear t1 t2
      go_enter Try.func56, Try.ntmps56
      go_wp2_with (first | (go_at_call_of 64 Ava; refine (lngI_any (.slice Ava xs.length cva) xs w _ R0va.out hm HX.out).mono ?_; rintro e w1 ⟨rfl, n1, hw1⟩; have hb1 : Below w.heap.size w w1 := (by rw [hw1]; exact below_drawn (Below.refl _ _) _); clear hw1; have R1va := Lib.hid (show Rd w1 w1.heap.size (.slice Ava xs.length cva) (fl xs) from R0va.out.step hb1); have R1vb := Lib.hid (show Rd w1 w1.heap.size (.slice Avb xs.length cvb) (fl ys) from R0vb.out.step hb1); have hB1 : Below w.heap.size w w1 := hB0.trans (hb1.mono hB0.size); clear hb1; rw [T1.out]) | (go_at_call_of 64 Avb; refine (lngI_any (.slice Avb xs.length cvb) ys w1 _ R1vb.out hm2 HY.out).mono ?_; rintro e w2 ⟨rfl, n2, hw2⟩; have hb2 : Below w1.heap.size w1 w2 := (by rw [hw2]; exact below_drawn (Below.refl _ _) _); clear hw2; have R2va := Lib.hid (show Rd w2 w2.heap.size (.slice Ava xs.length cva) (fl xs) from R1va.out.step hb2); have R2vb := Lib.hid (show Rd w2 w2.heap.size (.slice Avb xs.length cvb) (fl ys) from R1vb.out.step hb2); have hB2 : Below w.heap.size w w2 := hB1.trans (hb2.mono hB1.size); clear hb2; rw [T2.out]))
      go_ret
      exact ⟨by rw [HG.out]; rfl, hB2⟩
set_option maxRecDepth 100000 in
set_option maxHeartbeats 1000000 in
theorem apI_ne (va vb : Value) (xs ys : List Nat) (w : World) (hva : Rd w w.heap.size va (fl xs)) (hvb : Rd w w.heap.size vb (fl ys)) (hm : xs.length ≤ 1048576) (hm2 : ys.length ≤ 1048576) (hx : ∀ x ∈ xs, x < 2 ^ 32) (hy : ∀ x ∈ ys, x < 2 ^ 32) (hl : ¬ xs.length = ys.length) :
    Calls Try.prog 56 #[va, vb] w (RetBl (mlG xs ys) w) := by
  obtain ⟨Ava, cva, eva, y1va, y2va, y3va⟩ := id hva
  clear y1va y2va y3va
  rw [fl_len] at eva
  subst eva
  obtain ⟨Avb, cvb, evb, y1vb, y2vb, y3vb⟩ := id hvb
  clear y1vb y2vb y3vb
  rw [fl_len] at evb
  subst evb
  have hB0 : Below w.heap.size w w := Below.refl _ _
  have R0va := Lib.hid (show Rd w w.heap.size (.slice Ava xs.length cva) (fl xs) from hva)
  have R0vb := Lib.hid (show Rd w w.heap.size (.slice Avb ys.length cvb) (fl ys) from hvb)
  have HX := Lib.hid hx
  have HY := Lib.hid hy
  clear hx hy
  have HD := Lib.hid (show decide (xs.length = ys.length) = false from decide_eq_false hl)
  have hne1 : (((xs.length : Int) != (ys.length : Int)) : Bool) = true := by simp; omega
  have hne2 : (((xs.length : Int) == (ys.length : Int)) : Bool) = false := by simp; omega
  clear hl
  clear hva hvb
  cases t1 : isL xs with
  | false =>
    have T1 := Lib.hid t1
    have HG := Lib.hid (show mlG xs ys = false by (unfold mlG; rw [t1]; first | done | rfl | simp))
    clear t1
    go_enter Try.func56, Try.ntmps56
    go_wp2_with (first | (go_at_call_of 64 Ava; refine (lngI_any (.slice Ava xs.length cva) xs w _ R0va.out hm HX.out).mono ?_; rintro e w1 ⟨rfl, n1, hw1⟩; have hb1 : Below w.heap.size w w1 := (by rw [hw1]; exact below_drawn (Below.refl _ _) _); clear hw1; have R1va := Lib.hid (show Rd w1 w1.heap.size (.slice Ava xs.length cva) (fl xs) from R0va.out.step hb1); have R1vb := Lib.hid (show Rd w1 w1.heap.size (.slice Avb ys.length cvb) (fl ys) from R0vb.out.step hb1); have hB1 : Below w.heap.size w w1 := hB0.trans (hb1.mono hB0.size); clear hb1; rw [T1.out]))
    go_ret
    exact ⟨by rw [HG.out]; rfl, hB1⟩
  | true =>
    cases t2 : isL ys with
    | false =>
      have T1 := Lib.hid t1
      have T2 := Lib.hid t2
      have HG := Lib.hid (show mlG xs ys = false by (unfold mlG; rw [t1, t2, HD.out]; rfl))
      clear t1 t2
      go_enter Try.func56, Try.ntmps56
      go_wp2_with (first | (go_at_call_of 64 Ava; refine (lngI_any (.slice Ava xs.length cva) xs w _ R0va.out hm HX.out).mono ?_; rintro e w1 ⟨rfl, n1, hw1⟩; have hb1 : Below w.heap.size w w1 := (by rw [hw1]; exact below_drawn (Below.refl _ _) _); clear hw1; have R1va := Lib.hid (show Rd w1 w1.heap.size (.slice Ava xs.length cva) (fl xs) from R0va.out.step hb1); have R1vb := Lib.hid (show Rd w1 w1.heap.size (.slice Avb ys.length cvb) (fl ys) from R0vb.out.step hb1); have hB1 : Below w.heap.size w w1 := hB0.trans (hb1.mono hB0.size); clear hb1; rw [T1.out]) | (go_at_call_of 64 Avb; refine (lngI_any (.slice Avb ys.length cvb) ys w1 _ R1vb.out hm2 HY.out).mono ?_; rintro e w2 ⟨rfl, n2, hw2⟩; have hb2 : Below w1.heap.size w1 w2 := (by rw [hw2]; exact below_drawn (Below.refl _ _) _); clear hw2; have R2va := Lib.hid (show Rd w2 w2.heap.size (.slice Ava xs.length cva) (fl xs) from R1va.out.step hb2); have R2vb := Lib.hid (show Rd w2 w2.heap.size (.slice Avb ys.length cvb) (fl ys) from R1vb.out.step hb2); have hB2 : Below w.heap.size w w2 := hB1.trans (hb2.mono hB1.size); clear hb2; rw [T2.out]))
      go_ret
      exact ⟨by rw [HG.out]; rfl, hB2⟩
    | true =>
      have T1 := Lib.hid t1
      have T2 := Lib.hid t2
      have HG := Lib.hid (show mlG xs ys = false by (unfold mlG; rw [t1, t2, HD.out]; rfl))
      clear t1 t2
      go_enter Try.func56, Try.ntmps56
      go_wp2_with (first | (go_at_call_of 64 Ava; refine (lngI_any (.slice Ava xs.length cva) xs w _ R0va.out hm HX.out).mono ?_; rintro e w1 ⟨rfl, n1, hw1⟩; have hb1 : Below w.heap.size w w1 := (by rw [hw1]; exact below_drawn (Below.refl _ _) _); clear hw1; have R1va := Lib.hid (show Rd w1 w1.heap.size (.slice Ava xs.length cva) (fl xs) from R0va.out.step hb1); have R1vb := Lib.hid (show Rd w1 w1.heap.size (.slice Avb ys.length cvb) (fl ys) from R0vb.out.step hb1); have hB1 : Below w.heap.size w w1 := hB0.trans (hb1.mono hB0.size); clear hb1; rw [T1.out]) | (go_at_call_of 64 Avb; refine (lngI_any (.slice Avb ys.length cvb) ys w1 _ R1vb.out hm2 HY.out).mono ?_; rintro e w2 ⟨rfl, n2, hw2⟩; have hb2 : Below w1.heap.size w1 w2 := (by rw [hw2]; exact below_drawn (Below.refl _ _) _); clear hw2; have R2va := Lib.hid (show Rd w2 w2.heap.size (.slice Ava xs.length cva) (fl xs) from R1va.out.step hb2); have R2vb := Lib.hid (show Rd w2 w2.heap.size (.slice Avb ys.length cvb) (fl ys) from R1vb.out.step hb2); have hB2 : Below w.heap.size w w2 := hB1.trans (hb2.mono hB1.size); clear hb2; rw [T2.out]))
      go_ret
      exact ⟨by rw [HG.out]; rfl, hB2⟩
theorem apI_any (va vb : Value) (xs ys : List Nat) (w : World) (hva : Rd w w.heap.size va (fl xs)) (hvb : Rd w w.heap.size vb (fl ys)) (hm : xs.length ≤ 1048576) (hm2 : ys.length ≤ 1048576) (hx : ∀ x ∈ xs, x < 2 ^ 32) (hy : ∀ x ∈ ys, x < 2 ^ 32) : Calls Try.prog 56 #[va, vb] w (RetBl (mlG xs ys) w) := by
  by_cases hl : xs.length = ys.length
  · exact apI_eq va vb xs ys w hva hvb hm hm2 hx hy hl.symm
  · exact apI_ne va vb xs ys w hva hvb hm hm2 hx hy hl
end Go.Proofs.Ytlagmkpofibibaa
