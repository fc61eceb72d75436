/-
  Contracts: the plain limit, of both sides.
-/
import Derived.Test.YtpckljkhmaghmaaLgt
import Derived.Test.YtpckljkhmaghmaaIff
import Derived.Test.YtpckljkhmaghmaaAbs
import Derived.Test.YtpckljkhmaghmaaAp
namespace Go.Proofs.Ytpckljkhmaghmaa
open Go.RowKit Fl
set_option linter.unusedVariables false

theorem is_int32 (n : Int) : Is .f32 (floatOfInt .f32 n) (floatOfInt .f32 n) := by
  refine ⟨cn_of_not ?_, wf_lt (floatOfInt_wf .f32 n)⟩
  unfold floatOfInt FloatKind.nearest isN
  exact read_write _ _ rfl
theorem lsB_is {x : Nat} (hx : x < 2 ^ 32) (h : lsB x = true) : Is .f32 x x := ⟨cn_fin (by unfold lsB at h; rw [Bool.and_eq_true] at h; exact h.1), hx⟩
def plX (a d : Nat) : Nat := ar .mul .f32 a (rtF (ar .mul .f32 1073741824 d))
def plG (a : Nat) (n : Int) : Bool := lsB a && decide (1 ≤ n ∧ n ≤ 128)
def plV (a : Nat) (n : Int) (d : Nat) : Nat := if plG a n then fnV (plX a d) else 0
def plB (a : Nat) (n : Int) (d : Nat) : Bool := plG a n && finB .f32 (plX a d)
theorem pl_no {a : Nat} {n : Int} {d : Nat} (h : plG a n = false) : plV a n d = 0 ∧ plB a n d = false := by unfold plV plB; rw [h]; exact ⟨rfl, rfl⟩
theorem pl_yes {a : Nat} {n : Int} {d : Nat} (h : plG a n = true) : plV a n d = fnV (plX a d) ∧ plB a n d = finB .f32 (plX a d) := by unfold plV plB; rw [h]; exact ⟨rfl, rfl⟩
set_option maxRecDepth 100000 in
set_option maxHeartbeats 1000000 in
theorem plS_any (a d : Nat) (n : Int) (w : World) (ha : a < 2 ^ 32) (hL : (∀ w, Calls Try.prog 59 #[.float .f32 (floatOfInt .f32 n)] w (RetF .f32 d w)) ∧ (∀ w, Calls Try.prog 63 #[.float .f32 (floatOfInt .f32 n)] w (RetF .f32 d w))) :
    Calls Try.prog 26 #[.float .f32 a, .int .i64 n] w (RetB1 (plV a n d) (plB a n d) w) := by
  have hB0 : Below w.heap.size w w := Below.refl _ _
  have HL := Lib.hid hL
  clear hL
  cases t1 : lsB a with
  | false =>
    have T1 := Lib.hid t1
    have HG := Lib.hid (show plG a n = false by (unfold plG; rw [t1]; first | done | rfl | simp))
    clear t1
    go_enter Try.func26, Try.ntmps26
    go_wp2_with (first | (go_at_call 48; refine (lsS_any a w ha).mono ?_; rintro e w1 ⟨rfl, n1, hw1⟩; have hb1 : Below w.heap.size w w1 := (by rw [hw1]; exact below_drawn (Below.refl _ _) _); have hB1 : Below w.heap.size w w1 := hB0.trans (hb1.mono hB0.size); clear hw1 hb1; rw [T1.out]))
    go_ret2
    rw [(pl_no HG.out).1, (pl_no HG.out).2]; exact retB1_no hB1
  | true =>
    cases t2 : (decide (1 ≤ n ∧ n ≤ 128)) with
    | false =>
      have T1 := Lib.hid t1
      have T2 := Lib.hid t2
      have HG := Lib.hid (show plG a n = false by (unfold plG; rw [t1, t2]; first | done | rfl | simp))
      clear t1 t2
      go_enter Try.func26, Try.ntmps26
      go_wp2_with (first | (go_at_call 48; refine (lsS_any a w ha).mono ?_; rintro e w1 ⟨rfl, n1, hw1⟩; have hb1 : Below w.heap.size w w1 := (by rw [hw1]; exact below_drawn (Below.refl _ _) _); have hB1 : Below w.heap.size w w1 := hB0.trans (hb1.mono hB0.size); clear hw1 hb1; rw [T1.out]) | (go_at_call 56; refine (inS_any n 1 128 w1).mono ?_; rintro e w2 ⟨rfl, n2, hw2⟩; have hb2 : Below w1.heap.size w1 w2 := (by rw [hw2]; exact below_drawn (Below.refl _ _) _); have hB2 : Below w.heap.size w w2 := hB1.trans (hb2.mono hB1.size); clear hw2 hb2; rw [T2.out]))
      go_ret2
      rw [(pl_no HG.out).1, (pl_no HG.out).2]; exact retB1_no hB2
    | true =>
      have T1 := Lib.hid t1
      have T2 := Lib.hid t2
      have HG := Lib.hid (show plG a n = true by (unfold plG; rw [t1, t2]; first | done | rfl | simp))
      have HA := Lib.hid (lsB_is ha t1)
      have HV := Lib.hid (pl_yes (d := d) HG.out)
      clear t1 t2
      go_enter Try.func26, Try.ntmps26
      go_wp2_with (first | (go_at_call 48; refine (lsS_any a w ha).mono ?_; rintro e w1 ⟨rfl, n1, hw1⟩; have hb1 : Below w.heap.size w w1 := (by rw [hw1]; exact below_drawn (Below.refl _ _) _); have hB1 : Below w.heap.size w w1 := hB0.trans (hb1.mono hB0.size); clear hw1 hb1; rw [T1.out]) | (go_at_call 56; refine (inS_any n 1 128 w1).mono ?_; rintro e w2 ⟨rfl, n2, hw2⟩; have hb2 : Below w1.heap.size w1 w2 := (by rw [hw2]; exact below_drawn (Below.refl _ _) _); have hB2 : Below w.heap.size w w2 := hB1.trans (hb2.mono hB1.size); clear hw2 hb2; rw [T2.out]) | (go_at_call 59; refine (HL.out.1 _).mono ?_; rintro e w7 ⟨r7, n7, rfl, h7, rfl⟩) | (refine up_ar2 (op := .mul) rfl (is_lit (by decide)) h7 ?_; intro rm nm hm) | (go_at_call 58; refine (rtS_any _ _ _ hm).mono ?_; rintro e w8 ⟨r8, n8, rfl, h8, rfl⟩) | (refine up_ar2 (op := .mul) rfl HA.out h8 ?_; intro rq nq hq) | (go_at_call 57; refine (numS_any _ _ _ hq).mono ?_; rintro e w9 ⟨r9, n9, rfl, h9, rfl⟩))
      go_ret2
      rw [HV.out.1, HV.out.2]; exact ⟨_, rfl, h9, below_drawn hB2 _⟩
set_option maxRecDepth 100000 in
set_option maxHeartbeats 1000000 in
theorem plI_ok (a d : Nat) (n : Int) (w : World) (ha : a < 2 ^ 32) (hL : (∀ w, Calls Try.prog 59 #[.float .f32 (floatOfInt .f32 n)] w (RetF .f32 d w)) ∧ (∀ w, Calls Try.prog 63 #[.float .f32 (floatOfInt .f32 n)] w (RetF .f32 d w))) (h1 : 1 ≤ n) (h2 : n ≤ 128) :
    Calls Try.prog 27 #[.float .f32 a, .int .i64 n] w (RetB1 (plV a n d) (plB a n d) w) := by
  have hB0 : Below w.heap.size w w := Below.refl _ _
  have HL := Lib.hid hL
  clear hL
  have HD := Lib.hid (show decide (1 ≤ n ∧ n ≤ 128) = true from decide_eq_true ⟨h1, h2⟩)
  cases t1 : lsB a with
  | false =>
    have T1 := Lib.hid t1
    have HG := Lib.hid (show plG a n = false by (unfold plG; rw [t1, HD.out]; first | done | rfl | simp))
    clear t1
    go_enter Try.func27, Try.ntmps27
    go_wp2_with (first | (go_at_call 60; refine (lsI_any a w ha).mono ?_; rintro e w1 ⟨rfl, n1, hw1⟩; have hb1 : Below w.heap.size w w1 := (by rw [hw1]; exact below_drawn (Below.refl _ _) _); have hB1 : Below w.heap.size w w1 := hB0.trans (hb1.mono hB0.size); clear hw1 hb1; rw [T1.out]))
    go_ret2
    rw [(pl_no HG.out).1, (pl_no HG.out).2]; exact retB1_no hB1
  | true =>
    have T1 := Lib.hid t1
    have HG := Lib.hid (show plG a n = true by (unfold plG; rw [t1, HD.out]; first | done | rfl | simp))
    have HA := Lib.hid (lsB_is ha t1)
    have HV := Lib.hid (pl_yes (d := d) HG.out)
    clear t1
    go_enter Try.func27, Try.ntmps27
    go_wp2_with (first | (go_at_call 60; refine (lsI_any a w ha).mono ?_; rintro e w1 ⟨rfl, n1, hw1⟩; have hb1 : Below w.heap.size w w1 := (by rw [hw1]; exact below_drawn (Below.refl _ _) _); have hB1 : Below w.heap.size w w1 := hB0.trans (hb1.mono hB0.size); clear hw1 hb1; rw [T1.out]) | (go_at_call 63; refine (HL.out.2 _).mono ?_; rintro e w7 ⟨r7, n7, rfl, h7, rfl⟩) | (refine up_ar2 (op := .mul) rfl (is_lit (by decide)) h7 ?_; intro rm nm hm) | (go_at_call 62; refine (rtI_any _ _ _ hm).mono ?_; rintro e w8 ⟨r8, n8, rfl, h8, rfl⟩) | (refine up_ar2 (op := .mul) rfl HA.out h8 ?_; intro rq nq hq) | (go_at_call 61; refine (ifI_any _ _ _ hq).mono ?_; rintro e w9 ⟨r9, n9, rfl, h9, rfl⟩))
    go_ret2
    rw [HV.out.1, HV.out.2]; exact ⟨_, rfl, h9, below_drawn hB1 _⟩
set_option maxRecDepth 100000 in
set_option maxHeartbeats 1000000 in
theorem plI_lo (a d : Nat) (n : Int) (w : World) (ha : a < 2 ^ 32) (h1 : n < 1) :
    Calls Try.prog 27 #[.float .f32 a, .int .i64 n] w (RetB1 (plV a n d) (plB a n d) w) := by
  have hB0 : Below w.heap.size w w := Below.refl _ _
  have HD := Lib.hid (show decide (1 ≤ n ∧ n ≤ 128) = false from decide_eq_false (by omega))
  cases t1 : lsB a with
  | false =>
    have T1 := Lib.hid t1
    have HG := Lib.hid (show plG a n = false by (unfold plG; rw [t1, HD.out]; first | done | rfl | simp))
    clear t1
    go_enter Try.func27, Try.ntmps27
    go_wp2_with (first | (go_at_call 60; refine (lsI_any a w ha).mono ?_; rintro e w1 ⟨rfl, n1, hw1⟩; have hb1 : Below w.heap.size w w1 := (by rw [hw1]; exact below_drawn (Below.refl _ _) _); have hB1 : Below w.heap.size w w1 := hB0.trans (hb1.mono hB0.size); clear hw1 hb1; rw [T1.out]))
    go_ret2
    rw [(pl_no HG.out).1, (pl_no HG.out).2]; exact retB1_no hB1
  | true =>
    have T1 := Lib.hid t1
    have HG := Lib.hid (show plG a n = false by (unfold plG; rw [t1, HD.out]; first | done | rfl | simp))
    clear t1
    go_enter Try.func27, Try.ntmps27
    go_wp2_with (first | (go_at_call 60; refine (lsI_any a w ha).mono ?_; rintro e w1 ⟨rfl, n1, hw1⟩; have hb1 : Below w.heap.size w w1 := (by rw [hw1]; exact below_drawn (Below.refl _ _) _); have hB1 : Below w.heap.size w w1 := hB0.trans (hb1.mono hB0.size); clear hw1 hb1; rw [T1.out]))
    go_ret2
    rw [(pl_no HG.out).1, (pl_no HG.out).2]; exact retB1_no hB1
set_option maxRecDepth 100000 in
set_option maxHeartbeats 1000000 in
theorem plI_hi (a d : Nat) (n : Int) (w : World) (ha : a < 2 ^ 32) (h0 : 1 ≤ n) (h1 : 128 < n) :
    Calls Try.prog 27 #[.float .f32 a, .int .i64 n] w (RetB1 (plV a n d) (plB a n d) w) := by
  have hB0 : Below w.heap.size w w := Below.refl _ _
  have HD := Lib.hid (show decide (1 ≤ n ∧ n ≤ 128) = false from decide_eq_false (by omega))
  cases t1 : lsB a with
  | false =>
    have T1 := Lib.hid t1
    have HG := Lib.hid (show plG a n = false by (unfold plG; rw [t1, HD.out]; first | done | rfl | simp))
    clear t1
    go_enter Try.func27, Try.ntmps27
    go_wp2_with (first | (go_at_call 60; refine (lsI_any a w ha).mono ?_; rintro e w1 ⟨rfl, n1, hw1⟩; have hb1 : Below w.heap.size w w1 := (by rw [hw1]; exact below_drawn (Below.refl _ _) _); have hB1 : Below w.heap.size w w1 := hB0.trans (hb1.mono hB0.size); clear hw1 hb1; rw [T1.out]))
    go_ret2
    rw [(pl_no HG.out).1, (pl_no HG.out).2]; exact retB1_no hB1
  | true =>
    have T1 := Lib.hid t1
    have HG := Lib.hid (show plG a n = false by (unfold plG; rw [t1, HD.out]; first | done | rfl | simp))
    clear t1
    go_enter Try.func27, Try.ntmps27
    go_wp2_with (first | (go_at_call 60; refine (lsI_any a w ha).mono ?_; rintro e w1 ⟨rfl, n1, hw1⟩; have hb1 : Below w.heap.size w w1 := (by rw [hw1]; exact below_drawn (Below.refl _ _) _); have hB1 : Below w.heap.size w w1 := hB0.trans (hb1.mono hB0.size); clear hw1 hb1; rw [T1.out]))
    go_ret2
    rw [(pl_no HG.out).1, (pl_no HG.out).2]; exact retB1_no hB1
theorem plI_any (a d : Nat) (n : Int) (w : World) (ha : a < 2 ^ 32) (hL : (∀ w, Calls Try.prog 59 #[.float .f32 (floatOfInt .f32 n)] w (RetF .f32 d w)) ∧ (∀ w, Calls Try.prog 63 #[.float .f32 (floatOfInt .f32 n)] w (RetF .f32 d w))) : Calls Try.prog 27 #[.float .f32 a, .int .i64 n] w (RetB1 (plV a n d) (plB a n d) w) := by
  by_cases h1 : n < 1
  · exact plI_lo a d n w ha h1
  · by_cases h2 : 128 < n
    · exact plI_hi a d n w ha (by omega) h2
    · exact plI_ok a d n w ha hL (by omega) (by omega)
end Go.Proofs.Ytpckljkhmaghmaa
