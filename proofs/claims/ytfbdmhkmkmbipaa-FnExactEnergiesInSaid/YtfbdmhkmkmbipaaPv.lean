/-
  Contracts: valid pictures, of both sides.
-/
import Derived.Test.YtfbdmhkmkmbipaaPic
import Derived.Test.YtfbdmhkmkmbipaaIn
import Derived.Deep.QuietTactic
import Derived.BigQuiet
namespace Go.Proofs.Ytfbdmhkmkmbipaa
open Go.RowKit Fl
set_option linter.unusedVariables false

def sdB (k : Int) : Bool := decide (1 ≤ k ∧ k ≤ 16)
theorem sdB_out {k : Int} (h : sdB k = true) : 1 ≤ k ∧ k ≤ 16 := of_decide_eq_true h
def ssB (p q : Int) : Bool := sdB p && sdB q
def vpcB (p q : Int) (xs : List Nat) : Bool := ssB p q && decide ((xs.length : Int) = p * q) && finA xs
theorem ssB_out {p q : Int} (h : ssB p q = true) : (1 ≤ p ∧ p ≤ 16) ∧ 1 ≤ q ∧ q ≤ 16 := by
  unfold ssB at h; rw [Bool.and_eq_true] at h; exact ⟨sdB_out h.1, sdB_out h.2⟩
theorem mul_bd {p q : Int} (hp : 1 ≤ p ∧ p ≤ 16) (hq : 1 ≤ q ∧ q ≤ 16) : 1 ≤ p * q ∧ p * q ≤ 256 := by
  constructor
  · have := Int.mul_le_mul hp.1 hq.1 (by omega) (by omega); omega
  · have := Int.mul_le_mul hp.2 hq.2 (by omega) (by omega); omega
theorem vpcB_out {p q : Int} {xs : List Nat} (h : vpcB p q xs = true) : (1 ≤ p ∧ p ≤ 16) ∧ (1 ≤ q ∧ q ≤ 16) ∧ (xs.length : Int) = p * q ∧ finA xs = true := by
  unfold vpcB at h; rw [Bool.and_eq_true, Bool.and_eq_true, decide_eq_true_eq] at h
  exact ⟨(ssB_out h.1.1).1, (ssB_out h.1.1).2, h.1.2, h.2⟩
def RetBB (b : Bool) (w : World) (e : Ending) (w' : World) : Prop := e = .returned (.bool b) ∧ Below w.heap.size w w'

theorem isS_any (k : Int) (w : World) : Calls Try.prog 149 #[.int .i64 k] w fun e w' => e = .returned (.bool (sdB k)) ∧ w = w' := by
  by_cases h0 : k < 1
  · rw [show sdB k = false from decide_eq_false (by omega)]
    go_enter Try.func149, Try.ntmps149
    go_wp2
    go_ret
    exact ⟨rfl, rfl⟩
  · have h1 : 1 ≤ k := by omega
    clear h0
    by_cases h2 : k ≤ 16
    · rw [show sdB k = true from decide_eq_true ⟨h1, h2⟩]
      go_enter Try.func149, Try.ntmps149
      go_wp2
      go_ret
      have hd : decide (k ≤ 16) = true := decide_eq_true h2
      first | exact ⟨rfl, rfl⟩ | exact ⟨by rw [← hd]; rfl, rfl⟩
    · rw [show sdB k = false from decide_eq_false (by omega)]
      have h3 : 16 < k := by omega
      clear h2
      go_enter Try.func149, Try.ntmps149
      go_wp2
      go_ret
      have hd : decide (k ≤ 16) = false := decide_eq_false (by omega)
      first | exact ⟨rfl, rfl⟩ | exact ⟨by rw [← hd]; rfl, rfl⟩
theorem inB_any (k lo hi : Int) (w : World) : Calls Try.prog 96 #[.int .i64 k, .int .i64 lo, .int .i64 hi] w fun e w' => e = .returned (.bool (decide (lo ≤ k ∧ k ≤ hi))) ∧ w = w' := by
  by_cases h : lo ≤ k ∧ k ≤ hi
  · rw [decide_eq_true h]; exact in_yes k lo hi w h.1 h.2
  · rw [decide_eq_false h]; exact in_not k lo hi w (by omega)
set_option maxHeartbeats 400000 in
theorem ssS_any (p q : Int) (w : World) : Calls Try.prog 126 #[.int .i64 p, .int .i64 q] w fun e w' => e = .returned (.bool (ssB p q)) ∧ w = w' := by
  have H1 := Lib.hid (fun w => (show Calls Try.prog 96 #[.int .i64 p, .int .i64 1, .int .i64 16] w fun e w' => e = .returned (.bool (sdB p)) ∧ w = w' from inB_any p 1 16 w))
  have H2 := Lib.hid (fun w => (show Calls Try.prog 96 #[.int .i64 q, .int .i64 1, .int .i64 16] w fun e w' => e = .returned (.bool (sdB q)) ∧ w = w' from inB_any q 1 16 w))
  unfold ssB
  cases hp : sdB p with
  | true =>
    have HP := Lib.hid hp
    clear hp
    go_enter Try.func126, Try.ntmps126
    go_wp2_with fail
    refine (H1.out _).mono ?_
    rintro e w1 ⟨rfl, rfl⟩
    rw [HP.out]
    go_wp2_with fail
    refine (H2.out _).mono ?_
    rintro e w2 ⟨rfl, rfl⟩
    go_wp2_with fail
    go_ret
    exact ⟨by simp, rfl⟩
  | false =>
    have HP := Lib.hid hp
    clear hp
    go_enter Try.func126, Try.ntmps126
    go_wp2_with fail
    refine (H1.out _).mono ?_
    rintro e w1 ⟨rfl, rfl⟩
    rw [HP.out]
    go_wp2_with fail
    go_ret
    exact ⟨rfl, rfl⟩
set_option maxHeartbeats 400000 in
theorem sid_any (p q : Int) (A : Option Addr) (n c : Nat) (w : World) : Calls Try.prog 79 #[.agg #[.int .i64 p, .int .i64 q, .slice A n c]] w fun e w' => e = .returned (.agg #[.int .i64 p, .int .i64 q]) ∧ Below w.heap.size w w' := by
  go_enter Try.func79, Try.ntmps79
  go_wp2_with fail
  exact bodyPost_ret (v := .agg #[.int .i64 p, .int .i64 q]) (by simp [results, Try.results79, go_sem]) rfl ⟨rfl, ((Below.refl _ _).alloc (Nat.le_refl _) _).alloc (by simp) _⟩
set_option maxHeartbeats 400000 in
theorem arv_any (p q : Int) (w : World) : Calls Try.prog 127 #[.agg #[.int .i64 p, .int .i64 q]] w (RetBB (ssB p q) w) := by
  have H1 := Lib.hid (fun w => isS_any p w)
  have H2 := Lib.hid (fun w => isS_any q w)
  unfold ssB
  cases hp : sdB p with
  | true =>
    have HP := Lib.hid hp
    clear hp
    go_enter Try.func127, Try.ntmps127
    go_wp2_with fail
    refine (H1.out _).mono ?_
    rintro e w1 ⟨rfl, rfl⟩
    rw [HP.out]
    go_wp2_with fail
    refine (H2.out _).mono ?_
    rintro e w2 ⟨rfl, rfl⟩
    go_wp2_with fail
    go_ret
    exact ⟨by simp, (Below.refl _ _).alloc (Nat.le_refl _) _⟩
  | false =>
    have HP := Lib.hid hp
    clear hp
    go_enter Try.func127, Try.ntmps127
    go_wp2_with fail
    refine (H1.out _).mono ?_
    rintro e w1 ⟨rfl, rfl⟩
    rw [HP.out]
    go_wp2_with fail
    go_ret
    exact ⟨rfl, (Below.refl _ _).alloc (Nat.le_refl _) _⟩

set_option maxHeartbeats 1000000 in
theorem vpI_any (v : Value) (p q : Int) (xs : List Nat) (w : World) (h : Rd w w.heap.size v (fl xs)) (hm : xs.length ≤ 1048576) (hx : ∀ x ∈ xs, x < 2 ^ 32) :
    Calls Try.prog 80 #[.agg #[.int .i64 p, .int .i64 q, v]] w (RetBB (vpcB p q xs) w) := by
  obtain ⟨A, c, hv, q1, q2, q3⟩ := id h
  clear q1 q2 q3
  rw [fl_len] at hv
  subst hv
  have HX := Lib.hid hx
  clear hx
  have h1 : Rd (w.alloc (.cells #[.int .i64 p, .int .i64 q, .slice A xs.length c] 50)) w.heap.size (.slice A xs.length c) (fl xs) := h.below ((Below.refl _ _).alloc (Nat.le_refl _) _)
  have HB := Lib.hid (show Below w.heap.size w (w.alloc (.cells #[.int .i64 p, .int .i64 q, .slice A xs.length c] 50)) from (Below.refl _ _).alloc (Nat.le_refl _) _)
  clear h
  go_enter Try.func80, Try.ntmps80
  go_wp2_with fail
  refine (sid_any p q A xs.length c _).mono ?_
  rintro e w1 ⟨rfl, hb1⟩
  go_wp2_with fail
  refine (arv_any p q _).mono ?_
  rintro e w2 ⟨rfl, hb2⟩
  have hb3 := hb1.trans (hb2.mono hb1.size)
  clear hb1 hb2
  obtain ⟨hc, hf⟩ := bcell hb3
  have c0 : w2.cell? ⟨w.heap.size, 0, none⟩ = some (.int .i64 p) := (hc _ _ (by simp)).trans (by simp [go_sem])
  have c1 : w2.cell? ⟨w.heap.size, 1, none⟩ = some (.int .i64 q) := (hc _ _ (by simp)).trans (by simp [go_sem])
  have c2 : w2.cell? ⟨w.heap.size, 2, none⟩ = some (.slice A xs.length c) := (hc _ _ (by simp)).trans (by simp [go_sem])
  have h2 : Rd w2 w.heap.size (.slice A xs.length c) (fl xs) := h1.below (hb3.mono (by simp))
  have HB2 := Lib.hid (HB.out.trans (hb3.mono (by simp)))
  clear hc hf hb3 h1
  cases hs : ssB p q with
  | false =>
    have HV := Lib.hid (show vpcB p q xs = false by unfold vpcB; rw [hs]; rfl)
    clear hs
    go_wp2_with fail
    go_ret
    rw [HV.out]
    exact ⟨rfl, HB2.out⟩
  | true =>
    obtain ⟨b1, b2⟩ := ssB_out hs
    have hpq := mul_bd b1 b2
    by_cases he : (xs.length : Int) = p * q
    · cases hfi : finA xs with
      | true =>
        have HV := Lib.hid (show vpcB p q xs = true by unfold vpcB; rw [hs, hfi, decide_eq_true he]; rfl)
        have HF := Lib.hid hfi
        clear hs hfi
        go_wp2_with fail
        refine (finI_any _ _ _ _ h2 hm HX.out).mono ?_
        rintro e w3 ⟨rfl, n, rfl⟩
        rw [HF.out]
        go_wp2_with fail
        go_ret
        rw [HV.out]
        exact ⟨rfl, below_drawn HB2.out _⟩
      | false =>
        have HV := Lib.hid (show vpcB p q xs = false by unfold vpcB; rw [hfi]; simp)
        have HF := Lib.hid hfi
        clear hs hfi
        go_wp2_with fail
        refine (finI_any _ _ _ _ h2 hm HX.out).mono ?_
        rintro e w3 ⟨rfl, n, rfl⟩
        rw [HF.out]
        go_wp2_with fail
        go_ret
        rw [HV.out]
        exact ⟨rfl, below_drawn HB2.out _⟩
    · have HV := Lib.hid (show vpcB p q xs = false by unfold vpcB; rw [decide_eq_false he]; simp)
      clear hs
      go_wp2_with fail
      go_ret
      rw [HV.out]
      exact ⟨rfl, HB2.out⟩

set_option maxHeartbeats 2000000 in
theorem vpP_any (g : Nat) (v : Value) (p q : Int) (xs : List Nat) (w : World) (B : Nat) (h : Rd w B v (fl xs)) (hc0 : w.cell? ⟨g, 0, none⟩ = some (.int .i64 p)) (hc1 : w.cell? ⟨g, 1, none⟩ = some (.int .i64 q)) (hc2 : w.cell? ⟨g, 2, none⟩ = some v) (hm : xs.length ≤ 1048576) (hx : ∀ x ∈ xs, x < 2 ^ 32) :
    Calls Try.prog 75 #[.pointer (some ⟨g, 0, none⟩)] w (RetBo (vpcB p q xs) w) := by
  obtain ⟨A, c, hv, q1, q2, q3⟩ := id h
  clear q1 q2 q3
  rw [fl_len] at hv
  subst hv
  have HQ1 := Lib.hid (fun a => (ssS_any p q (w.drewN a)).mono (R' := fun e w'' => e = .returned (.bool (ssB p q)) ∧ ∃ q, w'' = w.drewN q) fun e w' ⟨he, hw⟩ => ⟨he, a, hw.symm⟩)
  have HQ2 := Lib.hid (fun a => (finS_any (.slice A xs.length c) xs (w.drewN a) B (h.drewN a) hm hx).mono (R' := fun e w'' => e = .returned (.bool (finA xs)) ∧ ∃ q, w'' = w.drewN q) fun e w' ⟨he, q, hw⟩ => ⟨he, a + q, by rw [hw, World.drewN_drewN]⟩)
  clear hx
  cases hs : ssB p q with
  | false =>
    rw [hs] at HQ1
    have HV := Lib.hid (show vpcB p q xs = false by unfold vpcB; rw [hs]; rfl)
    have HS := Lib.hid hs
    have HF := Lib.hid (rfl : finA xs = finA xs)
    clear hs
    go_enter Try.func75, Try.ntmps75
    go_wp2_with fail
    go_quiet ((first | exact HQ1.out _ | exact HQ2.out _))
    go_wp2
    go_ret
    rw [HV.out]
    exact ⟨rfl, _, rfl⟩
  | true =>
    obtain ⟨b1, b2⟩ := ssB_out hs
    have hpq := mul_bd b1 b2
    rw [hs] at HQ1
    by_cases he : (xs.length : Int) = p * q
    · cases hfi : finA xs with
      | true =>
        rw [hfi] at HQ2
        have HV := Lib.hid (show vpcB p q xs = true by unfold vpcB; rw [hs, hfi, decide_eq_true he]; rfl)
        have HF := Lib.hid hfi
        clear hs hfi
        go_enter Try.func75, Try.ntmps75
        go_wp2_with fail
        go_quiet ((first | exact HQ1.out _ | exact HQ2.out _))
        go_wp2
        go_ret
        rw [HV.out]
        exact ⟨rfl, _, rfl⟩
      | false =>
        rw [hfi] at HQ2
        have HV := Lib.hid (show vpcB p q xs = false by unfold vpcB; rw [hfi]; simp)
        have HF := Lib.hid hfi
        clear hs hfi
        go_enter Try.func75, Try.ntmps75
        go_wp2_with fail
        go_quiet ((first | exact HQ1.out _ | exact HQ2.out _))
        go_wp2
        go_ret
        rw [HV.out]
        exact ⟨rfl, _, rfl⟩
    · have HV := Lib.hid (show vpcB p q xs = false by unfold vpcB; rw [decide_eq_false he]; simp)
      have hbe : ((xs.length : Int) == p * q) = false := by rw [beq_eq_false_iff_ne]; exact he
      have hde : decide ((xs.length : Int) = p * q) = false := decide_eq_false he
      have HF := Lib.hid (rfl : finA xs = finA xs)
      clear hs
      go_enter Try.func75, Try.ntmps75
      go_wp2_with fail
      go_quiet ((first | exact HQ1.out _ | exact HQ2.out _))
      go_wp2
      go_ret
      rw [HV.out]
      exact ⟨rfl, _, rfl⟩
end Go.Proofs.Ytfbdmhkmkmbipaa
