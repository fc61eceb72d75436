/-
  Contracts: LiftLevels of both sides, with its conditions.
-/
import Derived.Test.YteogogcjndfkoabLvW
namespace Go.Proofs.Yteogogcjndfkoab
open Go.RowKit
set_option linter.unusedVariables false

def lvB (kind : Int) (xs : List Int) (l : Int) : Bool := kiB kind && areB xs && lsB l
def lvR (kind : Int) (xs : List Int) (l : Int) : List (List Int) := if lvB kind xs l then lvF kind l.toNat xs else []
theorem lvR_yes {kind : Int} {xs : List Int} {l : Int} (h : lvB kind xs l = true) : lvR kind xs l = lvF kind l.toNat xs := by unfold lvR; rw [h]; rfl
theorem lvR_no {kind : Int} {xs : List Int} {l : Int} (h : lvB kind xs l = false) : lvR kind xs l = [] := by unfold lvR; rw [h]; rfl
theorem lvB_out {kind : Int} {xs : List Int} {l : Int} (h : lvB kind xs l = true) : kiB kind = true ∧ areB xs = true ∧ lsB l = true := by
  unfold lvB at h
  simp only [Bool.and_eq_true] at h
  exact ⟨h.1.1, h.1.2, h.2⟩
theorem lvR_len (kind : Int) (xs : List Int) (l : Int) : (lvR kind xs l).length ≤ 8 := by
  cases h : lvB kind xs l with
  | true =>
    rw [lvR_yes h]
    have := of_decide_eq_true (lvB_out h).2.2
    have := lvF_len kind l.toNat xs
    omega
  | false => rw [lvR_no h]; simp
theorem lvR_mem (kind : Int) (xs : List Int) (l : Int) : ∀ ys ∈ lvR kind xs l, ys.length ≤ 1048576 := by
  cases h : lvB kind xs l with
  | true =>
    rw [lvR_yes h]
    have := areB_len (lvB_out h).2.1
    exact lvF_mem kind _ _ (by omega)
  | false => rw [lvR_no h]; intro ys hy; cases hy
theorem areB_bd6 {xs : List Int} (h : areB xs = true) : Bds 1000000 xs := by
  have hw := withB_out (areB_len h).2.2
  intro x hx
  obtain ⟨i, hi, rfl⟩ := List.mem_iff_getElem.1 hx
  exact hw i hi

set_option maxRecDepth 100000 in
set_option maxHeartbeats 1000000 in
theorem lvI_no (kind : Int) (A : Option Addr) (c : Nat) (xs : List Int) (l : Int) (w : World) (h : Rd w w.heap.size (.slice A xs.length c) (il xs)) (hm : xs.length ≤ 1048576) (hn : lvB kind xs l = false) :
    Calls Try.prog 35 #[.int .i64 kind, .slice A xs.length c, .int .i64 l] w (RetSSB [] false w) := by
  have hr := h.new (Nat.le_refl _) (.cells #[.int .i64 kind] 2)
  have HK := Lib.hid (fun w => kiI_any kind w)
  have HL := Lib.hid (fun w => lsI_any l w)
  have HA := Lib.hid (areI_any _ xs _ _ hr hm)
  clear hr
  unfold lvB at hn
  cases hk : kiB kind with
  | false =>
    have EK := Lib.hid hk
    clear hk hn
    go_enter Try.func35, Try.ntmps35
    go_wp2_with fail
    refine (HK.out _).mono ?_
    rintro e w' ⟨rfl, rfl⟩
    rw [EK.out]
    go_wp2_with fail
    go_ret2
    exact ⟨_, rfl, ownL_nil _ _, (Below.refl _ _).alloc (Nat.le_refl _) _⟩
  | true =>
  cases hl : lsB l with
  | false =>
    have EK := Lib.hid hk
    have EL := Lib.hid hl
    clear hk hl hn
    go_enter Try.func35, Try.ntmps35
    go_wp2_with fail
    refine (HK.out _).mono ?_
    rintro e w' ⟨rfl, rfl⟩
    rw [EK.out]
    go_wp2_with fail
    refine (HL.out _).mono ?_
    rintro e w' ⟨rfl, rfl⟩
    rw [EL.out]
    go_wp2_with fail
    go_ret2
    exact ⟨_, rfl, ownL_nil _ _, (Below.refl _ _).alloc (Nat.le_refl _) _⟩
  | true =>
    have ha : areB xs = false := by rw [hk, hl] at hn; simpa using hn
    have EK := Lib.hid hk
    have EL := Lib.hid hl
    have EA := Lib.hid ha
    clear hk hl hn ha
    go_enter Try.func35, Try.ntmps35
    go_wp2_with fail
    refine (HK.out _).mono ?_
    rintro e w' ⟨rfl, rfl⟩
    rw [EK.out]
    go_wp2_with fail
    refine (HL.out _).mono ?_
    rintro e w' ⟨rfl, rfl⟩
    rw [EL.out]
    go_wp2_with fail
    refine (HA.out).mono ?_
    rintro e w' ⟨rfl, rfl⟩
    rw [EA.out]
    go_wp2_with fail
    go_ret2
    exact ⟨_, rfl, ownL_nil _ _, (Below.refl _ _).alloc (Nat.le_refl _) _⟩
set_option maxRecDepth 100000 in
set_option maxHeartbeats 1000000 in
theorem lvI_yes (kind : Int) (a : Addr) (c : Nat) (xs : List Int) (L : Nat) (w : World) (h : Rd w w.heap.size (.slice (some a) xs.length c) (il xs)) (hm : xs.length ≤ 1048576) (hy : lvB kind xs L = true) :
    Calls Try.prog 35 #[.int .i64 kind, .slice (some a) xs.length c, .int .i64 L] w (RetSSB (lvF kind L xs) true w) := by
  have hh := lvB_out hy
  have hr := h.new (Nat.le_refl _) (.cells #[.int .i64 kind] 2)
  have hal := areB_len hh.2.1
  have hll := of_decide_eq_true hh.2.2
  have HK := Lib.hid (fun w => kiI_any kind w)
  have HL := Lib.hid (fun w => lsI_any L w)
  have HA := Lib.hid (areI_any _ xs _ _ hr hm)
  have HB := Lib.hid (lbI_any w.heap.size kind a c xs L (w.alloc (.cells #[.int .i64 kind] 2)) ((cell_of_row _ _ _ _ _ _ (heap_alloc_new w _)).trans rfl) (by simp) (hr.more (by simp)) hal.1 hal.2.1 hh.1 (areB_bd6 hh.2.1) (by omega) (by omega))
  have EK := Lib.hid hh.1
  have EL := Lib.hid hh.2.2
  have EA := Lib.hid hh.2.1
  have hmf : ∀ (fn : Fn) (first cap : Array Value) (w : World), (Instr.makeFunc fn first cap).run Try.prog w = .ok (.func fn first cap) w := fun _ _ _ _ => rfl
  clear hh hr hy hll hal
  go_enter Try.func35, Try.ntmps35
  go_wp2_with fail
  refine (HK.out _).mono ?_
  rintro e w' ⟨rfl, rfl⟩
  rw [EK.out]
  go_wp2_with fail
  refine (HL.out _).mono ?_
  rintro e w' ⟨rfl, rfl⟩
  rw [EL.out]
  go_wp2_with fail
  refine HA.out.mono ?_
  rintro e w' ⟨rfl, rfl⟩
  rw [EA.out]
  go_wp2_with fail
  refine HB.out.mono ?_
  rintro e w1 ⟨v, rfl, o, hb⟩
  go_wp2_with fail
  go_ret2
  exact ⟨_, rfl, o.less (by simp), ((Below.refl _ _).alloc (Nat.le_refl _) _).trans (hb.mono (by simp))⟩
end Go.Proofs.Yteogogcjndfkoab
