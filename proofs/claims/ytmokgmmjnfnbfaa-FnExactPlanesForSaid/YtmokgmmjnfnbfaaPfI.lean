/-
  Contracts: PlanesFor of one side.
-/
import Derived.Test.YtmokgmmjnfnbfaaPfK
namespace Go.Proofs.Ytmokgmmjnfnbfaa
open Go.RowKit Fl
set_option linter.unusedVariables false

def PqRel (w : World) (xs : List Int) (n : Value) (wr : World) : Prop := ∃ p : Nat, p ≤ 24 ∧ n = .int .i64 p ∧ PlUp xs xs.length p ∧ Below w.heap.size w wr
set_option maxRecDepth 100000 in
set_option maxHeartbeats 4000000 in
theorem pfI_any (v : Value) (xs : List Int) (w : World) (hr : Rd w w.heap.size v (il xs)) (hm : xs.length ≤ 1048576) :
    Calls Try.prog 17 #[v] w fun e w' => e = .returned (.tuple #[.int .i64 (pfV xs), .bool (areB xs)]) ∧ Below w.heap.size w w' := by
  have HA := Lib.hid (areI_any v xs w _ hr hm)
  cases t1 : areB xs with
  | false =>
    rw [pfV_no t1]
    have T1 := Lib.hid t1
    clear t1
    go_enter Try.func17, Try.ntmps17
    go_wp2_with (first | (go_at_call 55; refine HA.out.mono ?_; rintro e w' ⟨rfl, rfl⟩; rw [T1.out]))
    go_ret2
    exact ⟨rfl, Below.refl _ _⟩
  | true =>
    rw [pfV_yes t1]
    obtain ⟨hl1, hl2, hw⟩ := areB_len t1
    have T1 := Lib.hid t1
    have HW := Lib.hid hw
    have HR := Lib.hid hr
    clear t1 hw
    obtain ⟨A0, c, hv, hc1, hc2, hcell⟩ := hr
    rw [il_len] at hv hc1 hcell
    subst hv
    clear hcell hc1 hc2
    go_enter Try.func17, Try.ntmps17
    go_wp2_with (first | (go_at_call 55; refine HA.out.mono ?_; rintro e w' ⟨rfl, rfl⟩; rw [T1.out]))
    go_loopw [4] (PqRel w xs) (fun n _ => (intOf n).toNat)
    case atStart => exact ⟨24, Nat.le_refl _, rfl, plUp_all HW.out, Below.refl _ _⟩
    case round =>
      obtain ⟨p, hp, rfl, hu, hb⟩ := hrel
      have HU := Lib.hid hu
      have HB := Lib.hid hb
      clear hu hb
      cases p with
      | zero =>
        have HE := Lib.hid (plF_is ⟨HU.out, .inl rfl⟩)
        go_wp2
        go_ret2
        rw [HE.out]
        exact ⟨rfl, HB.out⟩
      | succ p =>
        have hpe : ((p + 1 : Nat) : Int) - 1 = p := by omega
        have HP := Lib.hid (pla_any (.slice A0 xs.length c) xs p wr (HR.out.step HB.out) hl2 HW.out (by omega))
        have hqe := fun w' => planes_eq w' (plD xs p) noB (plD_len xs p hl2) (by simp [noB])
        rw [← zeroNo] at hqe
        by_cases hz : plD xs p = noB
        · have HF := Lib.hid (pl_down hl2 HU.out hz)
          rw [decide_eq_true hz] at hqe
          generalize plD xs p = D at *
          clear hz HW
          go_wp2_with (go_at_call 56; refine HP.out.mono ?_; rintro e w1 ⟨rfl, hb1⟩)
          go_roundw
          case rel => exact ⟨p, by omega, by go_num, HF.out, HB.out.trans (hb1.mono HB.out.size)⟩
          case measure => simp [intOf]
        · have HE := Lib.hid (plF_is (pl_stop hl2 HU.out hz))
          rw [decide_eq_false hz] at hqe
          generalize plD xs p = D at *
          clear hz HW
          go_wp2_with (go_at_call 56; refine HP.out.mono ?_; rintro e w1 ⟨rfl, hb1⟩)
          go_ret2
          rw [HE.out]
          exact ⟨rfl, HB.out.trans (hb1.mono HB.out.size)⟩
end Go.Proofs.Ytmokgmmjnfnbfaa
