/-
  Contracts: RiceCode of both sides.
-/
import Derived.Test.YtdlginbmelbfgaaRc
namespace Go.Proofs.Ytdlginbmelbfgaa
open Go.RowKit Fl
set_option linter.unusedVariables false

set_option maxRecDepth 100000 in
set_option maxHeartbeats 2000000 in
theorem rcoS_any (v : Value) (xs : List Int) (k : Int) (w : World) (h : Rd w w.heap.size v (il xs)) (hm : xs.length ≤ 1048576) :
    Calls Try.prog 25 #[v, .int .i64 k] w (RetBl (rcV xs k) (rcG xs k) w) := by
  obtain ⟨A0, c, hv, _, _, _⟩ := id h
  rw [il_len] at hv
  subst hv
  have HRc := Lib.hid (riceS_any (.slice A0 xs.length c) xs k w _ h hm)
  cases hg : rlG xs k with
  | false =>
    have hr : rcG xs k = false := by unfold rcG; rw [hg]; rfl
    rw [rcV_no hr, hr]
    have HG := Lib.hid hg
    clear hg hr
    go_enter Try.func25, Try.ntmps25
    go_wp2_with (go_at_call 59; refine HRc.out.mono ?_; rintro e w' ⟨rfl, rfl⟩; rw [HG.out])
    go_ret2
    exact retBl_nil (Below.refl _ _)
  | true =>
    obtain ⟨ha, hk⟩ := rlG_out hg
    obtain ⟨hl1, hl2, hw⟩ := areB_len ha
    obtain ⟨hk1, hk2⟩ := ridB_out hk
    obtain ⟨kk, rfl⟩ : ∃ kk : Nat, k = kk := ⟨k.toNat, by omega⟩
    have hv := rlV_yes hg
    have HO := Lib.hid (rlS_any (.slice A0 xs.length c) xs kk w _ h hl2 hw hk1 hk2)
    have HG := Lib.hid hg
    by_cases hL : rlK xs kk xs.length ≤ 32768
    · have hr : rcG xs kk = true := by unfold rcG; rw [hg, hv, decide_eq_true hL]; rfl
      rw [rcV_yes hr, hr, show ((kk : Int)).toNat = kk by omega]
      have HC := Lib.hid (rcS_any (.slice A0 xs.length c) xs kk w h hl2 hw (by omega) hL)
      obtain ⟨r, hre⟩ : ∃ r, rlK xs kk xs.length = r := ⟨_, rfl⟩
      rw [hre] at HO hL
      clear hg ha hk hw hv hr hre
      go_enter Try.func25, Try.ntmps25
      go_wp2_with (first | (go_at_call 59; refine HRc.out.mono ?_; rintro e w' ⟨rfl, rfl⟩; rw [HG.out]) | (go_at_call 60; refine HO.out.mono ?_; rintro e w' ⟨rfl, rfl⟩) | (go_at_call 64; refine HC.out.mono ?_; rintro e w9 ⟨u, rfl, ho, hb9⟩))
      go_ret2
      exact ⟨_, rfl, ho, hb9⟩
    · have hr : rcG xs kk = false := by unfold rcG; rw [hg, hv, decide_eq_false hL]; rfl
      rw [rcV_no hr, hr]
      obtain ⟨r, hre⟩ : ∃ r, rlK xs kk xs.length = r := ⟨_, rfl⟩
      rw [hre] at HO hL
      have hL' : 32768 < r := by omega
      clear hg ha hk hw hv hr hre hL
      go_enter Try.func25, Try.ntmps25
      go_wp2_with (first | (go_at_call 59; refine HRc.out.mono ?_; rintro e w' ⟨rfl, rfl⟩; rw [HG.out]) | (go_at_call 60; refine HO.out.mono ?_; rintro e w' ⟨rfl, rfl⟩))
      go_ret2
      exact retBl_nil (Below.refl _ _)
set_option maxRecDepth 100000 in
set_option maxHeartbeats 2000000 in
theorem rcoI_any (v : Value) (xs : List Int) (k : Int) (w : World) (h : Rd w w.heap.size v (il xs)) (hm : xs.length ≤ 1048576) :
    Calls Try.prog 26 #[v, .int .i64 k] w (RetBl (rcV xs k) (rcG xs k) w) := by
  have HO := Lib.hid (rloI_any v xs k w _ h hm)
  cases hg : rlG xs k with
  | false =>
    have hr : rcG xs k = false := by unfold rcG; rw [hg]; rfl
    rw [rcV_no hr, hr]
    have HG := Lib.hid hg
    have HV := Lib.hid (rlV_no hg)
    obtain ⟨A0, c, hv, _, _, _⟩ := id h
    rw [il_len] at hv
    subst hv
    clear hg hr
    go_enter Try.func26, Try.ntmps26
    go_wp2_with (go_at_call 21; refine HO.out.mono ?_; rintro e w' ⟨rfl, rfl⟩; rw [HG.out, HV.out])
    go_ret2
    exact retBl_nil (Below.refl _ _)
  | true =>
    obtain ⟨ha, hk⟩ := rlG_out hg
    obtain ⟨hl1, hl2, hw⟩ := areB_len ha
    obtain ⟨hk1, hk2⟩ := ridB_out hk
    obtain ⟨kk, rfl⟩ : ∃ kk : Nat, k = kk := ⟨k.toNat, by omega⟩
    have hv := rlV_yes hg
    by_cases hL : rlK xs kk xs.length ≤ 32768
    · have hr : rcG xs kk = true := by unfold rcG; rw [hg, hv, decide_eq_true hL]; rfl
      rw [rcV_yes hr, hr, show ((kk : Int)).toNat = kk by omega]
      exact rcI_yes v xs kk w h hl2 hw (by omega) hL hg
    · have hr : rcG xs kk = false := by unfold rcG; rw [hg, hv, decide_eq_false hL]; rfl
      rw [rcV_no hr, hr]
      rw [hg, hv] at HO
      obtain ⟨r, hre⟩ : ∃ r, rlK xs kk xs.length = r := ⟨_, rfl⟩
      rw [hre] at HO hL
      have hL' : 32768 < r := by omega
      obtain ⟨A0, c, hv0, _, _, _⟩ := id h
      rw [il_len] at hv0
      subst hv0
      clear hg ha hk hw hv hr hre hL
      go_enter Try.func26, Try.ntmps26
      go_wp2_with (go_at_call 21; refine HO.out.mono ?_; rintro e w' ⟨rfl, rfl⟩)
      go_ret2
      exact retBl_nil (Below.refl _ _)
end Go.Proofs.Ytdlginbmelbfgaa
