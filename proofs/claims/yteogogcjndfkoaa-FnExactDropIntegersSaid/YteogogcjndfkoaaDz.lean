/-
  Contracts: DropIntegers of both sides.
-/
import Derived.Test.YteogogcjndfkoaaDrs
namespace Go.Proofs.Yteogogcjndfkoaa
open Go.RowKit
set_option linter.unusedVariables false

theorem ha_yes (vl vh : Value) (ev od : List Int) (w : World) (B B' : Nat) (h : Rd w B vl (il ev)) (h2 : Rd w B' vh (il od)) (h1 : 1 ≤ ev.length) (hf : od.length = ev.length ∨ od.length + 1 = ev.length) (h3 : ev.length + od.length ≤ 128) :
    Calls Try.prog 67 #[vl, vh] w fun e w' => e = .returned (.bool true) ∧ w = w' := by
  obtain ⟨Ae, ce, hv, hx1, hx2, hx3⟩ := h
  obtain ⟨Ao, co, hv2, hy1, hy2, hy3⟩ := h2
  clear hx1 hx2 hx3 hy1 hy2 hy3
  rw [il_len] at hv hv2
  subst hv hv2
  have h4 : ev.length ≤ 64 := by omega
  rcases hf with hf | hf
  · have he : ((od.length : Int) == (ev.length : Int)) = true := by rw [beq_iff_eq]; omega
    clear hf
    go_enter Try.func67, Try.ntmps67
    go_wp2
    go_ret
    exact ⟨rfl, rfl⟩
  · have he : ((od.length : Int) == (ev.length : Int)) = false := by rw [beq_eq_false_iff_ne]; omega
    have he2 : ((od.length : Int) == (ev.length : Int) - 1) = true := by rw [beq_iff_eq]; omega
    clear hf
    go_enter Try.func67, Try.ntmps67
    go_wp2
    go_ret
    exact ⟨rfl, rfl⟩
theorem ha_no (vl vh : Value) (ev od : List Int) (w : World) (B B' : Nat) (h : Rd w B vl (il ev)) (h2 : Rd w B' vh (il od)) (hm : ev.length ≤ 1048576) (hm2 : od.length ≤ 1048576) (hn : ¬ (1 ≤ ev.length ∧ (od.length = ev.length ∨ od.length + 1 = ev.length) ∧ ev.length + od.length ≤ 128)) :
    Calls Try.prog 67 #[vl, vh] w fun e w' => e = .returned (.bool false) ∧ w = w' := by
  obtain ⟨Ae, ce, hv, hx1, hx2, hx3⟩ := h
  obtain ⟨Ao, co, hv2, hy1, hy2, hy3⟩ := h2
  clear hx1 hx2 hx3 hy1 hy2 hy3
  rw [il_len] at hv hv2
  subst hv hv2
  by_cases h1 : ev.length < 1
  · clear hn
    go_enter Try.func67, Try.ntmps67
    go_wp2
    go_ret
    exact ⟨rfl, rfl⟩
  · have h1' : 1 ≤ ev.length := by omega
    clear h1
    by_cases h64 : 64 < ev.length
    · clear hn
      go_enter Try.func67, Try.ntmps67
      go_wp2
      go_ret
      exact ⟨rfl, rfl⟩
    · have h64' : ev.length ≤ 64 := by omega
      have he : ((od.length : Int) == (ev.length : Int)) = false := by rw [beq_eq_false_iff_ne]; omega
      have he2 : ((od.length : Int) == (ev.length : Int) - 1) = false := by rw [beq_eq_false_iff_ne]; omega
      clear hn h64
      go_enter Try.func67, Try.ntmps67
      go_wp2
      go_ret
      exact ⟨rfl, rfl⟩
def dzP (ev od : List Int) : Bool := decide (1 ≤ ev.length ∧ (od.length = ev.length ∨ od.length + 1 = ev.length) ∧ ev.length + od.length ≤ 128)
def dzB (kind : Int) (ev od : List Int) : Bool := kiB kind && dzP ev od && withB 10000000 ev && withB 10000000 od && areB (drF kind ev od)
def dzL (kind : Int) (ev od : List Int) : List Int := if dzB kind ev od then drF kind ev od else []
theorem dzL_len (kind : Int) (ev od : List Int) : (dzL kind ev od).length ≤ 128 := by
  unfold dzL; split
  · rename_i h
    unfold dzB at h
    simp only [Bool.and_eq_true] at h
    have := of_decide_eq_true h.1.1.1.2
    rw [drF_len]; omega
  · simp
theorem dz_false {kind : Int} {ev od : List Int} (h : dzB kind ev od = false) : dzL kind ev od = [] := by unfold dzL; rw [h]; rfl
theorem bds_of {m : Int} {xs : List Int} (h : withB m xs = true) : Bds m xs := fun x hx => by
  obtain ⟨i, hi, rfl⟩ := List.mem_iff_getElem.1 hx
  exact withB_out h i hi
theorem drk_any (kind : Int) (al : Addr) (cl : Nat) (ev : List Int) (ah : Addr) (ch : Nat) (od : List Int) (w : World) (h : Rd w w.heap.size (.slice (some al) ev.length cl) (il ev)) (h2 : Rd w w.heap.size (.slice (some ah) od.length ch) (il od)) (hk : kiB kind = true) (hp : dzP ev od = true) (hwe : withB 10000000 ev = true) (hwo : withB 10000000 od = true) :
    Calls Try.prog 68 #[.int .i64 kind, .slice (some al) ev.length cl, .slice (some ah) od.length ch] w (RetL1 (drF kind ev od) w) := by
  have hk' := of_decide_eq_true hk
  have hp' := of_decide_eq_true hp
  by_cases hz : od.length = 0
  · have ho : od = [] := List.eq_nil_of_length_eq_zero hz
    subst ho
    exact drkI_one kind al cl ev ah ch w h h2 (by simp at hp'; omega)
  · exact drkI_any kind al cl ev ah ch od w h h2 (by omega) (by omega) (by omega) (by omega) hk'.1 hk'.2 (bds_of hwe) (bds_of hwo)
theorem dropS_fit (kind : Int) (vl vh : Value) (ev od : List Int) (w : World) (h : Rd w w.heap.size vl (il ev)) (h2 : Rd w w.heap.size vh (il od)) (hm : ev.length ≤ 1048576) (hm2 : od.length ≤ 1048576) (hn : ¬ (1 ≤ ev.length ∧ (od.length = ev.length ∨ od.length + 1 = ev.length) ∧ ev.length + od.length ≤ 128)) :
    Calls Try.prog 66 #[.int .i64 kind, vl, vh] w fun e w' => e = .returned (.tuple #[.slice none 0 0, .bool false]) ∧ w = w' := by
  obtain ⟨Ae, ce, hv, hx1, hx2, hx3⟩ := id h
  obtain ⟨Ao, co, hv2, hy1, hy2, hy3⟩ := id h2
  clear hx1 hx2 hx3 hy1 hy2 hy3
  rw [il_len] at hv hv2
  subst hv hv2
  have HF := Lib.hid (fit_no ev.length od.length w hm hm2 hn)
  clear hn
  go_enter Try.func66, Try.ntmps66
  go_wp2_with fail
  refine HF.out.mono ?_
  rintro e w' ⟨rfl, rfl⟩
  go_wp2_with fail
  go_ret2
  exact ⟨rfl, rfl⟩
theorem dropS_ev (kind : Int) (vl vh : Value) (ev od : List Int) (w : World) (h : Rd w w.heap.size vl (il ev)) (h2 : Rd w w.heap.size vh (il od)) (hp : 1 ≤ ev.length ∧ (od.length = ev.length ∨ od.length + 1 = ev.length) ∧ ev.length + od.length ≤ 128) (he : withB 10000000 ev = false) :
    Calls Try.prog 66 #[.int .i64 kind, vl, vh] w fun e w' => e = .returned (.tuple #[.slice none 0 0, .bool false]) ∧ w = w' := by
  obtain ⟨Ae, ce, hv, hx1, hx2, hx3⟩ := id h
  obtain ⟨Ao, co, hv2, hy1, hy2, hy3⟩ := id h2
  clear hx1 hx2 hx3 hy1 hy2 hy3
  rw [il_len] at hv hv2
  subst hv hv2
  have HF := Lib.hid (fit_yes ev.length od.length w hp.1 hp.2.1 hp.2.2)
  have HE := Lib.hid he
  have hl1 : ev.length ≤ 128 := by omega
  clear he hp
  go_enter Try.func66, Try.ntmps66
  go_wp2_with fail
  refine HF.out.mono ?_
  rintro e w' ⟨rfl, rfl⟩
  go_wp2_with fail
  refine (withS_any _ ev 10000000 _ _ h (by omega) (by omega) (by omega)).mono ?_
  rintro e w' ⟨rfl, rfl⟩
  rw [HE.out]
  go_wp2_with fail
  go_ret2
  exact ⟨rfl, rfl⟩
theorem dropS_od (kind : Int) (vl vh : Value) (ev od : List Int) (w : World) (h : Rd w w.heap.size vl (il ev)) (h2 : Rd w w.heap.size vh (il od)) (hp : 1 ≤ ev.length ∧ (od.length = ev.length ∨ od.length + 1 = ev.length) ∧ ev.length + od.length ≤ 128) (he : withB 10000000 ev = true) (ho : withB 10000000 od = false) :
    Calls Try.prog 66 #[.int .i64 kind, vl, vh] w fun e w' => e = .returned (.tuple #[.slice none 0 0, .bool false]) ∧ w = w' := by
  obtain ⟨Ae, ce, hv, hx1, hx2, hx3⟩ := id h
  obtain ⟨Ao, co, hv2, hy1, hy2, hy3⟩ := id h2
  clear hx1 hx2 hx3 hy1 hy2 hy3
  rw [il_len] at hv hv2
  subst hv hv2
  have HF := Lib.hid (fit_yes ev.length od.length w hp.1 hp.2.1 hp.2.2)
  have HE := Lib.hid he
  have HO := Lib.hid ho
  have hl1 : ev.length ≤ 128 := by omega
  have hl2 : od.length ≤ 128 := by omega
  clear he ho hp
  go_enter Try.func66, Try.ntmps66
  go_wp2_with fail
  refine HF.out.mono ?_
  rintro e w' ⟨rfl, rfl⟩
  go_wp2_with fail
  refine (withS_any _ ev 10000000 _ _ h (by omega) (by omega) (by omega)).mono ?_
  rintro e w' ⟨rfl, rfl⟩
  rw [HE.out]
  go_wp2_with fail
  refine (withS_any _ od 10000000 _ _ h2 (by omega) (by omega) (by omega)).mono ?_
  rintro e w' ⟨rfl, rfl⟩
  rw [HO.out]
  go_wp2_with fail
  go_ret2
  exact ⟨rfl, rfl⟩
set_option maxHeartbeats 1000000 in
theorem dzI_any (kind : Int) (al : Addr) (cl : Nat) (ev : List Int) (ah : Addr) (ch : Nat) (od : List Int) (w : World) (h : Rd w w.heap.size (.slice (some al) ev.length cl) (il ev)) (h2 : Rd w w.heap.size (.slice (some ah) od.length ch) (il od)) (hm : ev.length ≤ 1048576) (hm2 : od.length ≤ 1048576) :
    Calls Try.prog 32 #[.int .i64 kind, .slice (some al) ev.length cl, .slice (some ah) od.length ch] w (RetLB (dzL kind ev od) (dzB kind ev od) w) := by
  cases hk : kiB kind with
  | false =>
    have hb : dzB kind ev od = false := by unfold dzB; rw [hk]; rfl
    rw [dz_false hb, hb]
    have HK := Lib.hid hk
    clear hk hb
    go_enter Try.func32, Try.ntmps32
    go_wp2_with fail
    refine (kiI_any _ _).mono ?_
    rintro e w' ⟨rfl, rfl⟩
    rw [HK.out]
    go_wp2_with fail
    go_ret2
    exact ⟨_, rfl, own_nil _ _, Below.refl _ _⟩
  | true =>
    have HK := Lib.hid hk
    cases hp : dzP ev od with
    | false =>
      have hb : dzB kind ev od = false := by unfold dzB; rw [hk, hp]; rfl
      rw [dz_false hb, hb]
      have hp' := of_decide_eq_false hp
      clear hk hb hp
      go_enter Try.func32, Try.ntmps32
      go_wp2_with fail
      refine (kiI_any _ _).mono ?_
      rintro e w' ⟨rfl, rfl⟩
      rw [HK.out]
      go_wp2_with fail
      refine (ha_no _ _ ev od _ _ _ h h2 hm hm2 hp').mono ?_
      rintro e w' ⟨rfl, rfl⟩
      go_wp2_with fail
      go_ret2
      exact ⟨_, rfl, own_nil _ _, Below.refl _ _⟩
    | true =>
      have hp' := of_decide_eq_true hp
      cases he : withB 10000000 ev with
      | false =>
        have hb : dzB kind ev od = false := by unfold dzB; rw [hk, hp, he]; rfl
        rw [dz_false hb, hb]
        have HE := Lib.hid he
        clear hk hb hp he
        go_enter Try.func32, Try.ntmps32
        go_wp2_with fail
        refine (kiI_any _ _).mono ?_
        rintro e w' ⟨rfl, rfl⟩
        rw [HK.out]
        go_wp2_with fail
        refine (ha_yes _ _ ev od _ _ _ h h2 hp'.1 hp'.2.1 hp'.2.2).mono ?_
        rintro e w' ⟨rfl, rfl⟩
        go_wp2_with fail
        refine (withI_any _ ev 10000000 _ _ h hm (by omega) (by omega)).mono ?_
        rintro e w' ⟨rfl, rfl⟩
        rw [HE.out]
        go_wp2_with fail
        go_ret2
        exact ⟨_, rfl, own_nil _ _, Below.refl _ _⟩
      | true =>
        cases ho : withB 10000000 od with
        | false =>
          have hb : dzB kind ev od = false := by unfold dzB; rw [hk, hp, he, ho]; rfl
          rw [dz_false hb, hb]
          have HE := Lib.hid he
          have HO := Lib.hid ho
          clear hk hb hp he ho
          go_enter Try.func32, Try.ntmps32
          go_wp2_with fail
          refine (kiI_any _ _).mono ?_
          rintro e w' ⟨rfl, rfl⟩
          rw [HK.out]
          go_wp2_with fail
          refine (ha_yes _ _ ev od _ _ _ h h2 hp'.1 hp'.2.1 hp'.2.2).mono ?_
          rintro e w' ⟨rfl, rfl⟩
          go_wp2_with fail
          refine (withI_any _ ev 10000000 _ _ h hm (by omega) (by omega)).mono ?_
          rintro e w' ⟨rfl, rfl⟩
          rw [HE.out]
          go_wp2_with fail
          refine (withI_any _ od 10000000 _ _ h2 hm2 (by omega) (by omega)).mono ?_
          rintro e w' ⟨rfl, rfl⟩
          rw [HO.out]
          go_wp2_with fail
          go_ret2
          exact ⟨_, rfl, own_nil _ _, Below.refl _ _⟩
        | true =>
          have HD := Lib.hid (drk_any kind al cl ev ah ch od w h h2 hk hp he ho)
          have HE := Lib.hid he
          have HO := Lib.hid ho
          cases ha : areB (drF kind ev od) with
          | false =>
            have hb : dzB kind ev od = false := by unfold dzB; rw [hk, hp, he, ho, ha]; rfl
            rw [dz_false hb, hb]
            have HT := Lib.hid ha
            clear hk hb hp he ho ha
            go_enter Try.func32, Try.ntmps32
            go_wp2_with fail
            refine (kiI_any _ _).mono ?_
            rintro e w' ⟨rfl, rfl⟩
            rw [HK.out]
            go_wp2_with fail
            refine (ha_yes _ _ ev od _ _ _ h h2 hp'.1 hp'.2.1 hp'.2.2).mono ?_
            rintro e w' ⟨rfl, rfl⟩
            go_wp2_with fail
            refine (withI_any _ ev 10000000 _ _ h hm (by omega) (by omega)).mono ?_
            rintro e w' ⟨rfl, rfl⟩
            rw [HE.out]
            go_wp2_with fail
            refine (withI_any _ od 10000000 _ _ h2 hm2 (by omega) (by omega)).mono ?_
            rintro e w' ⟨rfl, rfl⟩
            rw [HO.out]
            go_wp2_with fail
            refine HD.out.mono ?_
            rintro e w1 ⟨v, rfl, ov, hb1⟩
            go_wp2_with fail
            refine (areI_any _ (drF kind ev od) _ _ ov.rd (by rw [drF_len]; omega)).mono ?_
            rintro e w' ⟨rfl, rfl⟩
            rw [HT.out]
            go_wp2_with fail
            go_ret2
            exact ⟨_, rfl, own_nil _ _, hb1⟩
          | true =>
            have hb : dzB kind ev od = true := by unfold dzB; rw [hk, hp, he, ho, ha]; rfl
            rw [show dzL kind ev od = drF kind ev od by unfold dzL; rw [hb]; rfl, hb]
            have HT := Lib.hid ha
            clear hk hb hp he ho ha
            go_enter Try.func32, Try.ntmps32
            go_wp2_with fail
            refine (kiI_any _ _).mono ?_
            rintro e w' ⟨rfl, rfl⟩
            rw [HK.out]
            go_wp2_with fail
            refine (ha_yes _ _ ev od _ _ _ h h2 hp'.1 hp'.2.1 hp'.2.2).mono ?_
            rintro e w' ⟨rfl, rfl⟩
            go_wp2_with fail
            refine (withI_any _ ev 10000000 _ _ h hm (by omega) (by omega)).mono ?_
            rintro e w' ⟨rfl, rfl⟩
            rw [HE.out]
            go_wp2_with fail
            refine (withI_any _ od 10000000 _ _ h2 hm2 (by omega) (by omega)).mono ?_
            rintro e w' ⟨rfl, rfl⟩
            rw [HO.out]
            go_wp2_with fail
            refine HD.out.mono ?_
            rintro e w1 ⟨v, rfl, ov, hb1⟩
            go_wp2_with fail
            refine (areI_any _ (drF kind ev od) _ _ ov.rd (by rw [drF_len]; omega)).mono ?_
            rintro e w' ⟨rfl, rfl⟩
            rw [HT.out]
            go_wp2_with fail
            go_ret2
            exact ⟨_, rfl, ov, hb1⟩
set_option maxHeartbeats 1000000 in
theorem dzS_any (kind : Int) (al : Addr) (cl : Nat) (ev : List Int) (ah : Addr) (ch : Nat) (od : List Int) (w : World) (h : Rd w w.heap.size (.slice (some al) ev.length cl) (il ev)) (h2 : Rd w w.heap.size (.slice (some ah) od.length ch) (il od)) (hm : ev.length ≤ 1048576) (hm2 : od.length ≤ 1048576) :
    Calls Try.prog 31 #[.int .i64 kind, .slice (some al) ev.length cl, .slice (some ah) od.length ch] w (RetLB (dzL kind ev od) (dzB kind ev od) w) := by
  cases hk : kiB kind with
  | false =>
    have hb : dzB kind ev od = false := by unfold dzB; rw [hk]; rfl
    rw [dz_false hb, hb]
    have HK := Lib.hid hk
    clear hk hb
    go_enter Try.func31, Try.ntmps31
    go_wp2_with fail
    refine (kiS_any _ _).mono ?_
    rintro e w' ⟨rfl, rfl⟩
    rw [HK.out]
    go_wp2_with fail
    go_ret2
    exact ⟨_, rfl, own_nil _ _, Below.refl _ _⟩
  | true =>
    have HK := Lib.hid hk
    cases hp : dzP ev od with
    | false =>
      have hb : dzB kind ev od = false := by unfold dzB; rw [hk, hp]; rfl
      rw [dz_false hb, hb]
      have hp' := of_decide_eq_false hp
      clear hk hb hp
      go_enter Try.func31, Try.ntmps31
      go_wp2_with fail
      refine (kiS_any _ _).mono ?_
      rintro e w' ⟨rfl, rfl⟩
      rw [HK.out]
      go_wp2_with fail
      refine (dropS_fit kind _ _ ev od _ h h2 hm hm2 hp').mono ?_
      rintro e w' ⟨rfl, rfl⟩
      go_wp2_with fail
      go_ret2
      exact ⟨_, rfl, own_nil _ _, Below.refl _ _⟩
    | true =>
      have hp' := of_decide_eq_true hp
      have hk' := of_decide_eq_true hk
      cases he : withB 10000000 ev with
      | false =>
        have hb : dzB kind ev od = false := by unfold dzB; rw [hk, hp, he]; rfl
        rw [dz_false hb, hb]
        clear hk hb hp
        go_enter Try.func31, Try.ntmps31
        go_wp2_with fail
        refine (kiS_any _ _).mono ?_
        rintro e w' ⟨rfl, rfl⟩
        rw [HK.out]
        go_wp2_with fail
        refine (dropS_ev kind _ _ ev od _ h h2 hp' he).mono ?_
        rintro e w' ⟨rfl, rfl⟩
        go_wp2_with fail
        go_ret2
        exact ⟨_, rfl, own_nil _ _, Below.refl _ _⟩
      | true =>
        cases ho : withB 10000000 od with
        | false =>
          have hb : dzB kind ev od = false := by unfold dzB; rw [hk, hp, he, ho]; rfl
          rw [dz_false hb, hb]
          clear hk hb hp
          go_enter Try.func31, Try.ntmps31
          go_wp2_with fail
          refine (kiS_any _ _).mono ?_
          rintro e w' ⟨rfl, rfl⟩
          rw [HK.out]
          go_wp2_with fail
          refine (dropS_od kind _ _ ev od _ h h2 hp' he ho).mono ?_
          rintro e w' ⟨rfl, rfl⟩
          go_wp2_with fail
          go_ret2
          exact ⟨_, rfl, own_nil _ _, Below.refl _ _⟩
        | true =>
          have HD := Lib.hid (drpS_yes kind _ _ ev od w h h2 hk'.1 hk'.2 hp'.1 (by omega) (by omega) (by omega) he ho)
          have hb : dzB kind ev od = areB (drF kind ev od) := by unfold dzB; rw [hk, hp, he, ho]; rfl
          rw [show dzL kind ev od = drO kind ev od by unfold dzL drO; rw [hb], hb]
          clear hk hb hp he ho
          go_enter Try.func31, Try.ntmps31
          go_wp2_with fail
          refine (kiS_any _ _).mono ?_
          rintro e w' ⟨rfl, rfl⟩
          rw [HK.out]
          go_wp2_with fail
          refine HD.out.mono ?_
          rintro e w1 ⟨v, rfl, ov, hb1⟩
          go_wp2_with fail
          go_ret2
          exact ⟨_, rfl, ov, hb1⟩
end Go.Proofs.Yteogogcjndfkoaa
