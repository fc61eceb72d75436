/-
  Contracts: SmoothLine, of both sides.
-/
import Derived.Test.YtfcegkighjnmeaaSmi
import Derived.Test.YtfcegkighjnmeaaIff
namespace Go.Proofs.Ytfcegkighjnmeaa
open Go.RowKit Fl
set_option linter.unusedVariables false

def smlB (us fs : List Nat) (s : Nat) (t : Int) : Bool := prB us fs s && decide (0 ≤ t ∧ t ≤ 32) && finA (itG (fun c => smF c fs s) t.toNat us)
def smlV (us fs : List Nat) (s : Nat) (t : Int) : List Nat := if smlB us fs s t then itG (fun c => smF c fs s) t.toNat us else []
theorem smlV_yes {us fs : List Nat} {s : Nat} {t : Int} (h : smlB us fs s t = true) : smlV us fs s t = itG (fun c => smF c fs s) t.toNat us := by unfold smlV; rw [if_pos h]
theorem smlV_no {us fs : List Nat} {s : Nat} {t : Int} (h : smlB us fs s t = false) : smlV us fs s t = [] := by unfold smlV; rw [if_neg (by rw [h]; simp)]
theorem it_len (us fs : List Nat) (s : Nat) (k : Nat) : (itG (fun c => smF c fs s) k us).length = us.length := itG_len (fun c' hc' => by rw [smF_len]; exact hc') k
theorem smlV_len (us fs : List Nat) (s : Nat) (t : Int) (h : us.length ≤ 1048576) : (smlV us fs s t).length ≤ 1048576 := by
  cases hb : smlB us fs s t with
  | false => rw [smlV_no hb]; simp
  | true => rw [smlV_yes hb, it_len]; exact h
set_option maxRecDepth 100000 in
set_option maxHeartbeats 4000000 in
theorem chS_any (v u : Value) (us fs : List Nat) (s t : Nat) (w : World) (h : Rd w w.heap.size v (fl us)) (h' : Rd w w.heap.size u (fl fs)) (hm : us.length ≤ 1048576) (hm' : fs.length ≤ 1048576) (hx : ∀ x ∈ us, x < 2 ^ 32) (hx' : ∀ x ∈ fs, x < 2 ^ 32) (hs : s < 2 ^ 32) (ht : t ≤ 64) :
    Calls Try.prog 72 #[v, u, .float .f32 s, .int .i64 t, .func (.func 76) #[] #[]] w (RetLF (if prB us fs s && finA (itG (fun c => smF c fs s) t us) then itG (fun c => smF c fs s) t us else []) (prB us fs s && finA (itG (fun c => smF c fs s) t us)) w) := by
  have HT := Lib.hid (canI_any v u us fs s w _ h h' hm hm' hx hx' hs)
  obtain ⟨A, c, hv, _, _, _⟩ := id h
  obtain ⟨A', c', hv', _, _, _⟩ := id h'
  rw [fl_len] at hv hv'
  subst hv hv'
  cases hp : prB us fs s with
  | false =>
    rw [hp] at HT
    simp only [Bool.false_and, Bool.false_eq_true, if_false]
    clear hp h h'
    go_enter Try.func72, Try.ntmps72
    go_wp2_with (go_at_call 95; refine HT.out.mono ?_; rintro e w' ⟨rfl, n1, rfl⟩)
    go_ret2
    exact retLF_none (below_drawn (Below.refl _ _) _)
  | true =>
    obtain ⟨p1, p2, p3, p4, p5⟩ := prB_out hp
    rw [hp] at HT
    simp only [Bool.true_and]
    obtain ⟨n, hn⟩ : ∃ n, us.length = n := ⟨_, rfl⟩
    have hn' : fs.length = n := by omega
    obtain ⟨b1, b63⟩ := liB_bd p1
    rw [hn] at h p1 b1 b63 HT hm ⊢
    rw [hn'] at h' HT hm' ⊢
    have HX := Lib.hid (IsW.self p2 hx)
    have HL := Lib.hid hn
    have HG := Lib.hid (fun k => itG_len (G := fun c => smF c fs s) (c := us) (fun c' hc' => by rw [smF_len]; exact hc') k)
    have HCl := Lib.hid (fun q => clnF_any A n c us (w.drewN q) (h.drewN q) hn (by omega) (by omega))
    have HM := Lib.hid (fun (W : World) (hW : Rd W W.heap.size (.slice A' n c') (fl fs)) (B : Option Addr) (d : Nat) (ys cs : List Nat) (hy : Rd W W.heap.size (.slice B n d) (fl ys)) (hl : ys.length = n) (hi : IsW ys cs) => smI_any A' B n c' d s ys cs fs W hW hy hl hn' p1 hi p3 hx' hs p5)
    have HR := Lib.hid h'
    generalize hITe : itG (fun c => smF c fs s) t us = IT
    have HIT := Lib.hid hITe
    obtain ⟨L, hL0⟩ : ∃ L, (if finA IT then IT else []) = L := ⟨_, rfl⟩
    rw [hL0]
    obtain ⟨bb, hb0⟩ : ∃ bb, finA IT = bb := ⟨_, rfl⟩
    rw [hb0] at hL0
    rw [hb0]
    have HLL := Lib.hid hL0
    have HBB := Lib.hid hb0
    clear hL0 hb0
    clear h h' hn hn' hp p2 p3 p4 hx hx' p1 hITe
    go_enter Try.func72, Try.ntmps72
    go_wp2_with (first | (go_at_call 95; refine HT.out.mono ?_; rintro e w' ⟨rfl, n1, rfl⟩) | (go_at_call 85; refine (HCl.out _).mono ?_; rintro e w1 ⟨v', rfl, ho, hb1⟩; have HO1 := Lib.hid ho; have HB1 := Lib.hid ((below_drawn (Below.refl w.heap.size w) n1).trans hb1); clear ho hb1))
    go_loopw [12, 21] (ChR w us (fun c => smF c fs s) t) (fun _ i _ => t - (intOf i).toNat)
    case atStart => exact ⟨0, us, Nat.zero_le _, rfl, HX.out, HO1.out, HB1.out⟩
    case round =>
      clear HO1 HB1
      obtain ⟨k, ys, hk, rfl, hw, ho, hbl⟩ := hrel
      have hyl : ys.length = n := by rw [hw.len, HG.out, HL.out]
      by_cases hlt : k < t
      · obtain ⟨g, go, d, hve⟩ := ho.openF (by omega)
        rw [hyl] at hve
        subst hve
        have HMM := Lib.hid (fun q => HM.out (wr.drewN q) ((HR.out.step hbl).drewN q) (some ⟨g, go, none⟩) d ys _ (ho.drewN q).rd hyl hw)
        have HB := Lib.hid hbl
        clear hw ho hbl hyl
        go_wp2_with (go_at_call 76; refine (HMM.out 0).mono ?_; rintro e w2 ⟨v2, ys2, rfl, hw2, ho2, hb2⟩; have HW2 := Lib.hid hw2; have HO2 := Lib.hid (show Own w2 w.heap.size v2 (fl ys2) from ho2.less HB.out.size); have HB2 := Lib.hid (show Below w.heap.size w w2 from HB.out.trans (hb2.mono HB.out.size)); clear hw2 ho2 hb2)
        go_roundw
        case rel => exact ⟨k + 1, ys2, by omega, by go_num, HW2.out, HO2.out, HB2.out⟩
        case measure => simp [intOf]; omega
      · obtain rfl : k = t := by omega
        rw [HIT.out] at hw
        have HW := Lib.hid hw
        have HO := Lib.hid ho
        have HB := Lib.hid hbl
        have HYL := Lib.hid hyl
        clear hw ho hbl hyl
        cases bb with
        | false =>
          go_wp2_with (go_at_call 68; refine (iflI_any _ ys _ _ HO.out.rd (by rw [HYL.out]; omega) HW.out.lt).mono ?_; rintro e w' ⟨rfl, nf, rfl⟩; rw [HW.out.fin, HBB.out])
          go_ret2
          rw [← HLL.out]
          exact retLF_none (below_drawn HB.out _)
        | true =>
          go_wp2_with (go_at_call 68; refine (iflI_any _ ys _ _ HO.out.rd (by rw [HYL.out]; omega) HW.out.lt).mono ?_; rintro e w' ⟨rfl, nf, rfl⟩; rw [HW.out.fin, HBB.out])
          go_ret2
          rw [← HLL.out, if_pos (by trivial), ← HW.out.eq HBB.out]
          exact ⟨_, rfl, HO.out.drewN _, below_drawn HB.out _⟩
theorem smlI_any (v u : Value) (us fs : List Nat) (s : Nat) (t : Int) (w : World) (h : Rd w w.heap.size v (fl us)) (h' : Rd w w.heap.size u (fl fs)) (hm : us.length ≤ 1048576) (hm' : fs.length ≤ 1048576) (hx : ∀ x ∈ us, x < 2 ^ 32) (hx' : ∀ x ∈ fs, x < 2 ^ 32) (hs : s < 2 ^ 32) :
    Calls Try.prog 42 #[v, u, .float .f32 s, .int .i64 t] w (RetLF (smlV us fs s t) (smlB us fs s t) w) := by
  by_cases h0 : t < 0
  · have hb : smlB us fs s t = false := by unfold smlB; rw [decide_eq_false (by omega), Bool.and_false, Bool.false_and]
    rw [smlV_no hb, hb]
    clear h h' hb
    go_enter Try.func42, Try.ntmps42
    go_wp2_with fail
    go_ret2
    exact retLF_none (Below.refl _ _)
  by_cases h32 : 32 < t
  · have hb : smlB us fs s t = false := by unfold smlB; rw [decide_eq_false (by omega), Bool.and_false, Bool.false_and]
    rw [smlV_no hb, hb]
    have h0' : 0 ≤ t := by omega
    clear h h' hb h0
    go_enter Try.func42, Try.ntmps42
    go_wp2_with fail
    go_ret2
    exact retLF_none (Below.refl _ _)
  obtain ⟨q, rfl⟩ : ∃ q : Nat, t = q := ⟨t.toNat, by omega⟩
  have hB : smlB us fs s q = (prB us fs s && finA (itG (fun c => smF c fs s) q us)) := by unfold smlB; rw [decide_eq_true (by omega), Bool.and_true]; rfl
  have HC := Lib.hid (show Calls Try.prog 72 #[v, u, .float .f32 s, .int .i64 q, .func (.func 76) #[] #[]] w (RetLF (smlV us fs s q) (smlB us fs s q) w) by
    have := chS_any v u us fs s q w h h' hm hm' hx hx' hs (by omega)
    unfold smlV; rw [hB]; exact this)
  have h0' : (0 : Int) ≤ q := by omega
  have h32' : (q : Int) ≤ 32 := by omega
  clear h h' hm hm' hx hx' hs hB h0 h32
  generalize smlV us fs s q = L at *
  generalize smlB us fs s q = b at *
  go_enter Try.func42, Try.ntmps42
  go_wp2_with (go_at_call 72; refine HC.out.mono ?_; rintro e w' ⟨z, rfl, ho, hb⟩)
  go_ret2
  exact ⟨_, rfl, ho, hb⟩
set_option maxRecDepth 100000 in
set_option maxHeartbeats 4000000 in
theorem smlS_any (v u : Value) (us fs : List Nat) (s : Nat) (t : Int) (w : World) (h : Rd w w.heap.size v (fl us)) (h' : Rd w w.heap.size u (fl fs)) (hm : us.length ≤ 1048576) (hm' : fs.length ≤ 1048576) (hx : ∀ x ∈ us, x < 2 ^ 32) (hx' : ∀ x ∈ fs, x < 2 ^ 32) (hs : s < 2 ^ 32) :
    Calls Try.prog 41 #[v, u, .float .f32 s, .int .i64 t] w (RetLF (smlV us fs s t) (smlB us fs s t) w) := by
  have HT := Lib.hid (canS_any v u us fs s w _ h h' hm hm' hx hx' hs)
  have HI := Lib.hid (fun w => inS_any t 0 32 w)
  obtain ⟨A, c, hv, _, _, _⟩ := id h
  obtain ⟨A', c', hv', _, _, _⟩ := id h'
  rw [fl_len] at hv hv'
  subst hv hv'
  cases hp : prB us fs s with
  | false =>
    rw [hp] at HT
    have hb : smlB us fs s t = false := by unfold smlB; rw [hp]; rfl
    rw [smlV_no hb, hb]
    clear hp h h' hb
    go_enter Try.func41, Try.ntmps41
    go_wp2_with (first | (go_at_call 70; refine HT.out.mono ?_; rintro e w' ⟨rfl, n1, rfl⟩) | (go_at_call 74; refine (HI.out _).mono ?_; rintro e w' ⟨rfl, n1, rfl⟩))
    go_ret2
    first | exact retLF_none (below_drawn (Below.refl _ _) _) | exact retLF_none (below_drawn (below_drawn (Below.refl _ _) _) _)
  | true =>
    rw [hp] at HT
    by_cases ht : 0 ≤ t ∧ t ≤ 32
    · rw [decide_eq_true ht] at HI
      obtain ⟨q, rfl⟩ : ∃ q : Nat, t = q := ⟨t.toNat, by omega⟩
      obtain ⟨p1, p2, p3, p4, p5⟩ := prB_out hp
      have HB := Lib.hid (show smlB us fs s q = finA (itG (fun c => smF c fs s) q us) by unfold smlB; rw [hp, decide_eq_true ht]; rfl)
      obtain ⟨n, hn⟩ : ∃ n, us.length = n := ⟨_, rfl⟩
      have hn' : fs.length = n := by omega
      obtain ⟨b1, b63⟩ := liB_bd p1
      rw [hn] at h p1 b1 b63 HT hm ⊢
      rw [hn'] at h' HT hm' ⊢
      have HW := Lib.hid (fun d => smS_any A A' n c c' s q us fs (w.drewN d) (h.drewN d) (h'.drewN d) hn hn' p1 p2 p3 hx hx' hs p5 (by omega))
      have HL := Lib.hid (show (itG (fun c => smF c fs s) q us).length = n by rw [it_len, hn])
      have HV := Lib.hid (fun h => smlV_yes (us := us) (fs := fs) (s := s) (t := (q : Int)) h)
      clear h h' hn hn' hp p1 p2 p3 p4 hx hx' ht
      cases hf : finA (itG (fun c => smF c fs s) q us) with
      | false =>
        rw [hf] at HB
        have HF := Lib.hid hf
        clear hf
        rw [smlV_no HB.out, HB.out]
        go_enter Try.func41, Try.ntmps41
        go_wp2_with (first | (go_at_call 70; refine HT.out.mono ?_; rintro e w' ⟨rfl, n1, rfl⟩) | (go_at_call 74; refine (HI.out _).mono ?_; rintro e w' ⟨rfl, n1, rfl⟩) | (go_at_call 75; refine (HW.out _).mono ?_; rintro e w2 ⟨z, ys, rfl, hw, ho, hb2⟩; have HI2 := Lib.hid hw; have HO := Lib.hid ho; have HD := Lib.hid hb2; clear hw ho hb2) | (go_at_call 63; refine (finS_any _ ys _ _ HO.out.rd (by rw [HI2.out.len, HL.out]; omega) HI2.out.lt).mono ?_; rintro e w3 ⟨rfl, n3, rfl⟩; rw [HI2.out.fin, HF.out]))
        go_ret2
        exact retLF_none (below_drawn ((below_drawn (Below.refl w.heap.size w) _).trans HD.out) _)
      | true =>
        rw [hf] at HB
        have HF := Lib.hid hf
        clear hf
        rw [HV.out HB.out, HB.out]
        simp only [Int.toNat_natCast]
        obtain ⟨L, hL⟩ : ∃ L, itG (fun c => smF c fs s) q us = L := ⟨_, rfl⟩
        rw [hL] at HW HL HF ⊢
        clear hL
        go_enter Try.func41, Try.ntmps41
        go_wp2_with (first | (go_at_call 70; refine HT.out.mono ?_; rintro e w' ⟨rfl, n1, rfl⟩) | (go_at_call 74; refine (HI.out _).mono ?_; rintro e w' ⟨rfl, n1, rfl⟩) | (go_at_call 75; refine (HW.out _).mono ?_; rintro e w2 ⟨z, ys, rfl, hw, ho, hb2⟩; have HI2 := Lib.hid hw; have HO := Lib.hid ho; have HD := Lib.hid hb2; clear hw ho hb2) | (go_at_call 63; refine (finS_any _ ys _ _ HO.out.rd (by rw [HI2.out.len, HL.out]; omega) HI2.out.lt).mono ?_; rintro e w3 ⟨rfl, n3, rfl⟩; rw [HI2.out.fin, HF.out]))
        go_ret2
        rw [← HI2.out.eq HF.out]
        exact ⟨_, rfl, HO.out.drewN _, below_drawn ((below_drawn (Below.refl w.heap.size w) _).trans HD.out) _⟩
    · rw [decide_eq_false ht] at HI
      have hb : smlB us fs s t = false := by unfold smlB; rw [hp, decide_eq_false ht]; rfl
      rw [smlV_no hb, hb]
      clear hp h h' hb ht
      go_enter Try.func41, Try.ntmps41
      go_wp2_with (first | (go_at_call 70; refine HT.out.mono ?_; rintro e w' ⟨rfl, n1, rfl⟩) | (go_at_call 74; refine (HI.out _).mono ?_; rintro e w' ⟨rfl, n1, rfl⟩))
      go_ret2
      first | exact retLF_none (below_drawn (Below.refl _ _) _) | exact retLF_none (below_drawn (below_drawn (Below.refl _ _) _) _)
end Go.Proofs.Ytfcegkighjnmeaa
