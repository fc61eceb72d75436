/-
  Contracts: ResidualOf, of both sides.
-/
import Derived.Test.YtfcegkighjnmeaaRei
namespace Go.Proofs.Ytfcegkighjnmeaa
open Go.RowKit Fl
set_option linter.unusedVariables false

def itG (G : List Nat → List Nat) : Nat → List Nat → List Nat
  | 0, c => c
  | k + 1, c => G (itG G k c)
theorem itG_len {G : List Nat → List Nat} {c : List Nat} (hG : ∀ c', c'.length = c.length → (G c').length = c.length) : ∀ k, (itG G k c).length = c.length
  | 0 => rfl
  | k + 1 => hG _ (itG_len hG k)
theorem prB_out {us fs : List Nat} {s : Nat} (h : prB us fs s = true) : liB us.length = true ∧ finA us = true ∧ finA fs = true ∧ us.length = fs.length ∧ psB s = true := by
  unfold prB at h
  simp only [Bool.and_eq_true, decide_eq_true_eq] at h
  exact ⟨(lnG_len h.1.1.1).1, (lnG_len h.1.1.1).2, (lnG_len h.1.1.2).2, h.1.2, h.2⟩
def ChR (w0 : World) (us : List Nat) (G : List Nat → List Nat) (t : Nat) (v iv : Value) (wr : World) : Prop := ∃ (k : Nat) (ys : List Nat), k ≤ t ∧ iv = .int .i64 k ∧ IsW ys (itG G k us) ∧ Own wr w0.heap.size v (fl ys) ∧ Below w0.heap.size w0 wr
def rrB (us fs : List Nat) (s : Nat) : Bool := prB us fs s && finA (reF us fs s)
def rrV (us fs : List Nat) (s : Nat) : List Nat := if rrB us fs s then reF us fs s else []
theorem rrV_yes {us fs : List Nat} {s : Nat} (h : rrB us fs s = true) : rrV us fs s = reF us fs s := by unfold rrV; rw [if_pos h]
theorem rrV_no {us fs : List Nat} {s : Nat} (h : rrB us fs s = false) : rrV us fs s = [] := by unfold rrV; rw [if_neg (by rw [h]; simp)]
theorem rrV_len (us fs : List Nat) (s : Nat) (h : fs.length ≤ 1048576) : (rrV us fs s).length ≤ 1048576 := by
  cases hb : rrB us fs s with
  | false => rw [rrV_no hb]; simp
  | true => rw [rrV_yes hb, reF_len]; exact h
set_option maxRecDepth 100000 in
set_option maxHeartbeats 4000000 in
theorem chR_any (v u : Value) (us fs : List Nat) (s t : Nat) (w : World) (h : Rd w w.heap.size v (fl us)) (h' : Rd w w.heap.size u (fl fs)) (hm : us.length ≤ 1048576) (hm' : fs.length ≤ 1048576) (hx : ∀ x ∈ us, x < 2 ^ 32) (hx' : ∀ x ∈ fs, x < 2 ^ 32) (hs : s < 2 ^ 32) (ht : t ≤ 64) :
    Calls Try.prog 72 #[v, u, .float .f32 s, .int .i64 t, .func (.func 73) #[] #[]] w (RetLF (if prB us fs s && finA (itG (fun c => reF c fs s) t us) then itG (fun c => reF c fs s) t us else []) (prB us fs s && finA (itG (fun c => reF c fs s) t us)) w) := by
  have HT := Lib.hid (canI_any v u us fs s w _ h h' hm hm' hx hx' hs)
  obtain ⟨A, c, hv, _, _, _⟩ := id h
  obtain ⟨A', c', hv', _, _, _⟩ := id h'
  rw [fl_len] at hv hv'
  subst hv hv'
  cases hp : prB us fs s with
  | false =>
    rw [hp] at HT
    simp only [Bool.false_and, Bool.false_eq_true, if_false]
    clear hp h h'
    go_enter Try.func72, Try.ntmps72
    go_wp2_with (go_at_call 95; refine HT.out.mono ?_; rintro e w' ⟨rfl, n1, rfl⟩)
    go_ret2
    exact retLF_none (below_drawn (Below.refl _ _) _)
  | true =>
    obtain ⟨p1, p2, p3, p4, p5⟩ := prB_out hp
    rw [hp] at HT
    simp only [Bool.true_and]
    obtain ⟨n, hn⟩ : ∃ n, us.length = n := ⟨_, rfl⟩
    have hn' : fs.length = n := by omega
    obtain ⟨b1, b63⟩ := liB_bd p1
    rw [hn] at h p1 b1 b63 HT hm ⊢
    rw [hn'] at h' HT hm' ⊢
    have HX := Lib.hid (IsW.self p2 hx)
    have HL := Lib.hid hn
    have HG := Lib.hid (fun k => itG_len (G := fun c => reF c fs s) (c := us) (fun c' hc' => by rw [reF_len, hn', hn]) k)
    have HCl := Lib.hid (fun q => clnF_any A n c us (w.drewN q) (h.drewN q) hn (by omega) (by omega))
    have HM := Lib.hid (fun (W : World) (hW : Rd W W.heap.size (.slice A' n c') (fl fs)) (B : Option Addr) (d : Nat) (ys cs : List Nat) (hy : Rd W W.heap.size (.slice B n d) (fl ys)) (hl : ys.length = n) (hi : IsW ys cs) => reI_any A' B n c' d s ys cs fs W hW hy hl hn' p1 hi p3 hx' hs p5)
    have HR := Lib.hid h'
    generalize hITe : itG (fun c => reF c fs s) t us = IT
    have HIT := Lib.hid hITe
    obtain ⟨L, hL0⟩ : ∃ L, (if finA IT then IT else []) = L := ⟨_, rfl⟩
    rw [hL0]
    obtain ⟨bb, hb0⟩ : ∃ bb, finA IT = bb := ⟨_, rfl⟩
    rw [hb0] at hL0
    rw [hb0]
    have HLL := Lib.hid hL0
    have HBB := Lib.hid hb0
    clear hL0 hb0
    clear h h' hn hn' hp p2 p3 p4 hx hx' p1 hITe
    go_enter Try.func72, Try.ntmps72
    go_wp2_with (first | (go_at_call 95; refine HT.out.mono ?_; rintro e w' ⟨rfl, n1, rfl⟩) | (go_at_call 85; refine (HCl.out _).mono ?_; rintro e w1 ⟨v', rfl, ho, hb1⟩; have HO1 := Lib.hid ho; have HB1 := Lib.hid ((below_drawn (Below.refl w.heap.size w) n1).trans hb1); clear ho hb1))
    go_loopw [12, 21] (ChR w us (fun c => reF c fs s) t) (fun _ i _ => t - (intOf i).toNat)
    case atStart => exact ⟨0, us, Nat.zero_le _, rfl, HX.out, HO1.out, HB1.out⟩
    case round =>
      clear HO1 HB1
      obtain ⟨k, ys, hk, rfl, hw, ho, hbl⟩ := hrel
      have hyl : ys.length = n := by rw [hw.len, HG.out, HL.out]
      by_cases hlt : k < t
      · obtain ⟨g, go, d, hve⟩ := ho.openF (by omega)
        rw [hyl] at hve
        subst hve
        have HMM := Lib.hid (fun q => HM.out (wr.drewN q) ((HR.out.step hbl).drewN q) (some ⟨g, go, none⟩) d ys _ (ho.drewN q).rd hyl hw)
        have HB := Lib.hid hbl
        clear hw ho hbl hyl
        go_wp2_with (go_at_call 73; refine (HMM.out 0).mono ?_; rintro e w2 ⟨v2, ys2, rfl, hw2, ho2, hb2⟩; have HW2 := Lib.hid hw2; have HO2 := Lib.hid (show Own w2 w.heap.size v2 (fl ys2) from ho2.less HB.out.size); have HB2 := Lib.hid (show Below w.heap.size w w2 from HB.out.trans (hb2.mono HB.out.size)); clear hw2 ho2 hb2)
        go_roundw
        case rel => exact ⟨k + 1, ys2, by omega, by go_num, HW2.out, HO2.out, HB2.out⟩
        case measure => simp [intOf]; omega
      · obtain rfl : k = t := by omega
        rw [HIT.out] at hw
        have HW := Lib.hid hw
        have HO := Lib.hid ho
        have HB := Lib.hid hbl
        have HYL := Lib.hid hyl
        clear hw ho hbl hyl
        cases bb with
        | false =>
          go_wp2_with (go_at_call 68; refine (iflI_any _ ys _ _ HO.out.rd (by rw [HYL.out]; omega) HW.out.lt).mono ?_; rintro e w' ⟨rfl, nf, rfl⟩; rw [HW.out.fin, HBB.out])
          go_ret2
          rw [← HLL.out]
          exact retLF_none (below_drawn HB.out _)
        | true =>
          go_wp2_with (go_at_call 68; refine (iflI_any _ ys _ _ HO.out.rd (by rw [HYL.out]; omega) HW.out.lt).mono ?_; rintro e w' ⟨rfl, nf, rfl⟩; rw [HW.out.fin, HBB.out])
          go_ret2
          rw [← HLL.out, if_pos (by trivial), ← HW.out.eq HBB.out]
          exact ⟨_, rfl, HO.out.drewN _, below_drawn HB.out _⟩
set_option maxRecDepth 100000 in
set_option maxHeartbeats 4000000 in
theorem rrS_any (v u : Value) (us fs : List Nat) (s : Nat) (w : World) (h : Rd w w.heap.size v (fl us)) (h' : Rd w w.heap.size u (fl fs)) (hm : us.length ≤ 1048576) (hm' : fs.length ≤ 1048576) (hx : ∀ x ∈ us, x < 2 ^ 32) (hx' : ∀ x ∈ fs, x < 2 ^ 32) (hs : s < 2 ^ 32) :
    Calls Try.prog 39 #[v, u, .float .f32 s] w (RetLF (rrV us fs s) (rrB us fs s) w) := by
  have HT := Lib.hid (canS_any v u us fs s w _ h h' hm hm' hx hx' hs)
  obtain ⟨A, c, hv, _, _, _⟩ := id h
  obtain ⟨A', c', hv', _, _, _⟩ := id h'
  rw [fl_len] at hv hv'
  subst hv hv'
  cases hp : prB us fs s with
  | false =>
    rw [hp] at HT
    have hb : rrB us fs s = false := by unfold rrB; rw [hp]; rfl
    rw [rrV_no hb, hb]
    clear hp h h' hb
    go_enter Try.func39, Try.ntmps39
    go_wp2_with (go_at_call 70; refine HT.out.mono ?_; rintro e w' ⟨rfl, n1, rfl⟩)
    go_ret2
    exact retLF_none (below_drawn (Below.refl _ _) _)
  | true =>
    obtain ⟨p1, p2, p3, p4, p5⟩ := prB_out hp
    rw [hp] at HT
    have HB := Lib.hid (show rrB us fs s = finA (reF us fs s) by unfold rrB; rw [hp]; rfl)
    obtain ⟨n, hn⟩ : ∃ n, us.length = n := ⟨_, rfl⟩
    have hn' : fs.length = n := by omega
    obtain ⟨b1, b63⟩ := liB_bd p1
    rw [hn] at h p1 b1 b63 HT hm ⊢
    rw [hn'] at h' HT hm' ⊢
    have HW := Lib.hid (fun q => reS_any A A' n c c' s us fs (w.drewN q) (h.drewN q) (h'.drewN q) hn hn' p1 p2 p3 hx hx' hs p5)
    have HL := Lib.hid (show (reF us fs s).length = n by rw [reF_len, hn'])
    clear h h' hn hn' hp p1 p2 p3 p4 hx hx'
    cases hf : finA (reF us fs s) with
    | false =>
      rw [hf] at HB
      have HF := Lib.hid hf
      clear hf
      go_enter Try.func39, Try.ntmps39
      go_wp2_with (first | (go_at_call 70; refine HT.out.mono ?_; rintro e w' ⟨rfl, n1, rfl⟩) | (go_at_call 71; refine (HW.out _).mono ?_; rintro e w2 ⟨z, ys, rfl, hw, ho, hb2⟩; have HI := Lib.hid hw; have HO := Lib.hid ho; have HD := Lib.hid hb2; clear hw ho hb2) | (go_at_call 63; refine (finS_any _ ys _ _ HO.out.rd (by rw [HI.out.len, HL.out]; omega) HI.out.lt).mono ?_; rintro e w3 ⟨rfl, n3, rfl⟩; rw [HI.out.fin, HF.out]))
      go_ret2
      rw [rrV_no HB.out, HB.out]
      exact retLF_none (below_drawn ((below_drawn (Below.refl w.heap.size w) _).trans HD.out) _)
    | true =>
      rw [hf] at HB
      have HF := Lib.hid hf
      clear hf
      go_enter Try.func39, Try.ntmps39
      go_wp2_with (first | (go_at_call 70; refine HT.out.mono ?_; rintro e w' ⟨rfl, n1, rfl⟩) | (go_at_call 71; refine (HW.out _).mono ?_; rintro e w2 ⟨z, ys, rfl, hw, ho, hb2⟩; have HI := Lib.hid hw; have HO := Lib.hid ho; have HD := Lib.hid hb2; clear hw ho hb2) | (go_at_call 63; refine (finS_any _ ys _ _ HO.out.rd (by rw [HI.out.len, HL.out]; omega) HI.out.lt).mono ?_; rintro e w3 ⟨rfl, n3, rfl⟩; rw [HI.out.fin, HF.out]))
      go_ret2
      rw [rrV_yes HB.out, HB.out, ← HI.out.eq HF.out]
      exact ⟨_, rfl, HO.out.drewN _, below_drawn ((below_drawn (Below.refl w.heap.size w) _).trans HD.out) _⟩
theorem rrI_any (v u : Value) (us fs : List Nat) (s : Nat) (w : World) (h : Rd w w.heap.size v (fl us)) (h' : Rd w w.heap.size u (fl fs)) (hm : us.length ≤ 1048576) (hm' : fs.length ≤ 1048576) (hx : ∀ x ∈ us, x < 2 ^ 32) (hx' : ∀ x ∈ fs, x < 2 ^ 32) (hs : s < 2 ^ 32) :
    Calls Try.prog 40 #[v, u, .float .f32 s] w (RetLF (rrV us fs s) (rrB us fs s) w) := by
  have HC := Lib.hid (show Calls Try.prog 72 #[v, u, .float .f32 s, .int .i64 1, .func (.func 73) #[] #[]] w (RetLF (rrV us fs s) (rrB us fs s) w) from chR_any v u us fs s 1 w h h' hm hm' hx hx' hs (by omega))
  clear h h' hm hm' hx hx' hs
  generalize rrV us fs s = L at *
  generalize rrB us fs s = b at *
  go_enter Try.func40, Try.ntmps40
  go_wp2_with (go_at_call 72; refine HC.out.mono ?_; rintro e w' ⟨z, rfl, ho, hb⟩)
  go_ret2
  exact ⟨_, rfl, ho, hb⟩
end Go.Proofs.Ytfcegkighjnmeaa
