/-
  Contracts: LiftLevels of both sides.
-/
import Derived.Test.YteogogcjndfkoabLv
import Derived.Test.YteogogcjndfkoabDri
namespace Go.Proofs.Yteogogcjndfkoab
open Go.RowKit
set_option linter.unusedVariables false

def lsB (l : Int) : Bool := decide (1 ≤ l ∧ l ≤ 6)
theorem lsI_any (k : Int) (w : World) : Calls Try.prog 63 #[.int .i64 k] w fun e w' => e = .returned (.bool (lsB k)) ∧ w = w' := by
  by_cases h0 : k < 1
  · rw [show lsB k = false from decide_eq_false (by omega)]
    go_enter Try.func63, Try.ntmps63
    go_wp2
    go_ret
    exact ⟨rfl, rfl⟩
  · have h1 : 1 ≤ k := by omega
    clear h0
    by_cases h2 : k ≤ 6
    · rw [show lsB k = true from decide_eq_true ⟨h1, h2⟩]
      go_enter Try.func63, Try.ntmps63
      go_wp2
      go_ret
      have hd : decide (k ≤ 6) = true := decide_eq_true h2
      first | exact ⟨rfl, rfl⟩ | exact ⟨by rw [← hd]; rfl, rfl⟩
    · rw [show lsB k = false from decide_eq_false (by omega)]
      have h3 : 6 < k := by omega
      clear h2
      go_enter Try.func63, Try.ntmps63
      go_wp2
      go_ret
      have hd : decide (k ≤ 6) = false := decide_eq_false (by omega)
      first | exact ⟨rfl, rfl⟩ | exact ⟨by rw [← hd]; rfl, rfl⟩
theorem lsS_any (k : Int) (w : World) : Calls Try.prog 61 #[.int .i64 k] w fun e w' => e = .returned (.bool (lsB k)) ∧ w = w' := by
  cases h : lsB k with
  | true =>
    have hh := of_decide_eq_true h
    obtain ⟨h0, h1⟩ := hh
    clear h
    go_enter Try.func61, Try.ntmps61
    go_wp2_with fail
    refine (in_yes _ _ _ _ h0 h1).mono ?_
    rintro e w' ⟨rfl, rfl⟩
    go_wp2_with fail
    go_ret
    exact ⟨rfl, rfl⟩
  | false =>
    have hh := of_decide_eq_false h
    have h0 : k < 1 ∨ 6 < k := by omega
    clear h hh
    go_enter Try.func61, Try.ntmps61
    go_wp2_with fail
    refine (in_not _ _ _ _ h0).mono ?_
    rintro e w' ⟨rfl, rfl⟩
    go_wp2_with fail
    go_ret
    exact ⟨rfl, rfl⟩

theorem cl_any (g : Nat) (kind : Int) (vl : Value) (xs : List Int) (w : World) (hg : w.cell? ⟨g, 0, none⟩ = some (.int .i64 kind)) (h : Rd w w.heap.size vl (il xs)) (h1 : 1 ≤ xs.length) (h2 : xs.length ≤ 128) (hk : kiB kind = true) (hB : Bds 1000000000 xs) :
    Calls Try.prog 73 #[vl, .pointer (some ⟨g, 0, none⟩)] w (RetLL (le1 kind xs) (lo1 kind xs) w) := by
  have HL := Lib.hid (lkI_any kind vl xs w h h1 h2 hk hB)
  clear hk hB h
  go_enter Try.func73, Try.ntmps73
  go_wp2_with fail
  refine HL.out.mono ?_
  rintro e w1 ⟨v, u, rfl, ov, ou, ap, hb1⟩
  go_wp2_with fail
  go_ret2
  exact ⟨_, _, rfl, ov, ou, ap, hb1⟩

theorem mde_start {w w1 : World} {lo : Nat} {v vl : Value} {xs : List Int} (h : w.ownsRow lo 52 1 v 0 []) (hl : lo ≤ w.heap.size) (ho : Own w1 w.heap.size vl (il xs)) (hb : Below w.heap.size w w1) : Mde w1 lo v vl [] [] xs :=
  ⟨⟨row_step h hb, ⟨rfl, fun i x xs h => by simp at h, fun i j x y _ h => by simp at h⟩, fun x hx => by cases hx⟩, ho.less hl, noB_new h ho (Nat.le_refl _), fun y hy => by cases hy⟩

set_option maxRecDepth 100000 in
set_option maxHeartbeats 2000000 in
theorem lbI_any (g : Nat) (kind : Int) (a : Addr) (c : Nat) (xs : List Int) (L : Nat) (w : World) (hg : w.cell? ⟨g, 0, none⟩ = some (.int .i64 kind)) (hgl : g < w.heap.size) (h : Rd w w.heap.size (.slice (some a) xs.length c) (il xs)) (h1 : 1 ≤ xs.length) (h2 : xs.length ≤ 128) (hk : kiB kind = true) (hB : Bds 1000000 xs) (hL1 : 1 ≤ L) (hL2 : L ≤ 6) :
    Calls Try.prog 72 #[.slice (some a) xs.length c, .int .i64 L, .func (.func 73) #[] #[.pointer (some ⟨g, 0, none⟩)]] w (RetSS (lvF kind L xs) w) := by
  obtain ⟨i0, hi, hz0, hz1, hz2⟩ := info_parts infoL
  have HG := Lib.hid hg
  have HK := Lib.hid hk
  clear hg hk
  go_enter Try.func72, Try.ntmps72
  go_wp2_with (at_make; refine wpList_make_own _ rfl _ _ 53 rfl w.heap.size 52 i0 (.slice none 0 0) 1 Try.underlying53 hi hz0 hz1 .i64 .i64 _ (L + 1) rfl rfl (by omega) (by rw [hz2]; omega) (by unfold maxLen; omega) (Nat.le_refl _) ?_; intro w1 hown hgrow)
  have hb0 : Below w.heap.size w w1 := (Below.refl _ _).grown hgrow (Nat.le_refl _) (fun _ h => by cases h)
  clear hgrow
  refine (clone_any _ _ _ _ (h.step hb0) (by omega)).mono ?_
  rintro e w2 ⟨vl, rfl, ol, hb1⟩
  have hM := mde_start hown hb0.size ol hb1
  have hb2 : Below w.heap.size w w2 := hb0.trans (hb1.mono hb0.size)
  clear hown hb0 ol hb1 h
  go_wp2_with fail
  go_loopw [7, 8, 17] (LvRel w kind L (lvF kind L xs)) (fun _ _ i _ => L - (intOf i).toNat)
  case atStart => exact ⟨0, [], [], xs, Nat.zero_le _, rfl, rfl, rfl, h1, h2, hB, hM, hb2⟩
  case round =>
    clear hM hb2
    obtain ⟨k, vs, pre, low, hkL, rfl, hpl, hR, hl1, hl2, hbd, hM, hb⟩ := hrel
    have hvs : vs.length = k := by rw [hM.vs_len, hpl]
    have HR := Lib.hid hR
    have HB := Lib.hid hbd
    clear hR hbd
    obtain ⟨A, c', hv, _, _, _⟩ := id hM.2.1
    rw [il_len] at hv
    subst hv
    have HM := Lib.hid hM
    have HV := Lib.hid hvs
    by_cases hgo : k < L ∧ 2 ≤ low.length
    · obtain ⟨hlt, hlo⟩ := hgo
      have HGo := Lib.hid (lvF_go (kind := kind) hlt hlo)
      have HC := Lib.hid (cl_any g kind (.slice A low.length c') low wr ((hb.cell (p := ⟨g, 0, none⟩) hgl).trans HG.out) hM.2.1.rd hl1 hl2 HK.out (HB.out.mono (lvM_le (by omega))))
      clear hM hvs
      go_wp2_with fail
      refine HC.out.mono ?_
      rintro e w3 ⟨v2, u2, rfl, ov, ou, ap, hb3⟩
      obtain ⟨fB, fu, fv, fa⟩ := HM.out.lift hb.size ov ou ap hb3
      have hb4 : Below w.heap.size w w3 := hb.trans (hb3.mono hb.size)
      obtain ⟨Au, cu, hu, _, _, _⟩ := id ou
      rw [il_len] at hu
      subst hu
      have hvs := HV.out
      clear ov ou ap hb3
      go_wp2_with (at_builtin; refine wpList_append_own_at _ rfl _ _ 53 rfl w.heap.size 52 i0 (.slice none 0 0) 1 24 Try.underlying53 hi hz0 hz1 hz2 rfl (by decide) _ _ _ rfl (fB.1.alloc _) ⟨w3.heap.size, 0, none⟩ 1 1 [.slice Au (lo1 kind low).length cu] rfl rfl (one_new _ _ _) (one_cellL _ _ _) (by unfold maxLen; omega) (by omega) (by simp; have := hb4.size; omega) ?_; intro v' w4 hown' hgrow _ hat)
      have n1 := mde_push fB fu fv fa hown' hgrow hat
      have n2 := below_push hb4 fB.1 hb4.size hgrow
      clear fB fu fv fa hown' hgrow hat hb4 hvs hb
      go_wp2_with fail
      go_roundw
      case rel => exact ⟨k + 1, _, _, _, by omega, by go_num, by simp [hpl], by rw [HR.out, HGo.out]; simp, by rw [le1_len]; omega, by rw [le1_len]; omega, le1_bd HB.out (lvM_pos k) kind, n1, n2⟩
      case measure => simp [intOf]; omega
    · have HS := Lib.hid (lvF_stop (kind := kind) (l := L - k) (low := low) (by omega))
      have fB := hM.1
      have fu := hM.2
      by_cases hlt : k < L
      · have hlo : low.length < 2 := by omega
        clear hgo hM
        go_wp2_with (at_builtin; refine wpList_append_own_at _ rfl _ _ 53 rfl w.heap.size 52 i0 (.slice none 0 0) 1 24 Try.underlying53 hi hz0 hz1 hz2 rfl (by decide) _ _ _ rfl (fB.1.alloc _) ⟨wr.heap.size, 0, none⟩ 1 1 [.slice A low.length c'] rfl rfl (one_new _ _ _) (one_cellL _ _ _) (by unfold maxLen; omega) (by omega) (by simp; have := hb.size; omega) ?_; intro v' w4 hown' hgrow _ hat)
        have n1 := (bld_push fB fu hown' hgrow hat).done
        have n2 := below_push hb fB.1 hb.size hgrow
        clear fB fu hown' hgrow hat hb hvs
        go_wp2_with fail
        go_ret
        exact ⟨_, rfl, by rw [HR.out, HS.out]; exact n1, n2⟩
      · have hle : L ≤ k := by omega
        clear hgo hM hlt
        go_wp2_with (at_builtin; refine wpList_append_own_at _ rfl _ _ 53 rfl w.heap.size 52 i0 (.slice none 0 0) 1 24 Try.underlying53 hi hz0 hz1 hz2 rfl (by decide) _ _ _ rfl (fB.1.alloc _) ⟨wr.heap.size, 0, none⟩ 1 1 [.slice A low.length c'] rfl rfl (one_new _ _ _) (one_cellL _ _ _) (by unfold maxLen; omega) (by omega) (by simp; have := hb.size; omega) ?_; intro v' w4 hown' hgrow _ hat)
        have n1 := (bld_push fB fu hown' hgrow hat).done
        have n2 := below_push hb fB.1 hb.size hgrow
        clear fB fu hown' hgrow hat hb hvs
        go_wp2_with fail
        go_ret
        exact ⟨_, rfl, by rw [HR.out, HS.out]; exact n1, n2⟩
end Go.Proofs.Yteogogcjndfkoab
