/-
  Contracts: LiftLevels of the model.
-/
import Derived.Test.YteogogcjndfkoabLvI
namespace Go.Proofs.Yteogogcjndfkoab
open Go.RowKit
set_option linter.unusedVariables false

set_option maxRecDepth 100000 in
set_option maxHeartbeats 1000000 in
theorem lvS_no (kind : Int) (A : Option Addr) (c : Nat) (xs : List Int) (l : Int) (w : World) (h : Rd w w.heap.size (.slice A xs.length c) (il xs)) (hm : xs.length ≤ 1048576) (hn : lvB kind xs l = false) :
    Calls Try.prog 33 #[.int .i64 kind, .slice A xs.length c, .int .i64 l] w (RetSSB [] false w) := by
  have HK := Lib.hid (fun w => kiS_any kind w)
  have HX := Lib.hid (fun w => lsS_any l w)
  have HY := Lib.hid (areS_any _ xs _ _ h hm)
  unfold lvB at hn
  cases hk : kiB kind with
  | false =>
    have EK := Lib.hid hk
    clear hk hn
    go_enter Try.func33, Try.ntmps33
    go_wp2_with fail
    refine (HK.out _).mono ?_
    rintro e w' ⟨rfl, rfl⟩
    rw [EK.out]
    go_wp2_with fail
    go_ret2
    exact ⟨_, rfl, ownL_nil _ _, Below.refl _ _⟩
  | true =>
  cases hl : areB xs with
  | false =>
    have EK := Lib.hid hk
    have EL := Lib.hid hl
    clear hk hl hn
    go_enter Try.func33, Try.ntmps33
    go_wp2_with fail
    refine (HK.out _).mono ?_
    rintro e w' ⟨rfl, rfl⟩
    rw [EK.out]
    go_wp2_with fail
    refine (HY.out).mono ?_
    rintro e w' ⟨rfl, rfl⟩
    rw [EL.out]
    go_wp2_with fail
    go_ret2
    exact ⟨_, rfl, ownL_nil _ _, Below.refl _ _⟩
  | true =>
    have ha : lsB l = false := by rw [hk, hl] at hn; simpa using hn
    have EK := Lib.hid hk
    have EL := Lib.hid hl
    have EA := Lib.hid ha
    clear hk hl hn ha
    go_enter Try.func33, Try.ntmps33
    go_wp2_with fail
    refine (HK.out _).mono ?_
    rintro e w' ⟨rfl, rfl⟩
    rw [EK.out]
    go_wp2_with fail
    refine (HY.out).mono ?_
    rintro e w' ⟨rfl, rfl⟩
    rw [EL.out]
    go_wp2_with fail
    refine (HX.out _).mono ?_
    rintro e w' ⟨rfl, rfl⟩
    rw [EA.out]
    go_wp2_with fail
    go_ret2
    exact ⟨_, rfl, ownL_nil _ _, Below.refl _ _⟩
set_option maxRecDepth 100000 in
set_option maxHeartbeats 2000000 in
theorem lvS_yes (kind : Int) (a : Addr) (c : Nat) (xs : List Int) (L : Nat) (w : World) (h : Rd w w.heap.size (.slice (some a) xs.length c) (il xs)) (hm : xs.length ≤ 1048576) (hy : lvB kind xs L = true) :
    Calls Try.prog 33 #[.int .i64 kind, .slice (some a) xs.length c, .int .i64 L] w (RetSSB (lvF kind L xs) true w) := by
  obtain ⟨i0, hi, hz0, hz1, hz2⟩ := info_parts infoL
  obtain ⟨i1, hj, hy0, hy1, hy2⟩ := info_parts infoI
  have hh := lvB_out hy
  have hal := areB_len hh.2.1
  have hll := of_decide_eq_true hh.2.2
  have h1 := hal.1
  have h2 := hal.2.1
  have hL1 : 1 ≤ L := by omega
  have hL2 : L ≤ 6 := by omega
  have hB := Lib.hid (areB_bd6 hh.2.1)
  have HK := Lib.hid (fun w => kiS_any kind w)
  have HX := Lib.hid (fun w => lsS_any L w)
  have HY := Lib.hid (areS_any _ xs _ _ h hm)
  have EK := Lib.hid hh.1
  have EL := Lib.hid hh.2.1
  have EX := Lib.hid hh.2.2
  obtain ⟨A0, c0, hv0, _, _, hcell0⟩ := id h
  rw [il_len] at hv0 hcell0
  obtain ⟨b, off, e0, hbl, hcc⟩ := hcell0 (by omega)
  simp only [Value.slice.injEq] at hv0
  obtain ⟨e1, e2, e3⟩ := hv0
  rw [← e1] at e0
  cases e0
  have hb00 : Below w.heap.size w ((w.alloc (Obj.cells #[] 52)).alloc (Obj.cells #[] 2)) := ((Below.refl _ _).alloc (Nat.le_refl _) _).alloc (by simp) _
  have hcl : ∀ j u, (il xs)[j]? = some u → ((w.alloc (Obj.cells #[] 52)).alloc (Obj.cells #[] 2)).cell? ((⟨b, off, none⟩ : Addr).add j) = some u := by
    intro j u hu
    rw [Go.WideShapes.add_plain]
    exact (hb00.cell (p := ⟨b, off + j, none⟩) hbl).trans (hcc j u hu)
  have ho1 : ((w.alloc (Obj.cells #[] 52)).alloc (Obj.cells #[] 2)).ownsRow w.heap.size 52 1 (.slice (some ⟨w.heap.size, 0, none⟩) 0 0) 0 [] := (World.ownsRow_made w #[] 0 (Nat.le_refl _) (Nat.zero_le _) rfl).alloc _
  have ho2 : ((w.alloc (Obj.cells #[] 52)).alloc (Obj.cells #[] 2)).ownsRow w.heap.size 2 1 (.slice (some ⟨w.heap.size + 1, 0, none⟩) 0 0) 0 (il []) := by
    have := World.ownsRow_made (base := w.heap.size) (e := 2) (size := 1) (w.alloc (Obj.cells #[] 52)) #[] 0 (by simp) (Nat.zero_le _) rfl
    simpa [il] using this
  have HCL := Lib.hid hcl
  clear hh hy hll hal e1 e2 e3 hcc hcell0 h hcl
  go_enter Try.func33, Try.ntmps33
  go_wp2_with fail
  refine (HK.out _).mono ?_
  rintro e w' ⟨rfl, rfl⟩
  rw [EK.out]
  go_wp2_with fail
  refine HY.out.mono ?_
  rintro e w' ⟨rfl, rfl⟩
  rw [EL.out]
  go_wp2_with fail
  refine (HX.out _).mono ?_
  rintro e w' ⟨rfl, rfl⟩
  rw [EX.out]
  go_wp2_with (at_builtin; refine wpList_append_own_at _ rfl _ _ 52 rfl w.heap.size 2 i1 (.int .i64 0) 1 8 Try.underlying52 hj hy0 hy1 hy2 rfl (by decide) (.slice (some ⟨w.heap.size + 1, 0, none⟩) 0 0) 0 (il []) rfl ho2 ⟨b, off, none⟩ xs.length c (il xs) rfl (by rw [il_len]; omega) HCL.out (il_cells xs) (by unfold maxLen; omega) (by omega) (by simp; omega) ?_; intro vl w1 hown' hgrow _ hat)
  have q1 := ho1.kept hgrow (.inr (by simp [Value.ownBlock]))
  have q2 : Own w1 w.heap.size vl (il xs) := by have := Own.row hown'; simpa [il] using this
  have q3 : Below w.heap.size w w1 := hb00.grown hgrow (by simp; omega) (fun j hj => (ho2.lt j hj).1)
  have hM : Mde w1 w.heap.size (.slice (some ⟨w.heap.size, 0, none⟩) 0 0) vl [] [] xs := by
    refine ⟨⟨q1, ⟨rfl, fun i x xs h => by simp at h, fun i j x y _ h => by simp at h⟩, fun x hx => by cases hx⟩, q2, ?_, fun y hy => by cases hy⟩
    intro a n c he hn hb
    subst he
    simp only [Value.ownBlock, Option.some.injEq, World.alloc, Array.size_push] at hat hb
    omega
  obtain ⟨Al, cl, hvl, _, _, _⟩ := id q2
  rw [il_len] at hvl
  subst hvl
  have HS0 := Lib.hid hB.out
  clear ho1 ho2 hb00 hown' hgrow hat q1 q2
  go_wp2_with fail
  go_loopw [8, 9, 10] (LvRel w kind L (lvF kind L xs)) (fun _ _ i _ => L - (intOf i).toNat)
  case atStart => exact ⟨0, [], [], xs, Nat.zero_le _, rfl, rfl, rfl, h1, h2, HS0.out, hM, q3⟩
  case round =>
    clear hM q3
    obtain ⟨k, vs, pre, low, hkL, rfl, hpl, hR, hl1, hl2, hbd, hM, hb⟩ := hrel
    have hvs : vs.length = k := by rw [hM.vs_len, hpl]
    have HR := Lib.hid hR
    have HB := Lib.hid hbd
    clear hR hbd
    obtain ⟨A, c', hv, _, _, _⟩ := id hM.2.1
    rw [il_len] at hv
    subst hv
    have HM := Lib.hid hM
    have HV := Lib.hid hvs
    by_cases hgo : k < L ∧ 2 ≤ low.length
    · obtain ⟨hlt, hlo⟩ := hgo
      have HGo := Lib.hid (lvF_go (kind := kind) hlt hlo)
      have HC := Lib.hid (lkS_any kind (.slice A low.length c') low wr hM.2.1.rd hl1 hl2 EK.out (HB.out.mono (lvM_le (by omega))))
      clear hM hvs
      go_wp2_with fail
      refine HC.out.mono ?_
      rintro e w3 ⟨v2, u2, rfl, ov, ou, ap, hb3⟩
      obtain ⟨fB, fu, fv, fa⟩ := HM.out.lift (ev := le1 kind low) (od := lo1 kind low) hb.size ov ou ap hb3
      have hb4 : Below w.heap.size w w3 := hb.trans (hb3.mono hb.size)
      obtain ⟨Au, cu, hu, _, _, _⟩ := id fu.1
      rw [il_len] at hu
      subst hu
      have hvs := HV.out
      clear ov ou ap hb3
      go_wp2_with (at_builtin; refine wpList_append_own_at _ rfl _ _ 53 rfl w.heap.size 52 i0 (.slice none 0 0) 1 24 Try.underlying53 hi hz0 hz1 hz2 rfl (by decide) _ _ _ rfl (fB.1.alloc _) ⟨w3.heap.size, 0, none⟩ 1 1 [.slice Au (lo1 kind low).length cu] rfl rfl (one_new _ _ _) (one_cellL _ _ _) (by unfold maxLen; omega) (by omega) (by simp; have := hb4.size; omega) ?_; intro v' w4 hown' hgrow _ hat)
      have n1 := mde_push fB fu fv fa hown' hgrow hat
      have n2 := below_push hb4 fB.1 hb4.size hgrow
      clear fB fu fv fa hown' hgrow hat hb4 hvs hb
      go_wp2_with fail
      go_roundw
      case rel => exact ⟨k + 1, _, _, _, by omega, by go_num, by simp [hpl], by rw [HR.out, HGo.out]; simp, by rw [le1_len]; omega, by rw [le1_len]; omega, le1_bd HB.out (lvM_pos k) kind, n1, n2⟩
      case measure => simp [intOf]; omega
    · have HS := Lib.hid (lvF_stop (kind := kind) (l := L - k) (low := low) (by omega))
      have fB := hM.1
      have fu := hM.2
      by_cases hlt : k < L
      · have hlo : low.length < 2 := by omega
        clear hgo hM
        go_wp2_with (at_builtin; refine wpList_append_own_at _ rfl _ _ 53 rfl w.heap.size 52 i0 (.slice none 0 0) 1 24 Try.underlying53 hi hz0 hz1 hz2 rfl (by decide) _ _ _ rfl (fB.1.alloc _) ⟨wr.heap.size, 0, none⟩ 1 1 [.slice A low.length c'] rfl rfl (one_new _ _ _) (one_cellL _ _ _) (by unfold maxLen; omega) (by omega) (by simp; have := hb.size; omega) ?_; intro v' w4 hown' hgrow _ hat)
        have n1 := (bld_push fB fu hown' hgrow hat).done
        have n2 := below_push hb fB.1 hb.size hgrow
        clear fB fu hown' hgrow hat hb hvs
        go_wp2_with fail
        go_ret2
        exact ⟨_, rfl, by rw [HR.out, HS.out]; exact n1, n2⟩
      · have hle : L ≤ k := by omega
        clear hgo hM hlt
        go_wp2_with (at_builtin; refine wpList_append_own_at _ rfl _ _ 53 rfl w.heap.size 52 i0 (.slice none 0 0) 1 24 Try.underlying53 hi hz0 hz1 hz2 rfl (by decide) _ _ _ rfl (fB.1.alloc _) ⟨wr.heap.size, 0, none⟩ 1 1 [.slice A low.length c'] rfl rfl (one_new _ _ _) (one_cellL _ _ _) (by unfold maxLen; omega) (by omega) (by simp; have := hb.size; omega) ?_; intro v' w4 hown' hgrow _ hat)
        have n1 := (bld_push fB fu hown' hgrow hat).done
        have n2 := below_push hb fB.1 hb.size hgrow
        clear fB fu hown' hgrow hat hb hvs
        go_wp2_with fail
        go_ret2
        exact ⟨_, rfl, by rw [HR.out, HS.out]; exact n1, n2⟩
end Go.Proofs.Yteogogcjndfkoab
