/-
  Contracts: means of what is near, of the program.
-/
import Derived.Test.YtlagmkpofibibaaKmK
import Derived.Deep.RegionWith
namespace Go.Proofs.Ytlagmkpofibibaa
open Go.RowKit Fl Ieee
set_option linter.unusedVariables false

set_option maxRecDepth 100000 in
set_option maxHeartbeats 8000000 in
theorem kmI_ok (va vb : Value) (xs ys : List Nat) (a b : Nat) (w : World) (hva : Rd w w.heap.size va (fl xs)) (hvb : Rd w w.heap.size vb (fl ys)) (hm : xs.length ≤ 1048576) (hm2 : ys.length ≤ 1048576) (hx : ∀ x ∈ xs, x < 2 ^ 32) (hy : ∀ x ∈ ys, x < 2 ^ 32) (ha : a < 2 ^ 32) (hb : b < 2 ^ 32) (hml : mlG xs ys = true) (hfa : finB .f32 a = true) (hpb : psB b = true) : Calls Try.prog 16 #[va, vb, .float .f32 a, .float .f32 b] w (RetB1 (kmV a b xs ys) (kmB a b xs ys) w) := by
  have hlen := isL_len (mlG_out hml).1
  have hfx := hlen.2.2
  have hfy := (isL_len (mlG_out hml).2.1).2.2
  have hl := (mlG_out hml).2.2
  have H1 := Lib.hid (apI_any va vb xs ys w hva hvb hm hm2 hx hy)
  have H3 := Lib.hid (fun w' => implFin_any a w' ha)
  have H4 := Lib.hid (fun w' => psI_any b w' hb)
  have T0 := Lib.hid hml
  have T1 := Lib.hid (mlG_out hml).1
  have T2 := Lib.hid (mlG_out hml).2.1
  have T3 := Lib.hid hfa
  have T4 := Lib.hid hpb
  obtain ⟨A, c, ea, q1, q2, q3⟩ := id hva
  obtain ⟨A', c', eb, q4, q5, q6⟩ := id hvb
  rw [fl_len] at ea q1 q3 eb q4 q6
  rw [hl] at eb
  subst ea eb
  obtain ⟨ba, oa, rfl, hba, hca⟩ := q3 (by omega)
  have HQB := Lib.hid q6
  have HX := Lib.hid hx
  have HY := Lib.hid hy
  have HCA := Lib.hid hca
  have HL := Lib.hid hl
  have HAI := Lib.hid (show Is .f32 a a from ⟨cn_fin hfa, ha⟩)
  have HBI := Lib.hid (show Is .f32 b b from ⟨cn_fin (by unfold psB at hpb; rw [Bool.and_eq_true] at hpb; exact hpb.1), hb⟩)
  have HSN := Lib.hid (sW_nn hfx hfa hpb xs.length (Nat.le_refl _))
  have HGG := Lib.hid (show kmG a b xs ys = gt32 (sW a b xs xs.length) 0 by unfold kmG; rw [hml, hfa, hpb]; rfl)
  obtain ⟨bb, ob, rfl, hbb, hcb⟩ := HQB.out (by omega)
  have HCB := Lib.hid hcb
  clear q3 q6 hca hcb hx hy hva hvb hml hl hlen HQB
  go_enter Try.func16, Try.ntmps16
  go_wp2_with (first | (go_at_call 56; refine H1.out.mono ?_; rintro e w1 ⟨rfl, hb1⟩; rw [T0.out]) | (go_at_call 57; refine (H3.out _).mono ?_; rintro e w' ⟨rfl, m3, rfl⟩; rw [T3.out]) | (go_at_call 58; refine (H4.out _).mono ?_; rintro e w' ⟨rfl, m4, rfl⟩; rw [T4.out]))
  have HB1 := Lib.hid hb1
  clear hb1
  go_loopw [10, 11, 31] (KmRel w1 a b xs ys) (fun _ _ i _ => xs.length - (intOf i).toNat)
  case atStart => exact ⟨0, _, 0, 0, Nat.zero_le _, rfl, rfl, rfl, is_nought, is_nought, rfl⟩
  case round =>
    obtain ⟨k, m, rs, rw, hk, rfl, rfl, rfl, hs, hw, rfl⟩ := hrel
    by_cases hlt : k < xs.length
    · have hlt2 : k < ys.length := by have := HL.out; omega
      have hc1 : w1.cell? ⟨ba, oa + k, none⟩ = some (.float .f32 xs[k]) := (HB1.out.cell (p := ⟨ba, oa + k, none⟩) hba).trans (HCA.out k _ (fl_get xs k hlt))
      have hc2 : w1.cell? ⟨bb, ob + k, none⟩ = some (.float .f32 ys[k]) := (HB1.out.cell (p := ⟨bb, ob + k, none⟩) hbb).trans (HCB.out k _ (fl_get ys k hlt2))
      have hz1 : ba < w1.heap.size := by have := HB1.out.size; omega
      have hz2 : bb < w1.heap.size := by have := HB1.out.size; omega
      have hfk := finA_out hfx k hlt
      have hxi : Is .f32 xs[k] xs[k] := ⟨cn_fin hfk, HX.out _ (List.getElem_mem hlt)⟩
      have hyi : Is .f32 ys[k] ys[k] := ⟨cn_fin (finA_out hfy k hlt2), HY.out _ (List.getElem_mem hlt2)⟩
      have HUN := Lib.hid (uX_nn hfk T3.out T4.out)
      have HBE := Lib.hid (beX_le HUN.out)
      have HWF := Lib.hid (wX_fin hfk T3.out T4.out)
      have HS := Lib.hid (sS_succ a b xs ys k hlt hlt2)
      have HW := Lib.hid (sW_succ a b xs k hlt)
      clear hfk
      generalize xs[k] = x at *
      generalize ys[k] = y at *
      have HU := Lib.hid (show ar .quo .f32 (ar .sub .f32 x a) b = uX a b x from rfl)
      have HV := Lib.hid (show ar .mul .f32 (ar .mul .f32 3204448256 (uX a b x)) (uX a b x) = beX (uX a b x) from rfl)
      have HWW := Lib.hid (show exX (beX (uX a b x)) = wX a b x from rfl)
      generalize uX a b x = u at *
      have hub : u < 2 ^ 32 := by rw [← HU.out]; exact ar_lt32 _ _ _
      have hui : Is .f32 u u := ⟨cn_of_not HUN.out, hub⟩
      generalize wX a b x = z at *
      have hzi : Is .f32 z z := ⟨cn_fin HWF.out, by rw [← HWW.out]; exact exX_lt _⟩
      have HE := Lib.hid (fun (r : Nat) (w' : World) (hr : Is .f32 r u) => (show Calls Try.prog 59 #[.float .f32 r] w' (RetX z w') by
        have e := is_eq hr HUN.out
        subst e
        have h := beI_any _ w' hr HUN.out
        rw [HWW.out] at h
        exact h))
      go_wp2_with (first | (refine up_ar2 (op := .sub) rfl hxi HAI.out ?_; intro r1 n1 h1) | (refine up_ar2 (op := .quo) rfl h1 HBI.out ?_; intro r2 n2 h2; rw [HU.out] at h2) | (go_at_call 59; refine (HE.out _ _ h2).mono ?_; rintro e w' ⟨rfl, n5, rfl⟩) | (refine up_ar2 (op := .mul) rfl hzi hyi ?_; intro r6 n6 h6) | (refine up_ar2 (op := .add) rfl hs h6 ?_; intro r7 n7 h7) | (refine up_ar2 (op := .add) rfl hw hzi ?_; intro r8 n8 h8))
      go_roundw
      case rel => exact ⟨k + 1, _, _, _, by omega, by go_num, rfl, rfl, by rw [HS.out]; exact h7, by rw [HW.out]; exact h8, rfl⟩
      case measure => simp [intOf]; omega
    · obtain rfl : k = xs.length := by omega
      have HK := Lib.hid (show kmR a b xs ys = ar .quo .f32 (sS a b xs ys xs.length) (sW a b xs xs.length) from rfl)
      cases hg : gt32 (sW a b xs xs.length) 0 with
      | false =>
        have hg2 : (FloatKind.f32.format.order rw 0 == some .lt || FloatKind.f32.format.order rw 0 == some .eq) = true := by rw [order_is_l hw, le_0n HSN.out, hg]; rfl
        have HG0 := Lib.hid (show kmG a b xs ys = false from HGG.out.trans hg)
        clear hg
        go_wp2_with fail
        go_ret2
        exact retB1_km HG0.out (below_drawn HB1.out _)
      | true =>
        have hg2 : (FloatKind.f32.format.order rw 0 == some .lt || FloatKind.f32.format.order rw 0 == some .eq) = false := by rw [order_is_l hw, le_0n HSN.out, hg]; rfl
        have HG1 := Lib.hid (km_yes (show kmG a b xs ys = true from HGG.out.trans hg))
        clear hg
        go_wp2_with (first | (refine up_ar2 (op := .quo) rfl hs hw ?_; intro r1 n1 h1) | (go_at_call 60; refine (ifI_any _ _ _ h1).mono ?_; rintro e w' ⟨r9, n9, rfl, h9, rfl⟩))
        go_ret2
        rw [HG1.out.1, HG1.out.2, HK.out]
        exact ⟨_, rfl, h9, below_drawn HB1.out _⟩
end Go.Proofs.Ytlagmkpofibibaa
