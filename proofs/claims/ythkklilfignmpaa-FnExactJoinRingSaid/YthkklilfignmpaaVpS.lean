/-
  Contracts: valid pairs, of the model's side.
-/
import Derived.Test.YthkklilfignmpaaVp
namespace Go.Proofs.Ythkklilfignmpaa
open Go.RowKit Fl Ieee
set_option linter.unusedVariables false

def VpRelS (w0 : World) (xs : List Nat) (i : Value) (wr : World) : Prop := ∃ k m : Nat, k ≤ xs.length ∧ k % 2 = 0 ∧ i = .int .i64 k ∧ VpTo xs k ∧ wr = w0.drewN m
def VpRelJ (w0 : World) (xs : List Nat) (k : Nat) (s i : Value) (wr : World) : Prop := ∃ j m r : Nat, j ≤ xs.length - k ∧ i = .int .i64 j ∧ s = .float .f32 r ∧ Is .f32 r (dotK xs (xs.drop k) j) ∧ wr = w0.drewN m
theorem dotK_drop (xs : List Nat) (k j q : Nat) (hq : q = j + k) (hj : j < xs.length) (h : q < xs.length) : dotK xs (xs.drop k) (j + 1) = ar .add .f32 (dotK xs (xs.drop k) j) (ar .mul .f32 xs[j] xs[q]) := by
  subst hq
  rw [dotK_succ xs (xs.drop k) j (by omega) (by rw [List.length_drop]; omega)]
  congr 2
  rw [List.getElem_drop]
  congr 1
  omega
set_option maxRecDepth 100000 in
set_option maxHeartbeats 2000000 in
theorem vpP_any (g : Nat) (v : Value) (xs : List Nat) (w : World) (B : Nat) (h : Rd w B v (fl xs)) (hcell : w.cell? ⟨g, 0, none⟩ = some v) (hm : xs.length ≤ 1048576) (hx : ∀ x ∈ xs, x < 2 ^ 32) :
    Calls Try.prog 126 #[.pointer (some ⟨g, 0, none⟩)] w (RetBo (vpB xs) w) := by
  obtain ⟨A, c, hv, q1, q2, q3⟩ := id h
  rw [fl_len] at hv q1 q3
  subst hv
  have HX := Lib.hid hx
  have HR := Lib.hid h
  clear h hx
  by_cases h1 : xs.length < 2
  · have HV := Lib.hid (show vpB xs = false by unfold vpB; rw [decide_eq_false (by omega)]; rfl)
    clear q1 q3
    go_enter Try.func126, Try.ntmps126
    go_wp2_with fail
    go_ret
    rw [HV.out]
    exact ⟨rfl, 0, rfl⟩
  · by_cases h8 : 8 < xs.length
    · have HV := Lib.hid (show vpB xs = false by unfold vpB; rw [decide_eq_false (by omega)]; rfl)
      have h2 : 2 ≤ xs.length := by omega
      clear q1 q3 h1
      go_enter Try.func126, Try.ntmps126
      go_wp2_with fail
      go_ret
      rw [HV.out]
      exact ⟨rfl, 0, rfl⟩
    · obtain ⟨b, off, rfl, hbl, hcc⟩ := q3 (by omega)
      have HCC := Lib.hid hcc
      clear q3 hcc
      have h2 : 2 ≤ xs.length := by omega
      have h9 : xs.length ≤ 8 := by omega
      clear h1 h8
      by_cases hev : xs.length % 2 = 0
      · have hme : ((xs.length : Int) % 2 != 0) = false := by rw [bne_eq_false_iff_eq]; omega
        cases hfi : finA xs with
        | false =>
          have HFI := Lib.hid hfi
          have HV := Lib.hid (show vpB xs = false by unfold vpB; rw [hfi]; simp)
          clear hfi
          go_enter Try.func126, Try.ntmps126
          go_wp2_with (go_at_call 125; refine (finS_any _ xs _ _ HR.out hm HX.out).mono ?_; rintro e w' ⟨rfl, n1, rfl⟩; rw [HFI.out])
          go_ret
          rw [HV.out]
          exact ⟨rfl, _, rfl⟩
        | true =>
          have HFI := Lib.hid hfi
          have HVE := Lib.hid (show vpB xs = vpE xs by unfold vpB; rw [hfi, decide_eq_true ⟨h2, h9, hev⟩]; rfl)
          clear hfi
          go_enter Try.func126, Try.ntmps126
          go_wp2_with (go_at_call 125; refine (finS_any _ xs _ _ HR.out hm HX.out).mono ?_; rintro e w' ⟨rfl, n1, rfl⟩; rw [HFI.out])
          go_loopw [4] (VpRelS w xs) (fun i _ => xs.length - (intOf i).toNat)
          case atStart => exact ⟨0, _, Nat.zero_le _, rfl, rfl, fun i _ h => by omega, rfl⟩
          case round =>
            obtain ⟨k, m, hk, hk2, rfl, ht, rfl⟩ := hrel
            have HT := Lib.hid ht
            clear ht
            by_cases hlt : k < xs.length
            · have HEV := Lib.hid hev
              have HK := Lib.hid hk2
              clear hk hk2 hev
              go_wp2_with fail
              go_loopw [5, 6] (VpRelJ w xs k) (fun _ i _ => xs.length - (intOf i).toNat)
              case atStart => exact ⟨0, _, 0, Nat.zero_le _, rfl, rfl, is_lit (by decide), rfl⟩
              case round =>
                obtain ⟨j, m2, r, hj, rfl, rfl, hr, rfl⟩ := hrel
                obtain ⟨q, hq⟩ : ∃ q : Nat, q = j + k := ⟨_, rfl⟩
                have hqi : (j : Int) + (k : Int) = (q : Int) := by omega
                have hqw : IntKind.i64.wrap (q : Int) = (q : Int) := by rw [IntKind.wrap_i64]; omega
                by_cases hq2 : q < xs.length
                · have hj2 : j < xs.length := by omega
                  have hs1 : ∀ n, (w.drewN n).cell? ⟨b, off + j, none⟩ = some (.float .f32 xs[j]) := fun n => HCC.out j _ (fl_get xs j hj2)
                  have hs2 : ∀ n, (w.drewN n).cell? ⟨b, off + q, none⟩ = some (.float .f32 xs[q]) := fun n => HCC.out q _ (fl_get xs q hq2)
                  have hs3 : ∀ n, (w.drewN n).drew.cell? ⟨b, off + j, none⟩ = some (.float .f32 xs[j]) := hs1
                  have hs4 : ∀ n, (w.drewN n).drew.cell? ⟨b, off + q, none⟩ = some (.float .f32 xs[q]) := hs2
                  have hb1 : ∀ n, (w.drewN n).cell? ⟨g, 0, none⟩ = some (.slice (some ⟨b, off, none⟩) xs.length c) := fun n => hcell
                  have hb2 : ∀ n, (w.drewN n).drew.cell? ⟨g, 0, none⟩ = some (.slice (some ⟨b, off, none⟩) xs.length c) := fun n => hcell
                  have hS := dotK_drop xs k j q hq hj2 hq2
                  have HS := Lib.hid hS
                  have HQ := Lib.hid hq
                  have HJ := Lib.hid hj
                  have hx1 : (j : Int) < (xs.length : Int) := by omega
                  have hx2 : (q : Int) < (xs.length : Int) := by omega
                  have hj8 : j ≤ 8 := by omega
                  have HKJ := Lib.hid (show j + 1 ≤ xs.length - k by omega)
                  clear hS hq hj hlt
                  generalize xs[j] = x at *
                  generalize xs[q] = y at *
                  clear hs3 hs4 hb1 hb2
                  have hs1' := hs1 0
                  have hs2' := hs2 0
                  replace hs1' : w.cell? ⟨b, off + j, none⟩ = some (.float .f32 x) := hs1'
                  replace hs2' : w.cell? ⟨b, off + q, none⟩ = some (.float .f32 y) := hs2'
                  clear hs1 hs2
                  go_wp2_with fail
                  go_region_with (first | (refine up_ar (op := .mul) rfl ?_; intro rp np hp) | (refine up_ar2 (op := .add) rfl hr hp ?_; intro rs ns hs))
                  all_goals
                    go_wp2_with fail
                    go_roundw
                    case rel => exact ⟨j + 1, _, _, HKJ.out, by go_num, rfl, by rw [HS.out]; exact hs, rfl⟩
                    case measure => simp [intOf]; omega
                · have hjd : j = xs.length - k := by omega
                  have hge : xs.length ≤ q := by omega
                  clear hq2 hq
                  have hk8 : k ≤ 8 := by omega
                  have hr' : Is .f32 r (dotK xs (xs.drop k) (xs.length - k)) := by rw [← hjd]; exact hr
                  clear hr hj
                  by_cases hk0 : k = 0
                  · have ek : (((k : Nat) : Int) == 0) = true := by rw [beq_iff_eq]; omega
                    have hS : vpS xs k = ar .sub .f32 (dotK xs (xs.drop k) (xs.length - k)) 1065353216 := by unfold vpS; rw [if_pos hk0]
                    cases hl : leB (ar .sub .f32 (dotK xs (xs.drop k) (xs.length - k)) 1065353216) tol with
                    | false =>
                      have hvt : vpT (vpS xs k) = false := by rw [hS]; unfold vpT; rw [← vpT_two, hl]; rfl
                      have HN := Lib.hid (vpE_no hlt HK.out hvt)
                      have HL := Lib.hid hl
                      have HK2 := Lib.hid (show k + 2 ≤ xs.length ∧ (k + 2) % 2 = 0 by have := HK.out; have := HEV.out; omega)
                      clear hvt hS hk0 hl HT hjd HK HEV HR
                      generalize dotK xs (xs.drop k) (xs.length - k) = D at *
                      go_wp2_with (refine up_ar2 (op := .sub) rfl hr' (is_lit (k := .f32) (c := 1065353216) (by decide)) ?_; intro r2 n2 hr2; have z1 : (FloatKind.f32.format.order r2 981668463 == some .lt || FloatKind.f32.format.order r2 981668463 == some .eq) = false := (by rw [order_is_l hr2]; exact HL.out))
                      go_ret
                      rw [HVE.out, HN.out]
                      exact ⟨rfl, _, rfl⟩
                    | true =>
                      cases hg : geB' (ar .sub .f32 (dotK xs (xs.drop k) (xs.length - k)) 1065353216) ntol with
                      | false =>
                        have hvt : vpT (vpS xs k) = false := by rw [hS]; unfold vpT; rw [← vpT_two, hl, hg]; rfl
                        have HN := Lib.hid (vpE_no hlt HK.out hvt)
                        have HL := Lib.hid hl
                        have HG := Lib.hid hg
                        have HK2 := Lib.hid (show k + 2 ≤ xs.length ∧ (k + 2) % 2 = 0 by have := HK.out; have := HEV.out; omega)
                        clear hvt hS hk0 hl hg HT hjd HK HEV HR
                        generalize dotK xs (xs.drop k) (xs.length - k) = D at *
                        go_wp2_with (refine up_ar2 (op := .sub) rfl hr' (is_lit (k := .f32) (c := 1065353216) (by decide)) ?_; intro r2 n2 hr2; have z1 : (FloatKind.f32.format.order r2 981668463 == some .lt || FloatKind.f32.format.order r2 981668463 == some .eq) = true := (by rw [order_is_l hr2]; exact HL.out); have z2 : (FloatKind.f32.format.order r2 3129152111 == some .gt || FloatKind.f32.format.order r2 3129152111 == some .eq) = false := (by rw [order_is_l hr2]; exact HG.out))
                        go_ret
                        rw [HVE.out, HN.out]
                        exact ⟨rfl, _, rfl⟩
                      | true =>
                        have hvt : vpT (vpS xs k) = true := by rw [hS]; unfold vpT; rw [← vpT_two, hl, hg]; rfl
                        have HN := Lib.hid (vpTo_succ HK.out HT.out hvt)
                        have HL := Lib.hid hl
                        have HG := Lib.hid hg
                        have HK2 := Lib.hid (show k + 2 ≤ xs.length ∧ (k + 2) % 2 = 0 by have := HK.out; have := HEV.out; omega)
                        clear hvt hS hk0 hl hg HT hjd HK HEV HR
                        generalize dotK xs (xs.drop k) (xs.length - k) = D at *
                        go_wp2_with (refine up_ar2 (op := .sub) rfl hr' (is_lit (k := .f32) (c := 1065353216) (by decide)) ?_; intro r2 n2 hr2; have z1 : (FloatKind.f32.format.order r2 981668463 == some .lt || FloatKind.f32.format.order r2 981668463 == some .eq) = true := (by rw [order_is_l hr2]; exact HL.out); have z2 : (FloatKind.f32.format.order r2 3129152111 == some .gt || FloatKind.f32.format.order r2 3129152111 == some .eq) = true := (by rw [order_is_l hr2]; exact HG.out))
                        go_roundw
                        case rel => exact ⟨k + 2, _, HK2.out.1, HK2.out.2, by go_num, HN.out, rfl⟩
                        case measure => simp [intOf]; omega
                  · have ek : (((k : Nat) : Int) == 0) = false := by rw [beq_eq_false_iff_ne]; omega
                    have hS : vpS xs k = dotK xs (xs.drop k) (xs.length - k) := by unfold vpS; rw [if_neg hk0]
                    cases hl : leB (dotK xs (xs.drop k) (xs.length - k)) tol with
                    | false =>
                      have hvt : vpT (vpS xs k) = false := by rw [hS]; unfold vpT; rw [← vpT_two, hl]; rfl
                      have HN := Lib.hid (vpE_no hlt HK.out hvt)
                      have HL := Lib.hid hl
                      have HK2 := Lib.hid (show k + 2 ≤ xs.length ∧ (k + 2) % 2 = 0 by have := HK.out; have := HEV.out; omega)
                      clear hvt hS hk0 hl HT hjd HK HEV HR
                      generalize dotK xs (xs.drop k) (xs.length - k) = D at *
                      have z1 : (FloatKind.f32.format.order r 981668463 == some .lt || FloatKind.f32.format.order r 981668463 == some .eq) = false := by rw [order_is_l hr']; exact HL.out
                      go_wp2_with fail
                      go_ret
                      rw [HVE.out, HN.out]
                      exact ⟨rfl, _, rfl⟩
                    | true =>
                      cases hg : geB' (dotK xs (xs.drop k) (xs.length - k)) ntol with
                      | false =>
                        have hvt : vpT (vpS xs k) = false := by rw [hS]; unfold vpT; rw [← vpT_two, hl, hg]; rfl
                        have HN := Lib.hid (vpE_no hlt HK.out hvt)
                        have HL := Lib.hid hl
                        have HG := Lib.hid hg
                        have HK2 := Lib.hid (show k + 2 ≤ xs.length ∧ (k + 2) % 2 = 0 by have := HK.out; have := HEV.out; omega)
                        clear hvt hS hk0 hl hg HT hjd HK HEV HR
                        generalize dotK xs (xs.drop k) (xs.length - k) = D at *
                        have z1 : (FloatKind.f32.format.order r 981668463 == some .lt || FloatKind.f32.format.order r 981668463 == some .eq) = true := by rw [order_is_l hr']; exact HL.out
                        have z2 : (FloatKind.f32.format.order r 3129152111 == some .gt || FloatKind.f32.format.order r 3129152111 == some .eq) = false := by rw [order_is_l hr']; exact HG.out
                        go_wp2_with fail
                        go_ret
                        rw [HVE.out, HN.out]
                        exact ⟨rfl, _, rfl⟩
                      | true =>
                        have hvt : vpT (vpS xs k) = true := by rw [hS]; unfold vpT; rw [← vpT_two, hl, hg]; rfl
                        have HN := Lib.hid (vpTo_succ HK.out HT.out hvt)
                        have HL := Lib.hid hl
                        have HG := Lib.hid hg
                        have HK2 := Lib.hid (show k + 2 ≤ xs.length ∧ (k + 2) % 2 = 0 by have := HK.out; have := HEV.out; omega)
                        clear hvt hS hk0 hl hg HT hjd HK HEV HR
                        generalize dotK xs (xs.drop k) (xs.length - k) = D at *
                        have z1 : (FloatKind.f32.format.order r 981668463 == some .lt || FloatKind.f32.format.order r 981668463 == some .eq) = true := by rw [order_is_l hr']; exact HL.out
                        have z2 : (FloatKind.f32.format.order r 3129152111 == some .gt || FloatKind.f32.format.order r 3129152111 == some .eq) = true := by rw [order_is_l hr']; exact HG.out
                        go_wp2_with fail
                        go_roundw
                        case rel => exact ⟨k + 2, _, HK2.out.1, HK2.out.2, by go_num, HN.out, rfl⟩
                        case measure => simp [intOf]; omega
            · have hge : xs.length ≤ k := by omega
              have HV := Lib.hid (vpE_yes hge HT.out)
              go_wp2
              go_ret
              rw [HVE.out, HV.out]
              exact ⟨rfl, _, rfl⟩
      · have hme : ((xs.length : Int) % 2 != 0) = true := by rw [bne_iff_ne]; omega
        have HV := Lib.hid (show vpB xs = false by unfold vpB; rw [decide_eq_false (by omega)]; rfl)
        go_enter Try.func126, Try.ntmps126
        go_wp2_with fail
        go_ret
        rw [HV.out]
        exact ⟨rfl, 0, rfl⟩
end Go.Proofs.Ythkklilfignmpaa
