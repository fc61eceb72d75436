/-
  Contracts: powers of e of what is at most nothing, of both sides.
-/
import Derived.Test.YtlagmkpofibibaaCallB
import Derived.Test.YtlagmkpofibibaaFloExp
import Derived.Test.YtlagmkpofibibaaAp
import Derived.Deep.RegionWith
namespace Go.Proofs.Ytlagmkpofibibaa
open Go.RowKit Fl Ieee
set_option linter.unusedVariables false

theorem narE_I (r c : Nat) (w : World) (h : Is .f64 r c) (hx : naOk c = true) : Calls Try.prog 145 #[.float .f64 r] w (RetF .f32 (na c) w) := by
  refine (narI_any r w (by rw [naOk_is h]; exact hx)).mono ?_
  rintro e w' ⟨s, n, rfl, hs, rfl⟩
  exact ⟨_, _, rfl, by rw [← na_is h]; exact hs, rfl⟩
theorem narE_S (r c : Nat) (w : World) (h : Is .f64 r c) (hx : naOk c = true) : Calls Try.prog 104 #[.float .f64 r] w (RetF .f32 (na c) w) := by
  refine (narS_any r w (by rw [naOk_is h]; exact hx)).mono ?_
  rintro e w' ⟨s, n, rfl, hs, rfl⟩
  exact ⟨_, _, rfl, by rw [← na_is h]; exact hs, rfl⟩
def ExRel (t : Nat) (w0 : World) (p k : Value) (wr : World) : Prop := ∃ j n r : Nat, j ≤ 12 ∧ k = .int .i64 ((12 : Int) - (j : Int)) ∧ p = .float .f64 r ∧ Is .f64 r (polE t j) ∧ wr = w0.drewN n
def SqRel (q : Nat) (w0 : World) (p k : Value) (wr : World) : Prop := ∃ i n r : Nat, i ≤ 8 ∧ k = .int .i64 (i : Int) ∧ p = .float .f64 r ∧ Is .f64 r (sqE q i) ∧ wr = w0.drewN n
set_option maxRecDepth 100000 in
set_option maxHeartbeats 4000000 in
theorem exI_any (x : Nat) (w : World) (hx : x < 2 ^ 32) (hn : isN .f32 x = false) (hle : gt32 x 0 = false) : Calls Try.prog 107 #[.float .f32 x] w (RetF .f32 (exX x) w) := by
  have h200 : (FloatKind.f32.format.order x 1128792064 == some .gt) = false := le_200 hn hle
  cases hc : lt32 x 3276275712 with
  | true =>
    have hc' : (FloatKind.f32.format.order x 3276275712 == some .lt) = true := hc
    have HX := Lib.hid (show exX x = 0 by unfold exX; rw [hc]; rfl)
    clear hc
    go_enter Try.func107, Try.ntmps107
    go_wp2_with fail
    go_ret
    exact ⟨_, 0, rfl, by rw [HX.out]; exact is_nought, rfl⟩
  | false =>
    have hc' : (FloatKind.f32.format.order x 3276275712 == some .lt) = false := hc
    have HOK := Lib.hid (exW_ok hn hle hc)
    have HX := Lib.hid (show exX x = na (sqE (polE (exT x) 12) 8) by unfold exX; rw [hc]; rfl)
    clear hc
    obtain ⟨T, hT⟩ : ∃ T, exT x = T := ⟨_, rfl⟩
    have HT := Lib.hid (show ar .quo .f64 (wi x) 4643211215818981376 = T from hT)
    rw [hT] at HX HOK
    clear hT
    go_enter Try.func107, Try.ntmps107
    go_wp2_with (first | (refine up_wide (by rw [Try.underlying23]; rfl) Try.underlying28 ?_; intro ry ny hy) | (refine up_ar2 (op := .quo) rfl hy (is_lit (by decide)) ?_; intro rt nt ht; rw [HT.out] at ht))
    go_loopw [4, 5] (ExRel T w) (fun _ k _ => (intOf k).toNat)
    case atStart => exact ⟨0, _, _, by omega, rfl, rfl, is_lit (by decide), rfl⟩
    case round =>
      obtain ⟨j, m, r, hj, rfl, rfl, hr, rfl⟩ := hrel
      by_cases hlt : j < 12
      · have hS := Lib.hid (show polE T (j + 1) = ar .add .f64 one (ar .quo .f64 (ar .mul .f64 T (polE T j)) (floatOfInt .f64 ((12 : Int) - (j : Int)))) from rfl)
        have hge : ((1 : Int) ≤ 12 - (j : Int)) := by omega
        go_wp2_with (first | (refine up_ar2 (op := .mul) rfl ht hr ?_; intro r1 n1 h1) | (refine up_ar2 (op := .quo) rfl h1 (is_int _) ?_; intro r2 n2 h2) | (refine up_ar2 (op := .add) rfl (is_lit (by decide)) h2 ?_; intro r3 n3 h3))
        go_roundw
        case rel => exact ⟨j + 1, _, _, by omega, by go_num, rfl, by rw [hS.out]; exact h3, rfl⟩
        case measure => simp [intOf]; omega
      · obtain rfl : j = 12 := by omega
        obtain ⟨q, hq⟩ : ∃ q, polE T 12 = q := ⟨_, rfl⟩
        rw [hq] at hr
        have HQ := Lib.hid hq
        clear hq hlt
        rw [show (12 : Int) - ((12 : Nat) : Int) = 0 from rfl]
        go_wp2_with fail
        go_loopw [4, 26] (SqRel q w) (fun _ k _ => 8 - (intOf k).toNat)
        case atStart => exact ⟨0, _, _, by omega, rfl, rfl, hr, rfl⟩
        case round =>
          clear hr
          obtain ⟨i, m2, r2, hi, rfl, rfl, hr2, rfl⟩ := hrel
          by_cases hlt : i < 8
          · have hS := Lib.hid (show sqE q (i + 1) = ar .mul .f64 (sqE q i) (sqE q i) from rfl)
            go_wp2_with (refine up_ar2 (op := .mul) rfl hr2 hr2 ?_; intro r3 n3 h3)
            go_roundw
            case rel => exact ⟨i + 1, _, _, by omega, by go_num, rfl, by rw [hS.out]; exact h3, rfl⟩
            case measure => simp [intOf]; omega
          · obtain rfl : i = 8 := by omega
            go_wp2_with (go_at_call 145; refine (narE_I _ _ _ hr2 (by rw [← HQ.out]; exact HOK.out.2.1)).mono ?_; rintro e w' ⟨r9, n9, rfl, h9, rfl⟩)
            go_ret
            exact ⟨_, _, rfl, by rw [HX.out, HQ.out]; exact h9, rfl⟩
def ewX (x : Nat) : Nat := if lt32 x 3276275712 then 0 else sqE (polE (exT x) 12) 8
set_option maxRecDepth 100000 in
set_option maxHeartbeats 4000000 in
theorem ewS_any (x ry : Nat) (w : World) (hy : Is .f64 ry (wi x)) (hn : isN .f32 x = false) (hle : gt32 x 0 = false) : Calls Try.prog 105 #[.float .f64 ry] w (RetF .f64 (ewX x) w) := by
  have hnn : (FloatKind.f64.format.order ry ry != some .eq) = false := by rw [neq_self, isN_of_is hy, isN_wi]; exact hn
  have h200 : (FloatKind.f64.format.order ry 4641240890982006784 == some .gt) = false := by
    rw [order_is_l hy, ← wi_200]
    show (double.order (wi x) (wi 1128792064) == some .gt) = false
    rw [order_wi]; exact le_200 hn hle
  have hlt : (FloatKind.f64.format.order ry 13864612927836782592 == some .lt) = lt32 x 3276275712 := by
    rw [order_is_l hy, ← wi_n200]
    show (double.order (wi x) (wi 3276275712) == some .lt) = _
    rw [order_wi]; rfl
  cases hc : lt32 x 3276275712 with
  | true =>
    rw [hc] at hlt
    have HX := Lib.hid (show ewX x = 0 by unfold ewX; rw [hc]; rfl)
    clear hc
    go_enter Try.func105, Try.ntmps105
    go_wp2_with fail
    go_ret
    exact ⟨_, 0, rfl, by rw [HX.out]; exact is_lit (by decide), rfl⟩
  | false =>
    rw [hc] at hlt
    have HX := Lib.hid (show ewX x = sqE (polE (exT x) 12) 8 by unfold ewX; rw [hc]; rfl)
    clear hc
    obtain ⟨T, hT⟩ : ∃ T, exT x = T := ⟨_, rfl⟩
    have HT := Lib.hid (show ar .quo .f64 (wi x) 4643211215818981376 = T from hT)
    rw [hT] at HX
    clear hT
    go_enter Try.func105, Try.ntmps105
    go_wp2_with (refine up_ar2 (op := .quo) rfl hy (is_lit (by decide)) ?_; intro rt nt ht; rw [HT.out] at ht)
    clear hnn h200 hlt
    go_loopw [4, 5] (ExRel T w) (fun _ k _ => (intOf k).toNat)
    case atStart => exact ⟨0, _, _, by omega, rfl, rfl, is_lit (by decide), rfl⟩
    case round =>
      obtain ⟨j, m, r, hj, rfl, rfl, hr, rfl⟩ := hrel
      by_cases hlt : j < 12
      · have hS := Lib.hid (show polE T (j + 1) = ar .add .f64 one (ar .quo .f64 (ar .mul .f64 T (polE T j)) (floatOfInt .f64 ((12 : Int) - (j : Int)))) from rfl)
        have hge : ((1 : Int) ≤ 12 - (j : Int)) := by omega
        go_wp2_with (first | (refine up_ar2 (op := .mul) rfl ht hr ?_; intro r1 n1 h1) | (refine up_ar2 (op := .quo) rfl h1 (is_int _) ?_; intro r2 n2 h2) | (refine up_ar2 (op := .add) rfl (is_lit (by decide)) h2 ?_; intro r3 n3 h3))
        go_roundw
        case rel => exact ⟨j + 1, _, _, by omega, by go_num, rfl, by rw [hS.out]; exact h3, rfl⟩
        case measure => simp [intOf]; omega
      · obtain rfl : j = 12 := by omega
        obtain ⟨q, hq⟩ : ∃ q, polE T 12 = q := ⟨_, rfl⟩
        rw [hq] at hr
        have HQ := Lib.hid hq
        clear hq hlt
        rw [show (12 : Int) - ((12 : Nat) : Int) = 0 from rfl]
        go_wp2_with fail
        go_loopw [4, 6] (SqRel q w) (fun _ k _ => 8 - (intOf k).toNat)
        case atStart => exact ⟨0, _, _, by omega, rfl, rfl, hr, rfl⟩
        case round =>
          clear hr
          obtain ⟨i, m2, r2, hi, rfl, rfl, hr2, rfl⟩ := hrel
          by_cases hlt : i < 8
          · have hS := Lib.hid (show sqE q (i + 1) = ar .mul .f64 (sqE q i) (sqE q i) from rfl)
            go_wp2_with (refine up_ar2 (op := .mul) rfl hr2 hr2 ?_; intro r3 n3 h3)
            go_roundw
            case rel => exact ⟨i + 1, _, _, by omega, by go_num, rfl, by rw [hS.out]; exact h3, rfl⟩
            case measure => simp [intOf]; omega
          · obtain rfl : i = 8 := by omega
            go_wp2_with fail
            go_ret
            exact ⟨_, _, rfl, by rw [HX.out, HQ.out]; exact hr2, rfl⟩
theorem ew_na {x : Nat} (hn : isN .f32 x = false) (hle : gt32 x 0 = false) : naOk (ewX x) = true ∧ na (ewX x) = exX x := by
  unfold ewX exX
  cases hc : lt32 x 3276275712 with
  | true => exact na_zero
  | false => exact ⟨(exW_ok hn hle hc).2.1, rfl⟩
set_option maxRecDepth 100000 in
theorem exS_any (x : Nat) (w : World) (hx : x < 2 ^ 32) (hn : isN .f32 x = false) (hle : gt32 x 0 = false) : Calls Try.prog 54 #[.float .f32 x] w (RetF .f32 (exX x) w) := by
  have HN := Lib.hid (ew_na hn hle)
  have HE := Lib.hid (fun r w hy => ewS_any x r w hy hn hle)
  go_enter Try.func54, Try.ntmps54
  go_wp2_with (first | (refine up_wide (by rw [Try.underlying23]; rfl) Try.underlying28 ?_; intro ry ny hy) | (go_at_call 105; refine (HE.out _ _ hy).mono ?_; rintro e w' ⟨r2, n2, rfl, h2, rfl⟩) | (go_at_call 104; refine (narE_S _ _ _ h2 HN.out.1).mono ?_; rintro e w' ⟨r3, n3, rfl, h3, rfl⟩))
  go_ret
  exact ⟨_, _, rfl, by rw [← HN.out.2]; exact h3, rfl⟩
set_option maxRecDepth 100000 in
theorem beI_any (u : Nat) (w : World) (hu : Is .f32 u u) (hn : isN .f32 u = false) : Calls Try.prog 59 #[.float .f32 u] w (RetX (exX (beX u)) w) := by
  have hb := beX_le hn
  have HBN := Lib.hid hb.1
  have HE := Lib.hid (fun (r : Nat) (w : World) (hr : Is .f32 r (beX u)) => (show Calls Try.prog 107 #[.float .f32 r] w (RetF .f32 (exX (beX u)) w) by
    have e := is_eq hr hb.1
    subst e
    exact exI_any _ w hr.2 hb.1 hb.2))
  have HF := Lib.hid (nan_fin (exX_fin hb.1 hb.2))
  have HB := Lib.hid (show ar .mul .f32 (ar .mul .f32 3204448256 u) u = beX u from rfl)
  clear hb
  go_enter Try.func59, Try.ntmps59
  go_wp2_with (first | (refine up_ar2 (op := .mul) rfl (is_lit (by decide)) hu ?_; intro r1 n1 h1) | (refine up_ar2 (op := .mul) rfl h1 hu ?_; intro r2 n2 h2; rw [HB.out] at h2) | (go_at_call 107; refine (HE.out _ _ h2).mono ?_; rintro e w' ⟨r3, n3, rfl, h3, rfl⟩))
  go_ret
  exact ⟨by rw [← is_eq h3 HF.out]; rfl, _, rfl⟩
end Go.Proofs.Ytlagmkpofibibaa
