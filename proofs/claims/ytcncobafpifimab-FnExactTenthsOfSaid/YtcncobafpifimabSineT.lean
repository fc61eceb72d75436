/-
  Contracts: SineTurns of both sides.
-/
import Derived.Test.YtcncobafpifimabSineS
namespace Go.Proofs.Ytcncobafpifimab
open Go.RowKit Fl
set_option linter.unusedVariables false

theorem l01Sine_any (x : Nat) (w : World) : Calls Try.prog 40 #[.float .f32 x] w (RetF .f32 (sineT x) w) := by
  cases hf : finB .f32 x with
  | false =>
    have hf' : finB .f64 (wi x) = false := by rw [finB_wi]; exact hf
    have hT : sineT x = na (qn .f64) := by unfold sineT; rw [hf, na_qn]; rfl
    rw [hT]
    clear hT hf
    go_enter Try.func40, Try.ntmps40
    go_wp2_with (first
      | (refine up_wide (by rw [Try.underlying22]; rfl) Try.underlying25 ?_; intro r1 n1 hr1)
      | (go_at_call 51; refine (sineS_nan _ _ _ hr1 hf').mono ?_; rintro e w' ⟨r2, n2, rfl, hr2, rfl⟩)
      | (go_at_call 48; refine (narS_any _ _ (by rw [naOk_is hr2]; exact naOk_qn)).mono ?_; rintro e w' ⟨r3, n3, rfl, hr3, rfl⟩))
    go_ret
    exact ⟨_, _, rfl, by rw [← na_is hr2]; exact hr3, rfl⟩
  | true =>
    have hf' : finB .f64 (wi x) = true := by rw [finB_wi]; exact hf
    have hnn := nan_of_not_fin hf'
    have hwl := wi_lt x
    cases hb : bigB (wi x) with
    | true =>
      have hT : sineT x = na 0 := by unfold sineT; rw [hf, hb, na_zero.2]; rfl
      rw [hT]
      have hw' : Is .f64 (wi x) (wi x) := ⟨cn_wi x, hwl⟩
      have HN := Lib.hid hnn
      have HB := Lib.hid hb
      have HF := Lib.hid hf'
      clear hT hf hnn hb hf'
      go_enter Try.func40, Try.ntmps40
      go_wp2_with (first
        | (refine up_wide (by rw [Try.underlying22]; rfl) Try.underlying25 ?_; intro r1 n1 hr1; obtain rfl := is_eq hr1 HN.out)
        | (go_at_call 51; refine (sineS_big _ _ hw' HF.out HB.out).mono ?_; rintro e w' ⟨r2, n2, rfl, hr2, rfl⟩)
        | (go_at_call 48; refine (narS_any _ _ (by rw [naOk_is hr2]; exact na_zero.1)).mono ?_; rintro e w' ⟨r3, n3, rfl, hr3, rfl⟩))
      go_ret
      exact ⟨_, _, rfl, by rw [← na_is hr2]; exact hr3, rfl⟩
    | false =>
      have hT : sineT x = na (sineF (partOf (wi x))) := by unfold sineT; rw [hf, hb]; rfl
      rw [hT]
      have hB52 := not_big hf' hb
      have hok := (Bd.naOk (sineF_bd (partOf_bd hB52)) (by decide) (by decide)).1
      have HN := Lib.hid hnn
      have HB := Lib.hid hb
      have HK := Lib.hid hok
      clear hT hf hnn hb hf' hok
      go_enter Try.func40, Try.ntmps40
      go_wp2_with (first
        | (refine up_wide (by rw [Try.underlying22]; rfl) Try.underlying25 ?_; intro r1 n1 hr1; obtain rfl := is_eq hr1 HN.out)
        | (go_at_call 51; refine (sineS_any _ _ hB52 hwl HB.out).mono ?_; rintro e w' ⟨r2, n2, rfl, hr2, rfl⟩)
        | (go_at_call 48; refine (narS_any _ _ (by rw [naOk_is hr2]; exact HK.out)).mono ?_; rintro e w' ⟨r3, n3, rfl, hr3, rfl⟩))
      go_ret
      exact ⟨_, _, rfl, by rw [← na_is hr2]; exact hr3, rfl⟩

theorem notNum_any (w : World) : Calls Try.prog 31 #[] w (RetF .f32 (qn .f32) w) := by
  go_enter Try.func31, Try.ntmps31
  go_wp2_with (first | (go_at_call 54; refine (nan_any _).mono ?_; rintro e w' ⟨rfl, rfl⟩) | (refine up_narrow (by rw [Try.underlying25]; rfl) Try.underlying22 naOk_qn ?_; intro r n hr))
  go_ret
  exact ⟨_, _, rfl, by rw [← na_qn]; exact hr, rfl⟩

set_option maxHeartbeats 1000000 in
theorem implSine_any (x : Nat) (w : World) (hx : x < 2 ^ 32) : Calls Try.prog 19 #[.float .f32 x] w (RetF .f32 (sineT x) w) := by
  cases hf : finB .f32 x with
  | false =>
    have hT : sineT x = qn .f32 := by unfold sineT; rw [hf]; rfl
    rw [hT]
    have HF := Lib.hid hf
    clear hT hf
    go_enter Try.func19, Try.ntmps19
    go_wp2_with (first
      | (go_at_call 38; refine (implFin_any _ _ hx).mono ?_; rintro e w' ⟨rfl, n, rfl⟩; rw [HF.out])
      | (go_at_call 31; refine (notNum_any _).mono ?_; rintro e w' ⟨r, n, rfl, hr, rfl⟩))
    go_ret
    exact ⟨_, _, rfl, hr, rfl⟩
  | true =>
    have hf' : finB .f64 (wi x) = true := by rw [finB_wi]; exact hf
    have hnn := nan_of_not_fin hf'
    have hwl := wi_lt x
    cases hb : bigB (wi x) with
    | true =>
      have hT : sineT x = 0 := by unfold sineT; rw [hf, hb]; rfl
      rw [hT]
      have HN := Lib.hid hnn
      have HF := Lib.hid hf
      have hbb : (FloatKind.f64.format.order (wi x % 2 ^ 63) 4841369599423283200 == some .gt || FloatKind.f64.format.order (wi x % 2 ^ 63) 4841369599423283200 == some .eq) = true := hb
      clear hT hf hnn hb hf'
      go_enter Try.func19, Try.ntmps19
      go_wp2_with (first
        | (go_at_call 38; refine (implFin_any _ _ hx).mono ?_; rintro e w' ⟨rfl, n, rfl⟩; rw [HF.out])
        | (refine up_wide (by rw [Try.underlying22]; rfl) Try.underlying25 ?_; intro r1 n1 hr1; obtain rfl := is_eq hr1 HN.out)
        | (go_at_call 32; refine (abs_any _ _ hwl).mono ?_; rintro e w' ⟨rfl, rfl⟩))
      go_ret
      exact ⟨_, _, rfl, is_lit (by decide), rfl⟩
    | false =>
      have hT : sineT x = na (sineF (partOf (wi x))) := by unfold sineT; rw [hf, hb]; rfl
      rw [hT]
      have hB52 := not_big hf' hb
      have hok := (Bd.naOk (sineF_bd (partOf_bd hB52)) (by decide) (by decide)).1
      have HN := Lib.hid hnn
      have HF := Lib.hid hf
      have HK := Lib.hid hok
      have hbb : (FloatKind.f64.format.order (wi x % 2 ^ 63) 4841369599423283200 == some .gt || FloatKind.f64.format.order (wi x % 2 ^ 63) 4841369599423283200 == some .eq) = false := hb
      clear hT hf hnn hb hf' hok
      go_enter Try.func19, Try.ntmps19
      go_wp2_with (first
        | (go_at_call 38; refine (implFin_any _ _ hx).mono ?_; rintro e w' ⟨rfl, n, rfl⟩; rw [HF.out])
        | (refine up_wide (by rw [Try.underlying22]; rfl) Try.underlying25 ?_; intro r1 n1 hr1; obtain rfl := is_eq hr1 HN.out)
        | (go_at_call 32; refine (abs_any _ _ hwl).mono ?_; rintro e w' ⟨rfl, rfl⟩)
        | (go_at_call 36; refine (sineI_any _ _ hB52 hwl).mono ?_; rintro e w' ⟨r2, n2, rfl, hr2, rfl⟩)
        | (go_at_call 27; refine (narI_any _ _ (by rw [naOk_is hr2]; exact HK.out)).mono ?_; rintro e w' ⟨r3, n3, rfl, hr3, rfl⟩))
      go_ret
      exact ⟨_, _, rfl, by rw [← na_is hr2]; exact hr3, rfl⟩
end Go.Proofs.Ytcncobafpifimab
