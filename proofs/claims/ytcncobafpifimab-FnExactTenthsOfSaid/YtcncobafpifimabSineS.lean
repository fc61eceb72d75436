/-
  Contracts: the sine of the model; SineTurns of both sides.
-/
import Derived.Test.YtcncobafpifimabSine
namespace Go.Proofs.Ytcncobafpifimab
open Go.RowKit Fl
set_option linter.unusedVariables false

theorem nan_any (w : World) : Calls Try.prog 54 #[] w fun e w' => e = .returned (.float .f64 (qn .f64)) ∧ w = w' := by
  have h := row_from64
  go_enter Try.func54, Try.ntmps54
  go_wp2_with fail
  go_ret
  exact ⟨rfl, rfl⟩
theorem fin_sub {y : Nat} (h : finB .f64 y = true) : (FloatKind.f64.format.order (ar .sub .f64 y y) 0 != some .eq) = false := by
  have := sub_self .f64 y
  rw [h] at this
  simp only [bne, this]; rfl
theorem inf_sub {y : Nat} (h : finB .f64 y = false) : (FloatKind.f64.format.order (ar .sub .f64 y y) 0 != some .eq) = true := by
  have := sub_self .f64 y
  rw [h] at this
  simp only [bne, this]; rfl
theorem sineS_nan (y c : Nat) (w : World) (hy : Is .f64 y c) (hf : finB .f64 c = false) : Calls Try.prog 51 #[.float .f64 y] w (RetF .f64 (qn .f64) w) := by
  have h0 := inf_sub hf
  go_enter Try.func51, Try.ntmps51
  go_wp2_with (first | (go_at_call 54; refine (nan_any _).mono ?_; rintro e w' ⟨rfl, rfl⟩) | (refine up_ar2 rfl (by first | assumption | exact is_int _ | exact is_lit (by decide)) (by first | assumption | exact is_int _ | exact is_lit (by decide)) ?_; intro r n hr; have hro := order_is_l hr))
  go_ret
  exact ⟨_, _, rfl, is_qn, rfl⟩
theorem sineS_big (y : Nat) (w : World) (hy : Is .f64 y y) (hf : finB .f64 y = true) (hb : bigB y = true) : Calls Try.prog 51 #[.float .f64 y] w (RetF .f64 0 w) := by
  have h0 := fin_sub hf
  have h2 := big_two y
  rw [hb] at h2
  clear hb
  cases h3 : (FloatKind.f64.format.order y 4841369599423283200 == some .gt || FloatKind.f64.format.order y 4841369599423283200 == some .eq)
  · rw [Ieee.Format.order.eq_1] at h3
    have h4 : (FloatKind.f64.format.order y 14064741636278059008 == some .lt || FloatKind.f64.format.order y 14064741636278059008 == some .eq) = true := by
      have h3' : (Ieee.double.order y 4841369599423283200 == some .gt || Ieee.double.order y 4841369599423283200 == some .eq) = false := h3
      rw [h3', Bool.false_or] at h2
      exact h2
    replace h3 : (FloatKind.f64.format.order y 4841369599423283200 == some .gt || FloatKind.f64.format.order y 4841369599423283200 == some .eq) = false := h3
    clear h2
    go_enter Try.func51, Try.ntmps51
    go_wp2_with (refine up_ar2 rfl (by first | assumption | exact is_int _ | exact is_lit (by decide)) (by first | assumption | exact is_int _ | exact is_lit (by decide)) ?_; intro r n hr; have hro := order_is_l hr)
    go_ret
    exact ⟨_, _, rfl, is_lit (by decide), rfl⟩
  · clear h2
    go_enter Try.func51, Try.ntmps51
    go_wp2_with (refine up_ar2 rfl (by first | assumption | exact is_int _ | exact is_lit (by decide)) (by first | assumption | exact is_int _ | exact is_lit (by decide)) ?_; intro r n hr; have hro := order_is_l hr)
    go_ret
    exact ⟨_, _, rfl, is_lit (by decide), rfl⟩

set_option maxHeartbeats 4000000 in
theorem sineS_any (y : Nat) (w : World) (hy : Bd .f64 y 52) (hl : y < 2 ^ 64) (hbig : bigB y = false) : Calls Try.prog 51 #[.float .f64 y] w (RetF .f64 (sineF (partOf y)) w) := by
  have h0 := fin_sub hy.fin
  have h2 := big_two y
  rw [hbig, Bool.or_eq_false_iff] at h2
  obtain ⟨hb1, hb2⟩ := h2
  replace hb1 : (FloatKind.f64.format.order y 4841369599423283200 == some .gt || FloatKind.f64.format.order y 4841369599423283200 == some .eq) = false := hb1
  replace hb2 : (FloatKind.f64.format.order y 14064741636278059008 == some .lt || FloatKind.f64.format.order y 14064741636278059008 == some .eq) = false := hb2
  have hc := conv_int hy
  have hy' : Is .f64 y y := Is.ofBd hy hl
  have hng : ∀ x, Op.unary .neg (.float .f64 x) = pure (.float .f64 (Op.negFloat .f64 x)) := fun _ => rfl
  clear hbig
  obtain ⟨f, hf⟩ : ∃ f, f = partOf y := ⟨_, rfl⟩
  rw [← hf]
  have hF := Lib.hid hf
  cases hlt : ltB (fr y) 0
  all_goals
    unfold partOf at hf
    rw [hlt] at hf
    simp only [Bool.false_eq_true, if_false, if_true] at hf
    unfold ltB fr at hlt
    unfold fr at hf
    try unfold one at hf
    show Calls _ _ _ _ (RetF .f64 (if geB f half then ng (sp f) else sp f) w)
    cases hg : geB f half <;> cases hq : gtB (sf1 f) quarter
  all_goals
    have h1 := Lib.hid (show sf1 f = if geB f half then ar .sub .f64 f half else f from rfl)
    have h2 := Lib.hid (show sf2 f = if gtB (sf1 f) quarter then ar .sub .f64 half (sf1 f) else sf1 f from rfl)
    rw [hg] at h1
    rw [hq] at h2
    replace hq : gtB (if geB f half then ar .sub .f64 f half else f) quarter = _ := hq
    rw [hg] at hq
    simp only [Bool.false_eq_true, if_false, if_true] at h1 h2 hq
    unfold geB half at hg
    unfold gtB quarter at hq
    try unfold half at hq
    have hfs := hf.symm
    try rw [hfs] at hlt
    clear hf
    go_enter Try.func51, Try.ntmps51
    go_wp2_with (first | (refine up_ar2 (op := .mul) (y := 4618760256179416344) rfl (by assumption) (is_lit (by decide)) ?_; intro rz nz hz; have hroz := order_is_l hz) | (refine up_ar2 rfl (by first | assumption | exact is_int _ | exact is_lit (by decide)) (by first | assumption | exact is_int _ | exact is_lit (by decide)) ?_; intro r n hr; (try rw [hfs] at hr); have hro := order_is_l hr))
    replace hz : Is .f64 rz (sz f) := by unfold sz; rw [h2.out]; (try rw [h1.out]); exact hz
    replace hr : Is .f64 r (ar .mul .f64 (sz f) (sz f)) := by unfold sz; rw [h2.out]; (try rw [h1.out]); exact hr
    clear hro hroz
    go_loopw [7, 8] (PolRel (ar .mul .f64 (sz f) (sz f)) w) (fun _ i _ => (intOf i).toNat)
    case atStart => exact ⟨0, by omega, rfl, _, _, rfl, is_lit (by decide), rfl⟩
    case round =>
      obtain ⟨j, hj, rfl, r1, n1, rfl, hp, rfl⟩ := hrel
      by_cases hlt : j < 8
      · have hw := pol_wrap j hlt
        go_wp2_with (refine up_ar2 rfl (by first | assumption | exact is_int _ | exact is_lit (by decide)) (by first | assumption | exact is_int _ | exact is_lit (by decide)) ?_; intro r n hr; have hro := order_is_l hr)
        go_roundw
        case rel => exact ⟨j + 1, by omega, by rw [show (8 : Int) - ((j + 1 : Nat) : Int) = 8 - (j : Int) - 1 by omega], _, _, rfl, hr, rfl⟩
        case measure => simp [intOf]; omega
      · obtain rfl : j = 8 := by omega
        go_wp2_with (refine up_ar2 rfl (by first | assumption | exact is_int _ | exact is_lit (by decide)) (by first | assumption | exact is_int _ | exact is_lit (by decide)) ?_; intro r n hr; have hro := order_is_l hr)
        go_ret
        first | exact ⟨_, _, rfl, hr, rfl⟩ | exact ⟨_, _, rfl, neg_is hr, rfl⟩
end Go.Proofs.Ytcncobafpifimab
