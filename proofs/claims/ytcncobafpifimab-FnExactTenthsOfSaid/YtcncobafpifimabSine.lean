/-
  Contracts: the part of a turn, and the sine, of both sides.
-/
import Derived.Test.YtcncobafpifimabCallB
import Derived.Test.YtcncobafpifimabFloSine
namespace Go.Proofs.Ytcncobafpifimab
open Go.RowKit Fl
set_option linter.unusedVariables false

theorem conv_int {y : Nat} (hy : Bd .f64 y 52) (w : World) : (convert 25 2 (.float .f64 y)).run Try.prog w = .ok (.int .i64 (ti y)) w :=
  run_convert_float_int w 25 2 .f64 .i64 y (ti y) (by rw [Try.underlying25]; rfl) Try.underlying2 (ti_le hy).1

theorem part_any (y : Nat) (w : World) (hy : Bd .f64 y 52) (hl : y < 2 ^ 64) : Calls Try.prog 33 #[.float .f64 y] w (RetF .f64 (partOf y) w) := by
  have hc := conv_int hy
  have hy' : Is .f64 y y := Is.ofBd hy hl
  have hz := is_int (ti y)
  show Calls _ _ _ _ (RetF .f64 (if ltB (fr y) 0 then ar .add .f64 (fr y) one else fr y) w)
  cases hlt : ltB (fr y) 0
  all_goals
    unfold ltB fr at hlt
    go_enter Try.func33, Try.ntmps33
    go_wp2_with (refine up_ar2 rfl (by first | assumption | exact is_lit (by decide)) (by first | assumption | exact is_lit (by decide)) ?_; intro r n hr; have hro := order_is_l hr)
    go_ret
    exact ⟨_, _, rfl, hr, rfl⟩


/-- The polynomial's loop. -/
def PolRel (U : Nat) (w : World) (p i : Value) (wr : World) : Prop := ∃ j : Nat, j ≤ 8 ∧ i = .int .i64 (8 - (j : Int)) ∧ ∃ r n, p = .float .f64 r ∧ Is .f64 r (polS U j) ∧ wr = w.drewN n
theorem pol_wrap (j : Nat) (hj : j < 8) : IntKind.i64.wrap (2 * (8 - (j : Int)) * (2 * (8 - (j : Int)) + 1)) = 2 * (8 - (j : Int)) * (2 * (8 - (j : Int)) + 1) := by
  rcases (show j = 0 ∨ j = 1 ∨ j = 2 ∨ j = 3 ∨ j = 4 ∨ j = 5 ∨ j = 6 ∨ j = 7 by omega) with rfl | rfl | rfl | rfl | rfl | rfl | rfl | rfl <;> decide

set_option maxHeartbeats 2000000 in
theorem sineI_any (y : Nat) (w : World) (hy : Bd .f64 y 52) (hl : y < 2 ^ 64) : Calls Try.prog 36 #[.float .f64 y] w (RetF .f64 (sineF (partOf y)) w) := by
  obtain ⟨f, hf⟩ : ∃ f, f = partOf y := ⟨_, rfl⟩
  rw [← hf]
  have hF := Lib.hid hf
  clear hf
  show Calls _ _ _ _ (RetF .f64 (if geB f half then ng (sp f) else sp f) w)
  cases hg : geB f half <;> cases hq : gtB (sf1 f) quarter
  all_goals
    have h1 := Lib.hid (show sf1 f = if geB f half then ar .sub .f64 f half else f from rfl)
    have h2 := Lib.hid (show sf2 f = if gtB (sf1 f) quarter then ar .sub .f64 half (sf1 f) else sf1 f from rfl)
    rw [hg] at h1
    rw [hq] at h2
    replace hq : gtB (if geB f half then ar .sub .f64 f half else f) quarter = _ := hq
    rw [hg] at hq
    simp only [Bool.false_eq_true, if_false, if_true] at h1 h2 hq
    unfold geB half at hg
    unfold gtB quarter at hq
    try unfold half at hq
    have hng : ∀ x, Op.unary .neg (.float .f64 x) = pure (.float .f64 (Op.negFloat .f64 x)) := fun _ => rfl
    go_enter Try.func36, Try.ntmps36
    go_wp2_with (first | (go_at_call 33; refine (part_any _ _ hy hl).mono ?_; rintro e w' ⟨r0, n0, rfl, hr0, rfl⟩; rw [← hF.out] at hr0; have hro0 := order_is_l hr0) | (refine up_ar2 (op := .mul) (y := 4618760256179416344) rfl (by assumption) (is_lit (by decide)) ?_; intro rz nz hz; have hroz := order_is_l hz) | (refine up_ar2 rfl (by first | assumption | exact is_int _ | exact is_lit (by decide)) (by first | assumption | exact is_int _ | exact is_lit (by decide)) ?_; intro r n hr; have hro := order_is_l hr))
    replace hz : Is .f64 rz (sz f) := by unfold sz; rw [h2.out]; (try rw [h1.out]); exact hz
    replace hr : Is .f64 r (ar .mul .f64 (sz f) (sz f)) := by unfold sz; rw [h2.out]; (try rw [h1.out]); exact hr
    clear hro hroz
    go_loopw [7, 8] (PolRel (ar .mul .f64 (sz f) (sz f)) w) (fun _ i _ => (intOf i).toNat)
    case atStart => exact ⟨0, by omega, rfl, _, _, rfl, is_lit (by decide), rfl⟩
    case round =>
      obtain ⟨j, hj, rfl, r1, n1, rfl, hp, rfl⟩ := hrel
      by_cases hlt : j < 8
      · have hw := pol_wrap j hlt
        go_wp2_with (refine up_ar2 rfl (by first | assumption | exact is_int _ | exact is_lit (by decide)) (by first | assumption | exact is_int _ | exact is_lit (by decide)) ?_; intro r n hr; have hro := order_is_l hr)
        go_roundw
        case rel => exact ⟨j + 1, by omega, by rw [show (8 : Int) - ((j + 1 : Nat) : Int) = 8 - (j : Int) - 1 by omega], _, _, rfl, hr, rfl⟩
        case measure => simp [intOf]; omega
      · obtain rfl : j = 8 := by omega
        go_wp2_with (refine up_ar2 rfl (by first | assumption | exact is_int _ | exact is_lit (by decide)) (by first | assumption | exact is_int _ | exact is_lit (by decide)) ?_; intro r n hr; have hro := order_is_l hr)
        go_ret
        first | exact ⟨_, _, rfl, hr, rfl⟩ | exact ⟨_, _, rfl, neg_is hr, rfl⟩
end Go.Proofs.Ytcncobafpifimab
