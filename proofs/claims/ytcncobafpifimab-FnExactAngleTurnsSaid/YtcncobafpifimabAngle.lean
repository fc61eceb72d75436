/-
  Contracts: AngleTurns of both sides.
-/
import Derived.Test.YtcncobafpifimabSineT
import Derived.Test.YtcncobafpifimabFloAng
import Derived.Deep.RegionWith
namespace Go.Proofs.Ytcncobafpifimab
open Go.RowKit Fl
set_option linter.unusedVariables false

theorem sqrt_is (r c : Nat) (w : World) (h : Is .f64 r c) : Calls Try.prog 28 #[.float .f64 r] w (RetF .f64 (sq c) w) :=
  (sqrt_any r w).mono fun e w' ⟨a, n, he, ha, hw⟩ => ⟨a, n, he, by rw [← sq_is h]; exact ha, hw⟩
def ThRel (t : Nat) (w : World) (a i : Value) (wr : World) : Prop := ∃ j n r : Nat, j ≤ 3 ∧ i = .int .i64 j ∧ a = .float .f64 r ∧ Is .f64 r (thF t j) ∧ wr = w.drewN n
def PaRel (u : Nat) (w : World) (p i : Value) (wr : World) : Prop := ∃ j n r : Nat, j ≤ 8 ∧ i = .int .i64 (15 - 2 * (j : Int)) ∧ p = .float .f64 r ∧ Is .f64 r (polA u j) ∧ wr = w.drewN n

set_option maxHeartbeats 4000000 in
theorem slope_any (t T : Nat) (w : World) (ht : Is .f64 t T) : Calls Try.prog 39 #[.float .f64 t] w (RetF .f64 (slopeF T) w) := by
  go_enter Try.func39, Try.ntmps39
  go_wp2
  go_loopw [0, 6] (ThRel T w) (fun _ i _ => 3 - (intOf i).toNat)
  case atStart => exact ⟨0, 0, _, by omega, rfl, rfl, ht, rfl⟩
  case round =>
    obtain ⟨j, n1, r1, hj, rfl, rfl, hr1, rfl⟩ := hrel
    clear ht
    by_cases hlt : j < 3
    · go_wp2_with (first | (refine up_ar2 rfl (by first | assumption | exact is_int _ | exact is_lit (by decide)) (by first | assumption | exact is_int _ | exact is_lit (by decide)) ?_; intro r n hr; have hro := order_is_l hr) | (go_at_call 28; refine (sqrt_is _ _ _ (by assumption)).mono ?_; rintro e w' ⟨r, n, rfl, hr, rfl⟩))
      go_roundw
      case rel => exact ⟨j + 1, _, _, by omega, by go_num, rfl, hr, rfl⟩
      case measure => simp [intOf]; omega
    · obtain rfl : j = 3 := by omega
      obtain ⟨X, hX⟩ : ∃ X, X = thF T 3 := ⟨_, rfl⟩
      rw [← hX] at hr1
      have HX := Lib.hid hX
      clear hX
      go_wp2_with (refine up_ar2 rfl (by first | assumption | exact is_int _ | exact is_lit (by decide)) (by first | assumption | exact is_int _ | exact is_lit (by decide)) ?_; intro r n hr; have hro := order_is_l hr)
      have hu := hr
      clear hr hro
      go_loopw [4, 5] (PaRel (ar .mul .f64 X X) w) (fun _ i _ => (intOf i + 1).toNat)
      case atStart => exact ⟨0, _, 0, by omega, rfl, rfl, is_lit (by decide), rfl⟩
      case round =>
        obtain ⟨j, n2, r2, hj, rfl, rfl, hp, rfl⟩ := hrel
        by_cases hlt : j < 8
        · go_wp2_with (refine up_ar2 rfl (by first | assumption | exact is_int _ | exact is_lit (by decide)) (by first | assumption | exact is_int _ | exact is_lit (by decide)) ?_; intro r n hr; have hro := order_is_l hr)
          go_roundw
          case rel => exact ⟨j + 1, _, _, by omega, by rw [show (15 : Int) - 2 * ((j + 1 : Nat) : Int) = 15 - 2 * (j : Int) - 2 by omega], rfl, hr, rfl⟩
          case measure => simp [intOf]; omega
        · obtain rfl : j = 8 := by omega
          go_wp2_with (refine up_ar2 rfl (by first | assumption | exact is_int _ | exact is_lit (by decide)) (by first | assumption | exact is_int _ | exact is_lit (by decide)) ?_; intro r n hr; have hro := order_is_l hr)
          go_ret
          exact ⟨_, _, rfl, by unfold slopeF; rw [← HX.out]; exact hr, rfl⟩

theorem angS_nan (y x c d : Nat) (w : World) (hy : Is .f64 y c) (hx : Is .f64 x d) (h : finB .f64 c = false ∨ finB .f64 d = false) : Calls Try.prog 57 #[.float .f64 y, .float .f64 x] w (RetF .f64 (qn .f64) w) := by
  cases hfy : finB .f64 c with
  | false =>
    have h0 := inf_sub hfy
    cases hfx : finB .f64 d
    all_goals
      clear h
      first | (have h1 := fin_sub hfx) | (have h1 := inf_sub hfx)
      clear hfx
      go_enter Try.func57, Try.ntmps57
      go_wp2_with (first | (go_at_call 54; refine (nan_any _).mono ?_; rintro e w' ⟨rfl, rfl⟩) | (refine up_ar2 rfl (by first | assumption | exact is_int _ | exact is_lit (by decide)) (by first | assumption | exact is_int _ | exact is_lit (by decide)) ?_; intro r n hr; have hro := order_is_l hr))
      go_ret
      exact ⟨_, _, rfl, is_qn, rfl⟩
  | true =>
    have hfx : finB .f64 d = false := by
      rcases h with h | h
      · rw [hfy] at h; cases h
      · exact h
    have h0 := fin_sub hfy
    have h1 := inf_sub hfx
    clear h hfy hfx
    go_enter Try.func57, Try.ntmps57
    go_wp2_with (first | (go_at_call 54; refine (nan_any _).mono ?_; rintro e w' ⟨rfl, rfl⟩) | (refine up_ar2 rfl (by first | assumption | exact is_int _ | exact is_lit (by decide)) (by first | assumption | exact is_int _ | exact is_lit (by decide)) ?_; intro r n hr; have hro := order_is_l hr))
    go_ret
    exact ⟨_, _, rfl, is_qn, rfl⟩
theorem angS_zero (y x : Nat) (w : World) (hy : Is .f64 y y) (hx : Is .f64 x x) (hfy : finB .f64 y = true) (hfx : finB .f64 x = true) (hzy : (FloatKind.f64.format.order y 0 == some .eq) = true) (hzx : (FloatKind.f64.format.order x 0 == some .eq) = true) :
    Calls Try.prog 57 #[.float .f64 y, .float .f64 x] w (RetF .f64 0 w) := by
  have h0 := fin_sub hfy
  have h1 := fin_sub hfx
  clear hfy hfx
  go_enter Try.func57, Try.ntmps57
  go_wp2_with (refine up_ar2 rfl (by first | assumption | exact is_int _ | exact is_lit (by decide)) (by first | assumption | exact is_int _ | exact is_lit (by decide)) ?_; intro r n hr; have hro := order_is_l hr)
  go_ret
  exact ⟨_, _, rfl, is_lit (by decide), rfl⟩
theorem is_mod {y : Nat} (hy : Is .f64 y y) (hf : finB .f64 y = true) : Is .f64 (y % 2 ^ 63) (y % 2 ^ 63) :=
  ⟨cn_of_not (by rw [isN_mod]; exact nan_of_not_fin hf), Nat.lt_of_lt_of_le (Nat.mod_lt _ (by decide)) (by decide)⟩

set_option maxHeartbeats 8000000 in
theorem angS_any (y x : Nat) (w : World) (hy : Is .f64 y y) (hx : Is .f64 x x) (hfy : finB .f64 y = true) (hfx : finB .f64 x = true)
    (hz : (FloatKind.f64.format.order y 0 == some .eq && FloatKind.f64.format.order x 0 == some .eq) = false) :
    Calls Try.prog 57 #[.float .f64 y, .float .f64 x] w (RetF .f64 (ang4 (y % 2 ^ 63) (x % 2 ^ 63) y x) w) := by
  have h0 := fin_sub hfy
  have h1 := fin_sub hfx
  have hA := is_mod hy hfy
  have hB := is_mod hx hfx
  have hly : y < 2 ^ 64 := hy.2
  have hlx : x < 2 ^ 64 := hx.2
  have hng : ∀ x, Op.unary .neg (.float .f64 x) = pure (.float .f64 (Op.negFloat .f64 x)) := fun _ => rfl
  have habs := fun w => abs_any y w hly
  have habs' := fun w => abs_any x w hlx
  obtain ⟨A, hAe⟩ : ∃ A, A = y % 2 ^ 63 := ⟨_, rfl⟩
  obtain ⟨B, hBe⟩ : ∃ B, B = x % 2 ^ 63 := ⟨_, rfl⟩
  rw [← hAe] at hA habs ⊢
  rw [← hBe] at hB habs' ⊢
  have HA := Lib.hid habs
  have HB := Lib.hid habs'
  clear hAe hBe habs habs' hfy hfx hly hlx
  obtain ⟨T, hT⟩ : ∃ T, T = angT A B := ⟨_, rfl⟩
  have hz3 : ((FloatKind.f64.format.order y 0 == some .eq) = false ∧ (FloatKind.f64.format.order x 0 == some .eq) = false) ∨ ((FloatKind.f64.format.order y 0 == some .eq) = false ∧ (FloatKind.f64.format.order x 0 == some .eq) = true) ∨ ((FloatKind.f64.format.order y 0 == some .eq) = true ∧ (FloatKind.f64.format.order x 0 == some .eq) = false) := by
    revert hz
    cases (FloatKind.f64.format.order y 0 == some .eq) <;> cases (FloatKind.f64.format.order x 0 == some .eq) <;> simp
  clear hz
  cases hov : overB A B <;> rcases hz3 with ⟨hzy, hzx⟩ | ⟨hzy, hzx⟩ | ⟨hzy, hzx⟩
  all_goals
    have HOV := Lib.hid hov
    have HT := Lib.hid hT
    unfold angT at hT
    rw [hov] at hT
    simp only [Bool.false_eq_true, if_false, if_true] at hT
    unfold overB at hov
    have hTs := hT.symm
    clear hT
    go_enter Try.func57, Try.ntmps57
    go_wp2_with (first | (go_at_call_of 32 y; refine (HA.out _).mono ?_; rintro e w' ⟨rfl, rfl⟩) | (go_at_call_of 32 x; refine (HB.out _).mono ?_; rintro e w' ⟨rfl, rfl⟩) | (refine up_ar2 rfl (by first | assumption | exact is_int _ | exact is_lit (by decide)) (by first | assumption | exact is_int _ | exact is_lit (by decide)) ?_; intro r n hr; (try rw [hTs] at hr); have hro := order_is_l hr))
    have hr0 := hr
    clear hr hro
    go_loopw [8, 9] (ThRel T w) (fun _ i _ => 3 - (intOf i).toNat)
    case atStart => exact ⟨0, _, _, by omega, rfl, rfl, hr0, rfl⟩
    case round =>
      obtain ⟨j, n1, r1, hj, rfl, rfl, hr1, rfl⟩ := hrel
      clear hr0
      by_cases hlt : j < 3
      · go_wp2_with (first | (refine up_ar2 rfl (by first | assumption | exact is_int _ | exact is_lit (by decide)) (by first | assumption | exact is_int _ | exact is_lit (by decide)) ?_; intro r n hr; have hro := order_is_l hr) | (go_at_call 28; refine (sqrt_is _ _ _ (by assumption)).mono ?_; rintro e w' ⟨r, n, rfl, hr, rfl⟩))
        go_roundw
        case rel => exact ⟨j + 1, _, _, by omega, by go_num, rfl, hr, rfl⟩
        case measure => simp [intOf]; omega
      · obtain rfl : j = 3 := by omega
        obtain ⟨X, hX⟩ : ∃ X, X = thF T 3 := ⟨_, rfl⟩
        rw [← hX] at hr1
        have HX := Lib.hid hX
        clear hX
        go_wp2_with (refine up_ar2 rfl (by first | assumption | exact is_int _ | exact is_lit (by decide)) (by first | assumption | exact is_int _ | exact is_lit (by decide)) ?_; intro r n hr; have hro := order_is_l hr)
        have hu := hr
        clear hr hro
        go_loopw [11, 12] (PaRel (ar .mul .f64 X X) w) (fun _ i _ => (intOf i + 1).toNat)
        case atStart => exact ⟨0, _, 0, by omega, rfl, rfl, is_lit (by decide), rfl⟩
        case round =>
          obtain ⟨j, n2, r2, hj, rfl, rfl, hp, rfl⟩ := hrel
          by_cases hlt : j < 8
          · go_wp2_with (refine up_ar2 rfl (by first | assumption | exact is_int _ | exact is_lit (by decide)) (by first | assumption | exact is_int _ | exact is_lit (by decide)) ?_; intro r n hr; have hro := order_is_l hr)
            go_roundw
            case rel => exact ⟨j + 1, _, _, by omega, by rw [show (15 : Int) - 2 * ((j + 1 : Nat) : Int) = 15 - 2 * (j : Int) - 2 by omega], rfl, hr, rfl⟩
            case measure => simp [intOf]; omega
          · obtain rfl : j = 8 := by omega
            show Code.wp _ _ _ _ _
            cases hx0 : ltB x 0 <;> cases hy0 : ltB y 0
            all_goals
              have HX0 := Lib.hid hx0
              have HY0 := Lib.hid hy0
              unfold ltB at hx0 hy0
              go_wp2_with (refine up_ar2 rfl (by first | assumption | exact is_int _ | exact is_lit (by decide)) (by first | assumption | exact is_int _ | exact is_lit (by decide)) ?_; intro r n hr; have hro := order_is_l hr)
              go_ret
              first | exact ⟨_, _, rfl, by (unfold ang4 ang3 ang2; rw [HX0.out, HY0.out, HOV.out, ← HT.out]; unfold slopeF; rw [← HX.out]; exact hr), rfl⟩ | exact ⟨_, _, rfl, by (unfold ang4 ang3 ang2; rw [HX0.out, HY0.out, HOV.out, ← HT.out]; unfold slopeF; rw [← HX.out]; exact neg_is hr), rfl⟩
end Go.Proofs.Ytcncobafpifimab

