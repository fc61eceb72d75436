/-
  Contracts: AngleTurns of both sides, whole.
-/
import Derived.Test.YtcncobafpifimabAngle
namespace Go.Proofs.Ytcncobafpifimab
open Go.RowKit Fl
set_option linter.unusedVariables false

theorem narS_is (r c : Nat) (w : World) (h : Is .f64 r c) (hx : naOk c = true) : Calls Try.prog 48 #[.float .f64 r] w (RetF .f32 (na c) w) :=
  (narS_any r w (naok_of h hx)).mono fun e w' ⟨a, n, he, ha, hw⟩ => ⟨a, n, he, by rw [← na_is h]; exact ha, hw⟩
theorem narI_is (r c : Nat) (w : World) (h : Is .f64 r c) (hx : naOk c = true) : Calls Try.prog 27 #[.float .f64 r] w (RetF .f32 (na c) w) :=
  (narI_any r w (naok_of h hx)).mono fun e w' ⟨a, n, he, ha, hw⟩ => ⟨a, n, he, by rw [← na_is h]; exact ha, hw⟩

theorem up_wideE {P : Program} {o : Oper} {a : Act} {w : World} {K : Act → World → Prop} {Q : Exit → Act → World → Prop} {src dst : TypeId} {x : Nat} (hn : isN .f64 (wi x) = false) (hs : (P.underlying src).isSome = true) (hd : P.underlying dst = some (.float .f64))
    (h : ∀ n, K (a.put o.dst (.float .f64 (wi x))) (w.drewN n)) :
    o.upon P a K Q ((Sem.run P (convert src dst (.float .f32 x)) w).andThen fun v w' => .ok (.value v) w') :=
  up_wide hs hd fun r n hr => by rw [is_eq hr hn]; exact h n
theorem is_wi (x : Nat) : Is .f64 (wi x) (wi x) := ⟨cn_wi x, wi_lt x⟩
theorem l01Angle_any (y x : Nat) (w : World) : Calls Try.prog 37 #[.float .f32 y, .float .f32 x] w (RetF .f32 (angN y x) w) := by
  cases hf : finB .f32 y && finB .f32 x with
  | false =>
    have hT : angN y x = na (qn .f64) := by unfold angN; rw [hf, na_qn]; rfl
    rw [hT]
    have hff : finB .f64 (wi y) = false ∨ finB .f64 (wi x) = false := by rw [finB_wi, finB_wi]; exact Bool.and_eq_false_iff.1 hf
    have HFF := Lib.hid hff
    clear hT hf hff
    go_enter Try.func37, Try.ntmps37
    go_wp2_with (first | (go_at_call 57; refine (angS_nan _ _ _ _ _ (by assumption) (by assumption) HFF.out).mono ?_; rintro e w' ⟨r2, n2, rfl, hr2, rfl⟩) | (go_at_call 48; refine (narS_any _ _ (by rw [naOk_is hr2]; exact naOk_qn)).mono ?_; rintro e w' ⟨r3, n3, rfl, hr3, rfl⟩) | (refine up_wide (by rw [Try.underlying22]; rfl) Try.underlying25 ?_; intro r1 n1 hr1))
    go_ret
    exact ⟨_, _, rfl, by rw [← na_is hr2]; exact hr3, rfl⟩
  | true =>
    obtain ⟨hy, hx⟩ := Bool.and_eq_true_iff.1 hf
    have hy' : finB .f64 (wi y) = true := by rw [finB_wi]; exact hy
    have hx' : finB .f64 (wi x) = true := by rw [finB_wi]; exact hx
    have hny := nan_of_not_fin hy'
    have hnx := nan_of_not_fin hx'
    cases hz : (FloatKind.f64.format.order (wi y) 0 == some .eq && FloatKind.f64.format.order (wi x) 0 == some .eq) with
    | true =>
      have hT : angN y x = na 0 := by unfold angN; rw [hf, hz, na_zero.2]; rfl
      rw [hT]
      obtain ⟨hz1, hz2⟩ := Bool.and_eq_true_iff.1 hz
      have H1 := Lib.hid hz1
      have H2 := Lib.hid hz2
      have HY := Lib.hid hy'
      have HX := Lib.hid hx'
      have HNY := Lib.hid hny
      have HNX := Lib.hid hnx
      clear hT hf hz hz1 hz2 hy hx hy' hx' hny hnx
      go_enter Try.func37, Try.ntmps37
      go_wp2_with (first | (go_at_call 57; refine (angS_zero _ _ _ (is_wi _) (is_wi _) HY.out HX.out H1.out H2.out).mono ?_; rintro e w' ⟨r2, n2, rfl, hr2, rfl⟩) | (go_at_call 48; refine (narS_any _ _ (by rw [naOk_is hr2]; exact na_zero.1)).mono ?_; rintro e w' ⟨r3, n3, rfl, hr3, rfl⟩) | (refine up_wideE (by first | exact HNY.out | exact HNX.out) (by rw [Try.underlying22]; rfl) Try.underlying25 ?_; intro n1))
      go_ret
      exact ⟨_, _, rfl, by rw [← na_is hr2]; exact hr3, rfl⟩
    | false =>
      have hT : angN y x = na (angW y x) := by unfold angN; rw [hf, hz]; rfl
      rw [hT]
      have hok := (Bd.naOk (angW_bd hy' hx' hz) (by decide) (by decide)).1
      have HZ := Lib.hid hz
      have HY := Lib.hid hy'
      have HX := Lib.hid hx'
      have HNY := Lib.hid hny
      have HNX := Lib.hid hnx
      have HK := Lib.hid hok
      clear hT hf hz hy hx hy' hx' hny hnx hok
      go_enter Try.func37, Try.ntmps37
      go_wp2_with (first | (go_at_call 57; refine (angS_any _ _ _ (is_wi _) (is_wi _) HY.out HX.out HZ.out).mono ?_; rintro e w' ⟨r2, n2, rfl, hr2, rfl⟩) | (go_at_call 48; refine (narS_any _ _ (by rw [naOk_is hr2]; exact HK.out)).mono ?_; rintro e w' ⟨r3, n3, rfl, hr3, rfl⟩) | (refine up_wideE (by first | exact HNY.out | exact HNX.out) (by rw [Try.underlying22]; rfl) Try.underlying25 ?_; intro n1))
      go_ret
      exact ⟨_, _, rfl, by have h := hr3; rw [na_is hr2] at h; exact h, rfl⟩

theorem angI_nan (y x : Nat) (w : World) (hy : y < 2 ^ 32) (hx : x < 2 ^ 32) (hf : (finB .f32 y && finB .f32 x) = false) : Calls Try.prog 17 #[.float .f32 y, .float .f32 x] w (RetF .f32 (qn .f32) w) := by
  cases hfy : finB .f32 y <;> cases hfx : finB .f32 x
  all_goals first | (rw [hfy, hfx] at hf; cases hf; done) | skip
  all_goals
    have HY := Lib.hid hfy
    have HX := Lib.hid hfx
    clear hf hfy hfx
    go_enter Try.func17, Try.ntmps17
    go_wp2_with (first | (go_at_call_of 38 y; refine (implFin_any _ _ hy).mono ?_; rintro e w' ⟨rfl, n, rfl⟩; rw [HY.out]) | (go_at_call_of 38 x; refine (implFin_any _ _ hx).mono ?_; rintro e w' ⟨rfl, n, rfl⟩; rw [HX.out]) | (go_at_call 31; refine (notNum_any _).mono ?_; rintro e w' ⟨r, n, rfl, hr, rfl⟩))
    go_ret
    exact ⟨_, _, rfl, hr, rfl⟩
theorem angI_zero (y x : Nat) (w : World) (hy : y < 2 ^ 32) (hx : x < 2 ^ 32) (hfy : finB .f32 y = true) (hfx : finB .f32 x = true) (hzy : (FloatKind.f32.format.order y 0 == some .eq) = true) (hzx : (FloatKind.f32.format.order x 0 == some .eq) = true) :
    Calls Try.prog 17 #[.float .f32 y, .float .f32 x] w (RetF .f32 0 w) := by
  have HY := Lib.hid hfy
  have HX := Lib.hid hfx
  clear hfy hfx
  go_enter Try.func17, Try.ntmps17
  go_wp2_with (first | (go_at_call_of 38 y; refine (implFin_any _ _ hy).mono ?_; rintro e w' ⟨rfl, n, rfl⟩; rw [HY.out]) | (go_at_call_of 38 x; refine (implFin_any _ _ hx).mono ?_; rintro e w' ⟨rfl, n, rfl⟩; rw [HX.out]))
  go_ret
  exact ⟨_, _, rfl, is_lit (by decide), rfl⟩
set_option maxHeartbeats 8000000 in
theorem angI_any (y x : Nat) (w : World) (hy : y < 2 ^ 32) (hx : x < 2 ^ 32) (hfy : finB .f32 y = true) (hfx : finB .f32 x = true)
    (hz : (FloatKind.f64.format.order (wi y) 0 == some .eq && FloatKind.f64.format.order (wi x) 0 == some .eq) = false) :
    Calls Try.prog 17 #[.float .f32 y, .float .f32 x] w (RetF .f32 (na (angW y x)) w) := by
  have hy' : finB .f64 (wi y) = true := by rw [finB_wi]; exact hfy
  have hx' : finB .f64 (wi x) = true := by rw [finB_wi]; exact hfx
  have HNY := Lib.hid (nan_of_not_fin hy')
  have HNX := Lib.hid (nan_of_not_fin hx')
  have HK := Lib.hid (Bd.naOk (angW_bd hy' hx' hz) (by decide) (by decide)).1
  have hA := is_mod (is_wi y) hy'
  have hB := is_mod (is_wi x) hx'
  have HY := Lib.hid hfy
  have HX := Lib.hid hfx
  have hng : ∀ x, Op.unary .neg (.float .f64 x) = pure (.float .f64 (Op.negFloat .f64 x)) := fun _ => rfl
  have HA := Lib.hid (fun w => abs_any (wi y) w (wi_lt y))
  have HB := Lib.hid (fun w => abs_any (wi x) w (wi_lt x))
  have hz3 : ((FloatKind.f32.format.order y 0 == some .eq) = false ∧ (FloatKind.f32.format.order x 0 == some .eq) = false) ∨ ((FloatKind.f32.format.order y 0 == some .eq) = false ∧ (FloatKind.f32.format.order x 0 == some .eq) = true) ∨ ((FloatKind.f32.format.order y 0 == some .eq) = true ∧ (FloatKind.f32.format.order x 0 == some .eq) = false) := by
    rw [order_wi0, order_wi0] at hz
    revert hz
    cases (FloatKind.f32.format.order y 0 == some .eq) <;> cases (FloatKind.f32.format.order x 0 == some .eq) <;> simp
  have hpost : ∀ e w', RetF .f32 (na (ang4 (wi y % 2 ^ 63) (wi x % 2 ^ 63) (wi y) (wi x))) w e w' → RetF .f32 (na (angW y x)) w e w' := fun _ _ h => h
  replace HK : RowKit.Hid (naOk (ang4 (wi y % 2 ^ 63) (wi x % 2 ^ 63) (wi y) (wi x)) = true) := HK
  have hly : ltB (wi y) 0 = (FloatKind.f32.format.order y 0 == some .lt) := by unfold ltB; rw [order_wi0]
  have hlx : ltB (wi x) 0 = (FloatKind.f32.format.order x 0 == some .lt) := by unfold ltB; rw [order_wi0]
  clear hz hy' hx' hfy hfx
  generalize wi y % 2 ^ 63 = A at *
  generalize wi x % 2 ^ 63 = B at *
  cases hov : overB A B <;> cases hy0 : ltB (wi y) 0 <;> cases hx0 : ltB (wi x) 0
  all_goals
    rw [hy0] at hly
    rw [hx0] at hlx
    have hly' := hly.symm
    have hlx' := hlx.symm
    have HOV := Lib.hid hov
    have HY0 := Lib.hid hy0
    have HX0 := Lib.hid hx0
    unfold overB at hov
    clear hly hlx hy0 hx0
    rcases hz3 with ⟨hzy, hzx⟩ | ⟨hzy, hzx⟩ | ⟨hzy, hzx⟩
  all_goals
    go_enter Try.func17, Try.ntmps17
    go_wp2_with (first | (go_at_call_of 38 y; refine (implFin_any _ _ hy).mono ?_; rintro e w' ⟨rfl, n, rfl⟩; rw [HY.out]) | (go_at_call_of 38 x; refine (implFin_any _ _ hx).mono ?_; rintro e w' ⟨rfl, n, rfl⟩; rw [HX.out]) | (refine up_wideE (by first | exact HNY.out | exact HNX.out) (by rw [Try.underlying22]; rfl) Try.underlying25 ?_; intro n1) | (go_at_call_of 32 y; refine (HA.out _).mono ?_; rintro e w' ⟨rfl, rfl⟩) | (go_at_call_of 32 x; refine (HB.out _).mono ?_; rintro e w' ⟨rfl, rfl⟩) | (go_at_call 39; refine (slope_any _ _ _ (by assumption)).mono ?_; rintro e w' ⟨r, n, rfl, hr, rfl⟩) | (go_at_call 27; refine (narI_is _ (ang4 A B (wi y) (wi x)) _ (by unfold ang4 ang3 ang2 angT; rw [HX0.out, HY0.out, HOV.out]; first | exact hr | exact neg_is hr) HK.out).mono ?_; rintro e w' ⟨r9, n9, rfl, hr9, rfl⟩) | (refine up_ar2 rfl (by first | assumption | exact is_int _ | exact is_lit (by decide)) (by first | assumption | exact is_int _ | exact is_lit (by decide)) ?_; intro r n hr; have hro := order_is_l hr))
    all_goals (go_ret; exact hpost _ _ ⟨_, _, rfl, hr9, rfl⟩)
end Go.Proofs.Ytcncobafpifimab
