/-
  Contracts: the number that is none.
  Contracts: the logarithm of both sides, in 64 bits.
  Contracts: the logarithm of the model, in 64 bits.
  Contracts: LogNumber of both sides, at each kind of number.
  Roots, of both sides.
  Contracts: logarithms and roots of a number, of both sides at once.
-/
import Derived.Test.YthkklilfignmpaaCallB
import Derived.Test.YthkklilfignmpaaFloSine
import Derived.Test.YthkklilfignmpaaFlLog
import Derived.Deep.RegionWith
import Derived.Test.YthkklilfignmpaaRoot
import Derived.Test.YthkklilfignmpaaFloShr
namespace Go.Proofs.Ythkklilfignmpaa
open Go.RowKit Fl
set_option linter.unusedVariables false
set_option maxRecDepth 100000

theorem nan_any (w : World) : Calls Try.prog 180 #[] w fun e w' => e = .returned (.float .f64 (qn .f64)) ∧ w = w' := by
  have h := row_from64
  go_enter Try.func180, Try.ntmps180
  go_wp2_with fail
  go_ret
  exact ⟨rfl, rfl⟩
theorem notNum_any (w : World) : Calls Try.prog 168 #[] w (RetF .f32 (qn .f32) w) := by
  go_enter Try.func168, Try.ntmps168
  go_wp2_with (first | (go_at_call 180; refine (nan_any _).mono ?_; rintro e w' ⟨rfl, rfl⟩) | (refine up_narrow (by rw [Try.underlying82]; rfl) Try.underlying23 naOk_qn ?_; intro r n hr))
  go_ret
  exact ⟨_, _, rfl, by rw [← na_qn]; exact hr, rfl⟩

end Go.Proofs.Ythkklilfignmpaa
namespace Go.Proofs.Ythkklilfignmpaa
open Go.RowKit Fl
set_option linter.unusedVariables false
set_option maxRecDepth 100000

theorem h_uniq {x j k : Nat} (h1 : hStop x j) (h2 : hStop x k) : j = k := by
  rcases Nat.lt_trichotomy j k with h | h | h
  · have := h2.1 j h; rw [h1.2] at this; cases this
  · exact h
  · have := h1.1 k h; rw [h2.2] at this; cases this
theorem h_lt {x j k : Nat} (h1 : ∀ i, i < j + 1 → geB (hF x i) c15 = true) (h2 : hStop x k) : j < k := by
  refine Nat.lt_of_not_le fun h => ?_
  have := h1 k (by omega); rw [h2.2] at this; cases this
theorem d_uniq {x j k : Nat} (h1 : dStop x j) (h2 : dStop x k) : j = k := by
  rcases Nat.lt_trichotomy j k with h | h | h
  · have := h2.1 j h; rw [h1.2] at this; cases this
  · exact h
  · have := h1.1 k h; rw [h2.2] at this; cases this
theorem d_lt {x j k : Nat} (h1 : ∀ i, i < j + 1 → ltB (dF x i) c075 = true) (h2 : dStop x k) : j < k := by
  refine Nat.lt_of_not_le fun h => ?_
  have := h1 k (by omega); rw [h2.2] at this; cases this
/-- The three loops. -/
def HRel (x : Nat) (w : World) (a b : Value) (wr : World) : Prop := ∃ j n r : Nat, b = .int .i64 j ∧ a = .float .f64 r ∧ Is .f64 r (hF x j) ∧ (∀ i, i < j → geB (hF x i) c15 = true) ∧ wr = w.drewN n
def DRel (x J : Nat) (w : World) (a b : Value) (wr : World) : Prop := ∃ j n r : Nat, b = .int .i64 ((J : Int) - (j : Int)) ∧ a = .float .f64 r ∧ Is .f64 r (dF x j) ∧ (∀ i, i < j → ltB (dF x i) c075 = true) ∧ wr = w.drewN n
def LRel (u : Nat) (w : World) (p i : Value) (wr : World) : Prop := ∃ j n r : Nat, j ≤ 13 ∧ i = .int .i64 (25 - 2 * (j : Int)) ∧ p = .float .f64 r ∧ Is .f64 r (polL u j) ∧ wr = w.drewN n

set_option maxHeartbeats 4000000 in
theorem natLog_any (x : Nat) (w : World) (hx : Is .f64 x x) (J K : Nat) (hJ : hStop x J) (hK : dStop (hF x J) K) (hJ3 : J ≤ 300) (hK3 : K ≤ 300) :
    Calls Try.prog 167 #[.float .f64 x] w (RetF .f64 (lgF (dF (hF x J) K) ((J : Int) - (K : Int))) w) := by
  have hJJ := Lib.hid hJ
  have hKK := Lib.hid hK
  clear hJ hK
  go_enter Try.func167, Try.ntmps167
  go_wp2
  go_loopw [0, 3] (HRel x w) (fun _ b _ => 301 - (intOf b).toNat)
  case atStart => exact ⟨0, 0, _, rfl, rfl, hx, fun i hi => absurd hi (by omega), rfl⟩
  case round =>
    obtain ⟨j, m, r1, rfl, rfl, hr1, hge, rfl⟩ := hrel
    have hro1 := order_is_l hr1
    cases hg : geB (hF x j) c15 with
    | true =>
      have hge1 : ∀ i, i < j + 1 → geB (hF x i) c15 = true := fun i hi => by
        by_cases e : i = j
        · subst e; exact hg
        · exact hge i (by omega)
      have hj4 := h_lt hge1 hJJ.out
      unfold geB c15 at hg
      have HG := Lib.hid hge1
      clear hge hge1
      go_wp2_with (refine up_ar2 rfl hr1 (is_lit (by decide)) ?_; intro r2 n2 hr2)
      go_roundw
      case rel => exact ⟨j + 1, _, _, by go_num, rfl, hr2, HG.out, rfl⟩
      case measure => simp [intOf]; omega
    | false =>
      have hst : hStop x j := ⟨hge, hg⟩
      obtain rfl := h_uniq hst hJJ.out
      unfold geB c15 at hg
      clear hst hge
      obtain ⟨y, hy⟩ : ∃ y, y = hF x j := ⟨_, rfl⟩
      rw [← hy] at hr1 hro1 hg hKK
      have HYY := Lib.hid hy
      clear hy hJJ hx
      go_wp2
      go_loopw [0, 3] (DRel y j w) (fun _ b _ => (intOf b + 301).toNat)
      case atStart => exact ⟨0, _, _, by rw [Int.natCast_zero, Int.sub_zero], rfl, hr1, fun i hi => absurd hi (by omega), rfl⟩
      case round =>
        clear hro1 hg hr1
        obtain ⟨k, m2, r2, rfl, rfl, hr2, hlt2, rfl⟩ := hrel
        have hro2 := order_is_l hr2
        cases hg : ltB (dF y k) c075 with
        | true =>
          have hge1 : ∀ i, i < k + 1 → ltB (dF y i) c075 = true := fun i hi => by
            by_cases e : i = k
            · subst e; exact hg
            · exact hlt2 i (by omega)
          have hj4 := d_lt hge1 hKK.out
          unfold ltB c075 at hg
          have HG := Lib.hid hge1
          clear hlt2 hge1
          go_wp2_with (refine up_ar2 rfl hr2 (is_lit (by decide)) ?_; intro r3 n3 hr3)
          go_roundw
          case rel => exact ⟨k + 1, _, _, by rw [show (j : Int) - ((k + 1 : Nat) : Int) = (j : Int) - (k : Int) - 1 by omega], rfl, hr3, HG.out, rfl⟩
          case measure => simp [intOf]; omega
        | false =>
          have hst : dStop y k := ⟨hlt2, hg⟩
          obtain rfl := d_uniq hst hKK.out
          unfold ltB c075 at hg
          clear hst hlt2 hKK
          obtain ⟨z, hz⟩ : ∃ z, z = dF y k := ⟨_, rfl⟩
          rw [← hz] at hr2 hro2 hg
          have HZ := Lib.hid hz
          clear hz
          obtain ⟨S, hS⟩ : ∃ S, S = lgS z := ⟨_, rfl⟩
          have HS := Lib.hid hS
          clear hS
          go_wp2_with (first | (refine up_ar2 (op := .quo) rfl (by assumption) (by assumption) ?_; intro rs ns hs; replace hs : Is .f64 rs S := (by rw [HS.out]; exact hs)) | (refine up_ar2 (op := .mul) rfl (by assumption) (by assumption) ?_; intro ru nu hu) | (refine up_ar2 rfl (by first | assumption | exact is_int _ | exact is_lit (by decide)) (by first | assumption | exact is_int _ | exact is_lit (by decide)) ?_; intro r n hr))
          clear hro2 hg hr
          go_loopw [6, 7] (LRel (ar .mul .f64 S S) w) (fun _ i _ => (intOf i + 1).toNat)
          case atStart => exact ⟨0, _, 0, by omega, rfl, rfl, is_lit (by decide), rfl⟩
          case round =>
            obtain ⟨i, n2, r3, hi, rfl, rfl, hp, rfl⟩ := hrel
            by_cases hlt : i < 13
            · go_wp2_with (refine up_ar2 rfl (by first | assumption | exact is_int _ | exact is_lit (by decide)) (by first | assumption | exact is_int _ | exact is_lit (by decide)) ?_; intro r n hr; have hro := order_is_l hr)
              go_roundw
              case rel => exact ⟨i + 1, _, _, by omega, by rw [show (25 : Int) - 2 * ((i + 1 : Nat) : Int) = 25 - 2 * (i : Int) - 2 by omega], rfl, hr, rfl⟩
              case measure => simp [intOf]; omega
            · obtain rfl : i = 13 := by omega
              go_wp2_with (refine up_ar2 rfl (by first | assumption | exact is_int _ | exact is_lit (by decide)) (by first | assumption | exact is_int _ | exact is_lit (by decide)) ?_; intro r n hr; have hro := order_is_l hr)
              go_ret
              exact ⟨_, _, rfl, by rw [← HYY.out, ← HZ.out]; unfold lgF lgQ; rw [← HS.out]; exact hr, rfl⟩
end Go.Proofs.Ythkklilfignmpaa
namespace Go.Proofs.Ythkklilfignmpaa
open Go.RowKit Fl
set_option linter.unusedVariables false
set_option maxRecDepth 100000

theorem isinf1_any (x : Nat) (w : World) : Calls Try.prog 181 #[.float .f64 x, .int .i64 1] w fun e w' => e = .returned (.bool (FloatKind.f64.format.order x 9218868437227405311 == some .gt)) ∧ w = w' := by
  go_enter Try.func181, Try.ntmps181
  go_wp2
  go_ret
  exact ⟨rfl, rfl⟩
theorem ninf_any (w : World) : Calls Try.prog 166 #[.int .i64 (-1)] w fun e w' => e = .returned (.float .f64 18442240474082181120) ∧ w = w' := by
  have h := row_from64
  go_enter Try.func166, Try.ntmps166
  go_wp2_with fail
  go_ret
  exact ⟨rfl, rfl⟩
theorem lgS_nan (x : Nat) (w : World) (h0 : (FloatKind.f64.format.order x x != some .eq) = true) : Calls Try.prog 165 #[.float .f64 x] w (RetF .f64 (qn .f64) w) := by
  have h3 : True := trivial
  go_enter Try.func165, Try.ntmps165
  go_wp2_with (first | (go_at_call 180; refine (nan_any _).mono ?_; rintro e w' ⟨rfl, rfl⟩) | (go_at_call 166; refine (ninf_any _).mono ?_; rintro e w' ⟨rfl, rfl⟩) | (go_at_call 181; refine (isinf1_any _ _).mono ?_; rintro e w' ⟨rfl, rfl⟩; rw [h3]))
  go_ret
  exact ⟨_, 0, rfl, is_qn, rfl⟩
theorem lgS_neg (x : Nat) (w : World) (h0 : (FloatKind.f64.format.order x x != some .eq) = false) (h1 : (FloatKind.f64.format.order x 0 == some .lt) = true) : Calls Try.prog 165 #[.float .f64 x] w (RetF .f64 (qn .f64) w) := by
  have h3 : True := trivial
  go_enter Try.func165, Try.ntmps165
  go_wp2_with (first | (go_at_call 180; refine (nan_any _).mono ?_; rintro e w' ⟨rfl, rfl⟩) | (go_at_call 166; refine (ninf_any _).mono ?_; rintro e w' ⟨rfl, rfl⟩) | (go_at_call 181; refine (isinf1_any _ _).mono ?_; rintro e w' ⟨rfl, rfl⟩; rw [h3]))
  go_ret
  exact ⟨_, 0, rfl, is_qn, rfl⟩
theorem lgS_zero (x : Nat) (w : World) (h0 : (FloatKind.f64.format.order x x != some .eq) = false) (h1 : (FloatKind.f64.format.order x 0 == some .lt) = false) (h2 : (FloatKind.f64.format.order x 0 == some .eq) = true) : Calls Try.prog 165 #[.float .f64 x] w (RetF .f64 18442240474082181120 w) := by
  have h3 : True := trivial
  go_enter Try.func165, Try.ntmps165
  go_wp2_with (first | (go_at_call 180; refine (nan_any _).mono ?_; rintro e w' ⟨rfl, rfl⟩) | (go_at_call 166; refine (ninf_any _).mono ?_; rintro e w' ⟨rfl, rfl⟩) | (go_at_call 181; refine (isinf1_any _ _).mono ?_; rintro e w' ⟨rfl, rfl⟩; rw [h3]))
  go_ret
  exact ⟨_, 0, rfl, is_lit (by decide), rfl⟩
theorem lgS_inf (x : Nat) (w : World) (hx : Is .f64 x x) (h0 : (FloatKind.f64.format.order x x != some .eq) = false) (h1 : (FloatKind.f64.format.order x 0 == some .lt) = false) (h2 : (FloatKind.f64.format.order x 0 == some .eq) = false) (h3 : (FloatKind.f64.format.order x 9218868437227405311 == some .gt) = true) : Calls Try.prog 165 #[.float .f64 x] w (RetF .f64 x w) := by
  go_enter Try.func165, Try.ntmps165
  go_wp2_with (first | (go_at_call 180; refine (nan_any _).mono ?_; rintro e w' ⟨rfl, rfl⟩) | (go_at_call 166; refine (ninf_any _).mono ?_; rintro e w' ⟨rfl, rfl⟩) | (go_at_call 181; refine (isinf1_any _ _).mono ?_; rintro e w' ⟨rfl, rfl⟩; rw [h3]))
  go_ret
  exact ⟨_, 0, rfl, hx, rfl⟩
set_option maxHeartbeats 4000000 in
theorem lgS_any (x : Nat) (w : World) (hx : Is .f64 x x) (h0 : (FloatKind.f64.format.order x x != some .eq) = false) (h1 : (FloatKind.f64.format.order x 0 == some .lt) = false) (h2 : (FloatKind.f64.format.order x 0 == some .eq) = false) (h3 : (FloatKind.f64.format.order x 9218868437227405311 == some .gt) = false)
    (J K : Nat) (hJ : hStop x J) (hK : dStop (hF x J) K) (hJ3 : J ≤ 300) (hK3 : K ≤ 300) :
    Calls Try.prog 165 #[.float .f64 x] w (RetF .f64 (lgF (dF (hF x J) K) ((J : Int) - (K : Int))) w) := by
  have hJJ := Lib.hid hJ
  have hKK := Lib.hid hK
  clear hJ hK
  go_enter Try.func165, Try.ntmps165
  go_wp2_with (go_at_call 181; refine (isinf1_any _ _).mono ?_; rintro e w' ⟨rfl, rfl⟩; rw [h3])
  go_loopw [0, 3] (HRel x w) (fun _ b _ => 301 - (intOf b).toNat)
  case atStart => exact ⟨0, 0, _, rfl, rfl, hx, fun i hi => absurd hi (by omega), rfl⟩
  case round =>
    obtain ⟨j, m, r1, rfl, rfl, hr1, hge, rfl⟩ := hrel
    have hro1 := order_is_l hr1
    cases hg : geB (hF x j) c15 with
    | true =>
      have hge1 : ∀ i, i < j + 1 → geB (hF x i) c15 = true := fun i hi => by
        by_cases e : i = j
        · subst e; exact hg
        · exact hge i (by omega)
      have hj4 := h_lt hge1 hJJ.out
      unfold geB c15 at hg
      have HG := Lib.hid hge1
      clear hge hge1
      go_wp2_with (refine up_ar2 rfl hr1 (is_lit (by decide)) ?_; intro r2 n2 hr2)
      go_roundw
      case rel => exact ⟨j + 1, _, _, by go_num, rfl, hr2, HG.out, rfl⟩
      case measure => simp [intOf]; omega
    | false =>
      have hst : hStop x j := ⟨hge, hg⟩
      obtain rfl := h_uniq hst hJJ.out
      unfold geB c15 at hg
      clear hst hge
      obtain ⟨y, hy⟩ : ∃ y, y = hF x j := ⟨_, rfl⟩
      rw [← hy] at hr1 hro1 hg hKK
      have HYY := Lib.hid hy
      clear hy hJJ hx
      go_wp2
      go_loopw [0, 3] (DRel y j w) (fun _ b _ => (intOf b + 301).toNat)
      case atStart => exact ⟨0, _, _, by rw [Int.natCast_zero, Int.sub_zero], rfl, hr1, fun i hi => absurd hi (by omega), rfl⟩
      case round =>
        clear hro1 hg hr1
        obtain ⟨k, m2, r2, rfl, rfl, hr2, hlt2, rfl⟩ := hrel
        have hro2 := order_is_l hr2
        cases hg : ltB (dF y k) c075 with
        | true =>
          have hge1 : ∀ i, i < k + 1 → ltB (dF y i) c075 = true := fun i hi => by
            by_cases e : i = k
            · subst e; exact hg
            · exact hlt2 i (by omega)
          have hj4 := d_lt hge1 hKK.out
          unfold ltB c075 at hg
          have HG := Lib.hid hge1
          clear hlt2 hge1
          go_wp2_with (refine up_ar2 rfl hr2 (is_lit (by decide)) ?_; intro r3 n3 hr3)
          go_roundw
          case rel => exact ⟨k + 1, _, _, by rw [show (j : Int) - ((k + 1 : Nat) : Int) = (j : Int) - (k : Int) - 1 by omega], rfl, hr3, HG.out, rfl⟩
          case measure => simp [intOf]; omega
        | false =>
          have hst : dStop y k := ⟨hlt2, hg⟩
          obtain rfl := d_uniq hst hKK.out
          unfold ltB c075 at hg
          clear hst hlt2 hKK
          obtain ⟨z, hz⟩ : ∃ z, z = dF y k := ⟨_, rfl⟩
          rw [← hz] at hr2 hro2 hg
          have HZ := Lib.hid hz
          clear hz
          obtain ⟨S, hS⟩ : ∃ S, S = lgS z := ⟨_, rfl⟩
          have HS := Lib.hid hS
          clear hS
          go_wp2_with (first | (refine up_ar2 (op := .quo) rfl (by assumption) (by assumption) ?_; intro rs ns hs; replace hs : Is .f64 rs S := (by rw [HS.out]; exact hs)) | (refine up_ar2 (op := .mul) rfl (by assumption) (by assumption) ?_; intro ru nu hu) | (refine up_ar2 rfl (by first | assumption | exact is_int _ | exact is_lit (by decide)) (by first | assumption | exact is_int _ | exact is_lit (by decide)) ?_; intro r n hr))
          clear hro2 hg hr
          go_loopw [6, 7] (LRel (ar .mul .f64 S S) w) (fun _ i _ => (intOf i + 1).toNat)
          case atStart => exact ⟨0, _, 0, by omega, rfl, rfl, is_lit (by decide), rfl⟩
          case round =>
            obtain ⟨i, n2, r3, hi, rfl, rfl, hp, rfl⟩ := hrel
            by_cases hlt : i < 13
            · go_wp2_with (refine up_ar2 rfl (by first | assumption | exact is_int _ | exact is_lit (by decide)) (by first | assumption | exact is_int _ | exact is_lit (by decide)) ?_; intro r n hr; have hro := order_is_l hr)
              go_roundw
              case rel => exact ⟨i + 1, _, _, by omega, by rw [show (25 : Int) - 2 * ((i + 1 : Nat) : Int) = 25 - 2 * (i : Int) - 2 by omega], rfl, hr, rfl⟩
              case measure => simp [intOf]; omega
            · obtain rfl : i = 13 := by omega
              go_wp2_with (refine up_ar2 rfl (by first | assumption | exact is_int _ | exact is_lit (by decide)) (by first | assumption | exact is_int _ | exact is_lit (by decide)) ?_; intro r n hr; have hro := order_is_l hr)
              go_ret
              exact ⟨_, _, rfl, by rw [← HYY.out, ← HZ.out]; unfold lgF lgQ; rw [← HS.out]; exact hr, rfl⟩
end Go.Proofs.Ythkklilfignmpaa
namespace Go.Proofs.Ythkklilfignmpaa
open Go.RowKit Fl
set_option linter.unusedVariables false
set_option maxRecDepth 100000

theorem narS_log (r c : Nat) (w : World) (h : Is .f64 r c) (hx : naOk c = true) : Calls Try.prog 164 #[.float .f64 r] w (RetF .f32 (na c) w) :=
  (narS_any r w (by rw [naOk_is h]; exact hx)).mono fun e w' ⟨a, n, he, ha, hw⟩ => ⟨a, n, he, by rw [← na_is h]; exact ha, hw⟩
theorem narI_log (r c : Nat) (w : World) (h : Is .f64 r c) (hx : naOk c = true) : Calls Try.prog 162 #[.float .f64 r] w (RetF .f32 (na c) w) :=
  (narI_any r w (by rw [naOk_is h]; exact hx)).mono fun e w' ⟨a, n, he, ha, hw⟩ => ⟨a, n, he, by rw [← na_is h]; exact ha, hw⟩
theorem is_wi_log (x : Nat) : Is .f64 (wi x) (wi x) := ⟨cn_wi x, wi_lt x⟩
/-- The model's: what LogWide answers at each number that is worth x in 64 bits, narrowed. -/
theorem l01Log_of (x c : Nat) (w : World) (hok : naOk c = true) (h : ∀ r w0, Is .f64 r (wi x) → Calls Try.prog 165 #[.float .f64 r] w0 (RetF .f64 c w0)) :
    Calls Try.prog 121 #[.float .f32 x] w (RetF .f32 (na c) w) := by
  go_enter Try.func121, Try.ntmps121
  go_wp2_with (first | (go_at_call 165; refine (h _ _ (by assumption)).mono ?_; rintro e w' ⟨r2, n2, rfl, hr2, rfl⟩) | (go_at_call 164; refine (narS_log _ _ _ hr2 hok).mono ?_; rintro e w' ⟨r3, n3, rfl, hr3, rfl⟩) | (refine up_wide (by rw [Try.underlying23]; rfl) Try.underlying82 ?_; intro r1 n1 hr1))
  go_ret
  exact ⟨_, _, rfl, hr3, rfl⟩
theorem neq_of_is {r c : Nat} (h : Is .f64 r c) : (FloatKind.f64.format.order r r != some .eq) = isN .f64 c := by rw [neq_self]; exact isN_of_is h

theorem logS_nan (x : Nat) (w : World) (h : isN .f32 x = true) : Calls Try.prog 121 #[.float .f32 x] w (RetF .f32 (qn .f32) w) := by
  rw [← na_qn]
  exact l01Log_of x _ w naOk_qn fun r w0 hr => lgS_nan r w0 (by rw [neq_of_is hr, isN_wi]; exact h)
theorem logS_neg (x : Nat) (w : World) (h : FloatKind.f32.format.order x 0 = some .lt) (hn : isN .f32 x = false) : Calls Try.prog 121 #[.float .f32 x] w (RetF .f32 (qn .f32) w) := by
  rw [← na_qn]
  exact l01Log_of x _ w naOk_qn fun r w0 hr => lgS_neg r w0 (by rw [neq_of_is hr, isN_wi]; exact hn) (by rw [order_is_l hr, order_wi0, h]; rfl)
theorem logS_zero (x : Nat) (w : World) (h : FloatKind.f32.format.order x 0 = some .eq) (hn : isN .f32 x = false) : Calls Try.prog 121 #[.float .f32 x] w (RetF .f32 4286578688 w) := by
  rw [← na_ninf.1]
  exact l01Log_of x _ w na_ninf.2 fun r w0 hr => lgS_zero r w0 (by rw [neq_of_is hr, isN_wi]; exact hn) (by rw [order_is_l hr, order_wi0, h]; rfl) (by rw [order_is_l hr, order_wi0, h]; rfl)
theorem logS_inf (w : World) : Calls Try.prog 121 #[.float .f32 2139095040] w (RetF .f32 2139095040 w) := by
  have h0 := na_pinf.1
  have hA : Calls Try.prog 121 #[.float .f32 2139095040] w (RetF .f32 (na 9218868437227405312) w) :=
    l01Log_of 2139095040 _ w na_pinf.2 fun r w0 hr => by
      rw [wi_pinf] at hr
      obtain rfl := is_eq hr (by decide)
      exact lgS_inf _ w0 hr (by decide) (by decide) (by decide) (by decide)
  rw [h0] at hA
  exact hA
theorem logS_pos (x m : Nat) (e : Int) (w : World) (h : Nrm (wi x) m e) (h2 : e ≤ 150) (J K : Nat) (hJ : hStop (wi x) J) (hK : dStop (hF (wi x) J) K) (hJ3 : J ≤ 300) (hK3 : K ≤ 300)
    (hok : naOk (lgF (dF (hF (wi x) J) K) ((J : Int) - (K : Int))) = true) :
    Calls Try.prog 121 #[.float .f32 x] w (RetF .f32 (na (lgF (dF (hF (wi x) J) K) ((J : Int) - (K : Int)))) w) :=
  l01Log_of x _ w hok fun r w0 hr => by
    obtain rfl := is_eq hr (nrm_nan h)
    exact lgS_any _ w0 hr (by rw [neq_self]; exact nrm_nan h) (by rw [nrm_zero h]; rfl) (by rw [nrm_zero h]; rfl) (by rw [nrm_max h (by omega)]; rfl) J K hJ hK hJ3 hK3

/-! ### the program's -/
theorem logI_no (x : Nat) (w : World) (h1 : (FloatKind.f32.format.order x 0 == some .eq) = false) (h2 : (FloatKind.f32.format.order x 0 == some .gt) = false) : Calls Try.prog 123 #[.float .f32 x] w (RetF .f32 (qn .f32) w) := by
  go_enter Try.func123, Try.ntmps123
  go_wp2_with (go_at_call 168; refine (notNum_any _).mono ?_; rintro e w' ⟨r, n, rfl, hr, rfl⟩)
  go_ret
  exact ⟨_, _, rfl, hr, rfl⟩
theorem logI_zero (x : Nat) (w : World) (h1 : (FloatKind.f32.format.order x 0 == some .eq) = true) : Calls Try.prog 123 #[.float .f32 x] w (RetF .f32 4286578688 w) := by
  go_enter Try.func123, Try.ntmps123
  go_wp2_with (first | (go_at_call 166; refine (ninf_any _).mono ?_; rintro e w' ⟨rfl, rfl⟩) | (refine up_narrow (by rw [Try.underlying82]; rfl) Try.underlying23 na_ninf.2 ?_; intro r n hr))
  go_ret
  exact ⟨_, _, rfl, by rw [← na_ninf.1]; exact hr, rfl⟩
theorem logI_inf (w : World) : Calls Try.prog 123 #[.float .f32 2139095040] w (RetF .f32 2139095040 w) := by
  have h1 : (FloatKind.f32.format.order 2139095040 0 == some .eq) = false := by decide
  have h2 : (FloatKind.f32.format.order 2139095040 0 == some .gt) = true := by decide
  have hf : finB .f32 2139095040 = false := by decide
  have HF := Lib.hid hf
  clear hf
  go_enter Try.func123, Try.ntmps123
  go_wp2_with (go_at_call 124; refine (implFin_any _ _ (by decide)).mono ?_; rintro e w' ⟨rfl, n, rfl⟩; rw [HF.out])
  go_ret
  exact ⟨_, _, rfl, is_lit (by decide), rfl⟩
theorem logI_pos (x : Nat) (w : World) (hx : x < 2 ^ 32) (h1 : (FloatKind.f32.format.order x 0 == some .eq) = false) (h2 : (FloatKind.f32.format.order x 0 == some .gt) = true) (hf : finB .f32 x = true) (hn : isN .f64 (wi x) = false)
    (J K : Nat) (hJ : hStop (wi x) J) (hK : dStop (hF (wi x) J) K) (hJ3 : J ≤ 300) (hK3 : K ≤ 300) (hok : naOk (lgF (dF (hF (wi x) J) K) ((J : Int) - (K : Int))) = true) :
    Calls Try.prog 123 #[.float .f32 x] w (RetF .f32 (na (lgF (dF (hF (wi x) J) K) ((J : Int) - (K : Int)))) w) := by
  have HF := Lib.hid hf
  have HC := Lib.hid (fun w0 => natLog_any (wi x) w0 (is_wi_log x) J K hJ hK hJ3 hK3)
  have HK := Lib.hid hok
  have HN := Lib.hid hn
  clear hf hok hJ hK hn
  go_enter Try.func123, Try.ntmps123
  go_wp2_with (first | (go_at_call 124; refine (implFin_any _ _ hx).mono ?_; rintro e w' ⟨rfl, n, rfl⟩; rw [HF.out]) | (go_at_call 167; refine (HC.out _).mono ?_; rintro e w' ⟨r2, n2, rfl, hr2, rfl⟩) | (go_at_call 162; refine (narI_log _ _ _ hr2 HK.out).mono ?_; rintro e w' ⟨r3, n3, rfl, hr3, rfl⟩) | (refine up_wide (by rw [Try.underlying23]; rfl) Try.underlying82 ?_; intro r1 n1 hr1; obtain rfl := is_eq hr1 HN.out))
  go_ret
  exact ⟨_, _, rfl, hr3, rfl⟩
end Go.Proofs.Ythkklilfignmpaa
namespace Go.Proofs.Ythkklilfignmpaa
open Go.RowKit Fl
set_option linter.unusedVariables false
def rtF (c : Nat) : Nat := na (sq (wi c))
theorem wi_is {r c : Nat} (h : Is .f32 r c) : wi r = wi c := by rw [← wi_cn r, h.1]
theorem rtS_any (r c : Nat) (w : World) (h : Is .f32 r c) : Calls Try.prog 158 #[.float .f32 r] w (RetF .f32 (rtF c) w) := by
  refine (rootS_any r w).mono ?_
  rintro e w' ⟨s, n, rfl, hs, rfl⟩
  exact ⟨_, _, rfl, by unfold rtF; rw [← wi_is h]; exact hs, rfl⟩
theorem rtI_any (r c : Nat) (w : World) (h : Is .f32 r c) : Calls Try.prog 119 #[.float .f32 r] w (RetF .f32 (rtF c) w) := by
  refine (rootI_any r w).mono ?_
  rintro e w' ⟨s, n, rfl, hs, rfl⟩
  exact ⟨_, _, rfl, by unfold rtF; rw [← wi_is h]; exact hs, rfl⟩
end Go.Proofs.Ythkklilfignmpaa
namespace Go.Proofs.Ythkklilfignmpaa
open Go.RowKit Fl
set_option linter.unusedVariables false
set_option maxRecDepth 100000

/-- There is one number that both sides tell as the logarithm of a number. -/
theorem log_both (x : Nat) (hx : x < 2 ^ 32) : ∃ d, (∀ w, Calls Try.prog 121 #[.float .f32 x] w (RetF .f32 d w)) ∧ (∀ w, Calls Try.prog 123 #[.float .f32 x] w (RetF .f32 d w)) := by
  have hnum : ∀ o, FloatKind.f32.format.order x 0 = some o → isN .f32 x = false := by
    intro o ho
    cases hn : isN .f32 x with
    | false => rfl
    | true => rw [order_nan_l hn] at ho; cases ho
  rcases log_cases x hx with h | h | h | h | ⟨h, hf, m, e0, hm, he1, he2⟩
  · exact ⟨_, fun w => logS_nan x w h, fun w => logI_no x w (by rw [order_nan_l h]; rfl) (by rw [order_nan_l h]; rfl)⟩
  · exact ⟨_, fun w => logS_neg x w h (hnum _ h), fun w => logI_no x w (by rw [h]; rfl) (by rw [h]; rfl)⟩
  · exact ⟨_, fun w => logS_zero x w h (hnum _ h), fun w => logI_zero x w (by rw [h]; rfl)⟩
  · subst h
    exact ⟨_, fun w => logS_inf w, fun w => logI_inf w⟩
  · obtain ⟨J, K, hJ, hK, hJ3, hK3, e1, hz, hz1, hz2⟩ := log_steps hm he1 he2
    have hb := lgF_bd (n := (J : Int) - (K : Int)) hz hz2 hz1 (by omega)
    have HK := (Bd.naOk hb (by decide) (by decide)).1
    exact ⟨_, fun w => logS_pos x m e0 w hm he2 J K hJ hK hJ3 hK3 HK, fun w => logI_pos x w hx (by rw [h]; rfl) (by rw [h]; rfl) hf (nrm_nan hm) J K hJ hK hJ3 hK3 HK⟩
/-- The same for all numbers that are worth one, a not-a-number among them. -/
theorem log_is (c : Nat) (hc : ∃ r, Is .f32 r c) : ∃ d, ∀ r, Is .f32 r c → (∀ w, Calls Try.prog 121 #[.float .f32 r] w (RetF .f32 d w)) ∧ (∀ w, Calls Try.prog 123 #[.float .f32 r] w (RetF .f32 d w)) := by
  obtain ⟨r0, hr0⟩ := hc
  cases hn : isN .f32 r0 with
  | true =>
    have hcn : isN .f32 c = true := by rw [← isN_of_is hr0]; exact hn
    refine ⟨qn .f32, fun r hr => ?_⟩
    have h : isN .f32 r = true := by rw [isN_of_is hr]; exact hcn
    exact ⟨fun w => logS_nan r w h, fun w => logI_no r w (by rw [order_nan_l h]; rfl) (by rw [order_nan_l h]; rfl)⟩
  | false =>
    have hcn : isN .f32 c = false := by rw [← isN_of_is hr0]; exact hn
    have e0 := is_eq hr0 hcn
    obtain ⟨d, h1, h2⟩ := log_both r0 hr0.2
    refine ⟨d, fun r hr => ?_⟩
    have e1 := is_eq hr hcn
    rw [e1, ← e0]
    exact ⟨h1, h2⟩
end Go.Proofs.Ythkklilfignmpaa
