/-
  Contracts: the logarithm of both sides, in 64 bits.
-/
import Derived.Test.YtpckljkhmaghmaaNan
import Derived.Test.YtpckljkhmaghmaaFloLog
import Derived.Deep.RegionWith
namespace Go.Proofs.Ytpckljkhmaghmaa
open Go.RowKit Fl
set_option linter.unusedVariables false

theorem h_uniq {x j k : Nat} (h1 : hStop x j) (h2 : hStop x k) : j = k := by
  rcases Nat.lt_trichotomy j k with h | h | h
  · have := h2.1 j h; rw [h1.2] at this; cases this
  · exact h
  · have := h1.1 k h; rw [h2.2] at this; cases this
theorem h_lt {x j k : Nat} (h1 : ∀ i, i < j + 1 → geB (hF x i) c15 = true) (h2 : hStop x k) : j < k := by
  refine Nat.lt_of_not_le fun h => ?_
  have := h1 k (by omega); rw [h2.2] at this; cases this
theorem d_uniq {x j k : Nat} (h1 : dStop x j) (h2 : dStop x k) : j = k := by
  rcases Nat.lt_trichotomy j k with h | h | h
  · have := h2.1 j h; rw [h1.2] at this; cases this
  · exact h
  · have := h1.1 k h; rw [h2.2] at this; cases this
theorem d_lt {x j k : Nat} (h1 : ∀ i, i < j + 1 → ltB (dF x i) c075 = true) (h2 : dStop x k) : j < k := by
  refine Nat.lt_of_not_le fun h => ?_
  have := h1 k (by omega); rw [h2.2] at this; cases this
/-- The three loops. -/
def HRel (x : Nat) (w : World) (a b : Value) (wr : World) : Prop := ∃ j n r : Nat, b = .int .i64 j ∧ a = .float .f64 r ∧ Is .f64 r (hF x j) ∧ (∀ i, i < j → geB (hF x i) c15 = true) ∧ wr = w.drewN n
def DRel (x J : Nat) (w : World) (a b : Value) (wr : World) : Prop := ∃ j n r : Nat, b = .int .i64 ((J : Int) - (j : Int)) ∧ a = .float .f64 r ∧ Is .f64 r (dF x j) ∧ (∀ i, i < j → ltB (dF x i) c075 = true) ∧ wr = w.drewN n
def LRel (u : Nat) (w : World) (p i : Value) (wr : World) : Prop := ∃ j n r : Nat, j ≤ 13 ∧ i = .int .i64 (25 - 2 * (j : Int)) ∧ p = .float .f64 r ∧ Is .f64 r (polL u j) ∧ wr = w.drewN n

set_option maxHeartbeats 4000000 in
theorem natLog_any (x : Nat) (w : World) (hx : Is .f64 x x) (J K : Nat) (hJ : hStop x J) (hK : dStop (hF x J) K) (hJ3 : J ≤ 300) (hK3 : K ≤ 300) :
    Calls Try.prog 94 #[.float .f64 x] w (RetF .f64 (lgF (dF (hF x J) K) ((J : Int) - (K : Int))) w) := by
  have hJJ := Lib.hid hJ
  have hKK := Lib.hid hK
  clear hJ hK
  go_enter Try.func94, Try.ntmps94
  go_wp2
  go_loopw [0, 3] (HRel x w) (fun _ b _ => 301 - (intOf b).toNat)
  case atStart => exact ⟨0, 0, _, rfl, rfl, hx, fun i hi => absurd hi (by omega), rfl⟩
  case round =>
    obtain ⟨j, m, r1, rfl, rfl, hr1, hge, rfl⟩ := hrel
    have hro1 := order_is_l hr1
    cases hg : geB (hF x j) c15 with
    | true =>
      have hge1 : ∀ i, i < j + 1 → geB (hF x i) c15 = true := fun i hi => by
        by_cases e : i = j
        · subst e; exact hg
        · exact hge i (by omega)
      have hj4 := h_lt hge1 hJJ.out
      unfold geB c15 at hg
      have HG := Lib.hid hge1
      clear hge hge1
      go_wp2_with (refine up_ar2 rfl hr1 (is_lit (by decide)) ?_; intro r2 n2 hr2)
      go_roundw
      case rel => exact ⟨j + 1, _, _, by go_num, rfl, hr2, HG.out, rfl⟩
      case measure => simp [intOf]; omega
    | false =>
      have hst : hStop x j := ⟨hge, hg⟩
      obtain rfl := h_uniq hst hJJ.out
      unfold geB c15 at hg
      clear hst hge
      obtain ⟨y, hy⟩ : ∃ y, y = hF x j := ⟨_, rfl⟩
      rw [← hy] at hr1 hro1 hg hKK
      have HYY := Lib.hid hy
      clear hy hJJ hx
      go_wp2
      go_loopw [0, 3] (DRel y j w) (fun _ b _ => (intOf b + 301).toNat)
      case atStart => exact ⟨0, _, _, by rw [Int.natCast_zero, Int.sub_zero], rfl, hr1, fun i hi => absurd hi (by omega), rfl⟩
      case round =>
        clear hro1 hg hr1
        obtain ⟨k, m2, r2, rfl, rfl, hr2, hlt2, rfl⟩ := hrel
        have hro2 := order_is_l hr2
        cases hg : ltB (dF y k) c075 with
        | true =>
          have hge1 : ∀ i, i < k + 1 → ltB (dF y i) c075 = true := fun i hi => by
            by_cases e : i = k
            · subst e; exact hg
            · exact hlt2 i (by omega)
          have hj4 := d_lt hge1 hKK.out
          unfold ltB c075 at hg
          have HG := Lib.hid hge1
          clear hlt2 hge1
          go_wp2_with (refine up_ar2 rfl hr2 (is_lit (by decide)) ?_; intro r3 n3 hr3)
          go_roundw
          case rel => exact ⟨k + 1, _, _, by rw [show (j : Int) - ((k + 1 : Nat) : Int) = (j : Int) - (k : Int) - 1 by omega], rfl, hr3, HG.out, rfl⟩
          case measure => simp [intOf]; omega
        | false =>
          have hst : dStop y k := ⟨hlt2, hg⟩
          obtain rfl := d_uniq hst hKK.out
          unfold ltB c075 at hg
          clear hst hlt2 hKK
          obtain ⟨z, hz⟩ : ∃ z, z = dF y k := ⟨_, rfl⟩
          rw [← hz] at hr2 hro2 hg
          have HZ := Lib.hid hz
          clear hz
          obtain ⟨S, hS⟩ : ∃ S, S = lgS z := ⟨_, rfl⟩
          have HS := Lib.hid hS
          clear hS
          go_wp2_with (first | (refine up_ar2 (op := .quo) rfl (by assumption) (by assumption) ?_; intro rs ns hs; replace hs : Is .f64 rs S := (by rw [HS.out]; exact hs)) | (refine up_ar2 (op := .mul) rfl (by assumption) (by assumption) ?_; intro ru nu hu) | (refine up_ar2 rfl (by first | assumption | exact is_int _ | exact is_lit (by decide)) (by first | assumption | exact is_int _ | exact is_lit (by decide)) ?_; intro r n hr))
          clear hro2 hg hr
          go_loopw [6, 7] (LRel (ar .mul .f64 S S) w) (fun _ i _ => (intOf i + 1).toNat)
          case atStart => exact ⟨0, _, 0, by omega, rfl, rfl, is_lit (by decide), rfl⟩
          case round =>
            obtain ⟨i, n2, r3, hi, rfl, rfl, hp, rfl⟩ := hrel
            by_cases hlt : i < 13
            · go_wp2_with (refine up_ar2 rfl (by first | assumption | exact is_int _ | exact is_lit (by decide)) (by first | assumption | exact is_int _ | exact is_lit (by decide)) ?_; intro r n hr; have hro := order_is_l hr)
              go_roundw
              case rel => exact ⟨i + 1, _, _, by omega, by rw [show (25 : Int) - 2 * ((i + 1 : Nat) : Int) = 25 - 2 * (i : Int) - 2 by omega], rfl, hr, rfl⟩
              case measure => simp [intOf]; omega
            · obtain rfl : i = 13 := by omega
              go_wp2_with (refine up_ar2 rfl (by first | assumption | exact is_int _ | exact is_lit (by decide)) (by first | assumption | exact is_int _ | exact is_lit (by decide)) ?_; intro r n hr; have hro := order_is_l hr)
              go_ret
              exact ⟨_, _, rfl, by rw [← HYY.out, ← HZ.out]; unfold lgF lgQ; rw [← HS.out]; exact hr, rfl⟩
end Go.Proofs.Ytpckljkhmaghmaa
