/-
  Contracts: logarithms and roots of a number, of both sides at once.
-/
import Derived.Test.YtpckljkhmaghmaaLogT
import Derived.Test.YtpckljkhmaghmaaRoot
import Derived.Test.YtpckljkhmaghmaaFloShr
namespace Go.Proofs.Ytpckljkhmaghmaa
open Go.RowKit Fl
set_option linter.unusedVariables false

/-- There is one number that both sides tell as the logarithm of a number. -/
theorem log_both (x : Nat) (hx : x < 2 ^ 32) : ∃ d, (∀ w, Calls Try.prog 59 #[.float .f32 x] w (RetF .f32 d w)) ∧ (∀ w, Calls Try.prog 63 #[.float .f32 x] w (RetF .f32 d w)) := by
  have hnum : ∀ o, FloatKind.f32.format.order x 0 = some o → isN .f32 x = false := by
    intro o ho
    cases hn : isN .f32 x with
    | false => rfl
    | true => rw [order_nan_l hn] at ho; cases ho
  rcases log_cases x hx with h | h | h | h | ⟨h, hf, m, e0, hm, he1, he2⟩
  · exact ⟨_, fun w => logS_nan x w h, fun w => logI_no x w (by rw [order_nan_l h]; rfl) (by rw [order_nan_l h]; rfl)⟩
  · exact ⟨_, fun w => logS_neg x w h (hnum _ h), fun w => logI_no x w (by rw [h]; rfl) (by rw [h]; rfl)⟩
  · exact ⟨_, fun w => logS_zero x w h (hnum _ h), fun w => logI_zero x w (by rw [h]; rfl)⟩
  · subst h
    exact ⟨_, fun w => logS_inf w, fun w => logI_inf w⟩
  · obtain ⟨J, K, hJ, hK, hJ3, hK3, e1, hz, hz1, hz2⟩ := log_steps hm he1 he2
    have hb := lgF_bd (n := (J : Int) - (K : Int)) hz hz2 hz1 (by omega)
    have HK := (Bd.naOk hb (by decide) (by decide)).1
    exact ⟨_, fun w => logS_pos x m e0 w hm he2 J K hJ hK hJ3 hK3 HK, fun w => logI_pos x w hx (by rw [h]; rfl) (by rw [h]; rfl) hf (nrm_nan hm) J K hJ hK hJ3 hK3 HK⟩
/-- The same for all numbers that are worth one, a not-a-number among them. -/
theorem log_is (c : Nat) (hc : ∃ r, Is .f32 r c) : ∃ d, ∀ r, Is .f32 r c → (∀ w, Calls Try.prog 59 #[.float .f32 r] w (RetF .f32 d w)) ∧ (∀ w, Calls Try.prog 63 #[.float .f32 r] w (RetF .f32 d w)) := by
  obtain ⟨r0, hr0⟩ := hc
  cases hn : isN .f32 r0 with
  | true =>
    have hcn : isN .f32 c = true := by rw [← isN_of_is hr0]; exact hn
    refine ⟨qn .f32, fun r hr => ?_⟩
    have h : isN .f32 r = true := by rw [isN_of_is hr]; exact hcn
    exact ⟨fun w => logS_nan r w h, fun w => logI_no r w (by rw [order_nan_l h]; rfl) (by rw [order_nan_l h]; rfl)⟩
  | false =>
    have hcn : isN .f32 c = false := by rw [← isN_of_is hr0]; exact hn
    have e0 := is_eq hr0 hcn
    obtain ⟨d, h1, h2⟩ := log_both r0 hr0.2
    refine ⟨d, fun r hr => ?_⟩
    have e1 := is_eq hr hcn
    rw [e1, ← e0]
    exact ⟨h1, h2⟩
def rtF (c : Nat) : Nat := na (sq (wi c))
theorem wi_is {r c : Nat} (h : Is .f32 r c) : wi r = wi c := by rw [← wi_cn r, h.1]
theorem rtS_any (r c : Nat) (w : World) (h : Is .f32 r c) : Calls Try.prog 58 #[.float .f32 r] w (RetF .f32 (rtF c) w) := by
  refine (rootS_any r w).mono ?_
  rintro e w' ⟨s, n, rfl, hs, rfl⟩
  exact ⟨_, _, rfl, by unfold rtF; rw [← wi_is h]; exact hs, rfl⟩
theorem rtI_any (r c : Nat) (w : World) (h : Is .f32 r c) : Calls Try.prog 62 #[.float .f32 r] w (RetF .f32 (rtF c) w) := by
  refine (rootI_any r w).mono ?_
  rintro e w' ⟨s, n, rfl, hs, rfl⟩
  exact ⟨_, _, rfl, by unfold rtF; rw [← wi_is h]; exact hs, rfl⟩
end Go.Proofs.Ytpckljkhmaghmaa
