/-
  Contracts: LogNumber of both sides, at each kind of number.
-/
import Derived.Test.YtpckljkhmaghmaaLogS
namespace Go.Proofs.Ytpckljkhmaghmaa
open Go.RowKit Fl
set_option linter.unusedVariables false

theorem narS_log (r c : Nat) (w : World) (h : Is .f64 r c) (hx : naOk c = true) : Calls Try.prog 89 #[.float .f64 r] w (RetF .f32 (na c) w) :=
  (narS_any r w (by rw [naOk_is h]; exact hx)).mono fun e w' ⟨a, n, he, ha, hw⟩ => ⟨a, n, he, by rw [← na_is h]; exact ha, hw⟩
theorem narI_log (r c : Nat) (w : World) (h : Is .f64 r c) (hx : naOk c = true) : Calls Try.prog 92 #[.float .f64 r] w (RetF .f32 (na c) w) :=
  (narI_any r w (by rw [naOk_is h]; exact hx)).mono fun e w' ⟨a, n, he, ha, hw⟩ => ⟨a, n, he, by rw [← na_is h]; exact ha, hw⟩
theorem is_wi_log (x : Nat) : Is .f64 (wi x) (wi x) := ⟨cn_wi x, wi_lt x⟩
/-- The model's: what LogWide answers at each number that is worth x in 64 bits, narrowed. -/
theorem l01Log_of (x c : Nat) (w : World) (hok : naOk c = true) (h : ∀ r w0, Is .f64 r (wi x) → Calls Try.prog 91 #[.float .f64 r] w0 (RetF .f64 c w0)) :
    Calls Try.prog 59 #[.float .f32 x] w (RetF .f32 (na c) w) := by
  go_enter Try.func59, Try.ntmps59
  go_wp2_with (first | (go_at_call 91; refine (h _ _ (by assumption)).mono ?_; rintro e w' ⟨r2, n2, rfl, hr2, rfl⟩) | (go_at_call 89; refine (narS_log _ _ _ hr2 hok).mono ?_; rintro e w' ⟨r3, n3, rfl, hr3, rfl⟩) | (refine up_wide (by rw [Try.underlying22]; rfl) Try.underlying26 ?_; intro r1 n1 hr1))
  go_ret
  exact ⟨_, _, rfl, hr3, rfl⟩
theorem neq_of_is {r c : Nat} (h : Is .f64 r c) : (FloatKind.f64.format.order r r != some .eq) = isN .f64 c := by rw [neq_self]; exact isN_of_is h

theorem logS_nan (x : Nat) (w : World) (h : isN .f32 x = true) : Calls Try.prog 59 #[.float .f32 x] w (RetF .f32 (qn .f32) w) := by
  rw [← na_qn]
  exact l01Log_of x _ w naOk_qn fun r w0 hr => lgS_nan r w0 (by rw [neq_of_is hr, isN_wi]; exact h)
theorem logS_neg (x : Nat) (w : World) (h : FloatKind.f32.format.order x 0 = some .lt) (hn : isN .f32 x = false) : Calls Try.prog 59 #[.float .f32 x] w (RetF .f32 (qn .f32) w) := by
  rw [← na_qn]
  exact l01Log_of x _ w naOk_qn fun r w0 hr => lgS_neg r w0 (by rw [neq_of_is hr, isN_wi]; exact hn) (by rw [order_is_l hr, order_wi0, h]; rfl)
theorem logS_zero (x : Nat) (w : World) (h : FloatKind.f32.format.order x 0 = some .eq) (hn : isN .f32 x = false) : Calls Try.prog 59 #[.float .f32 x] w (RetF .f32 4286578688 w) := by
  rw [← na_ninf.1]
  exact l01Log_of x _ w na_ninf.2 fun r w0 hr => lgS_zero r w0 (by rw [neq_of_is hr, isN_wi]; exact hn) (by rw [order_is_l hr, order_wi0, h]; rfl) (by rw [order_is_l hr, order_wi0, h]; rfl)
theorem logS_inf (w : World) : Calls Try.prog 59 #[.float .f32 2139095040] w (RetF .f32 2139095040 w) := by
  have h0 := na_pinf.1
  have hA : Calls Try.prog 59 #[.float .f32 2139095040] w (RetF .f32 (na 9218868437227405312) w) :=
    l01Log_of 2139095040 _ w na_pinf.2 fun r w0 hr => by
      rw [wi_pinf] at hr
      obtain rfl := is_eq hr (by decide)
      exact lgS_inf _ w0 hr (by decide) (by decide) (by decide) (by decide)
  rw [h0] at hA
  exact hA
theorem logS_pos (x m : Nat) (e : Int) (w : World) (h : Nrm (wi x) m e) (h2 : e ≤ 150) (J K : Nat) (hJ : hStop (wi x) J) (hK : dStop (hF (wi x) J) K) (hJ3 : J ≤ 300) (hK3 : K ≤ 300)
    (hok : naOk (lgF (dF (hF (wi x) J) K) ((J : Int) - (K : Int))) = true) :
    Calls Try.prog 59 #[.float .f32 x] w (RetF .f32 (na (lgF (dF (hF (wi x) J) K) ((J : Int) - (K : Int)))) w) :=
  l01Log_of x _ w hok fun r w0 hr => by
    obtain rfl := is_eq hr (nrm_nan h)
    exact lgS_any _ w0 hr (by rw [neq_self]; exact nrm_nan h) (by rw [nrm_zero h]; rfl) (by rw [nrm_zero h]; rfl) (by rw [nrm_max h (by omega)]; rfl) J K hJ hK hJ3 hK3

/-! ### the program's -/
theorem logI_no (x : Nat) (w : World) (h1 : (FloatKind.f32.format.order x 0 == some .eq) = false) (h2 : (FloatKind.f32.format.order x 0 == some .gt) = false) : Calls Try.prog 63 #[.float .f32 x] w (RetF .f32 (qn .f32) w) := by
  go_enter Try.func63, Try.ntmps63
  go_wp2_with (go_at_call 95; refine (notNum_any _).mono ?_; rintro e w' ⟨r, n, rfl, hr, rfl⟩)
  go_ret
  exact ⟨_, _, rfl, hr, rfl⟩
theorem logI_zero (x : Nat) (w : World) (h1 : (FloatKind.f32.format.order x 0 == some .eq) = true) : Calls Try.prog 63 #[.float .f32 x] w (RetF .f32 4286578688 w) := by
  go_enter Try.func63, Try.ntmps63
  go_wp2_with (first | (go_at_call 93; refine (ninf_any _).mono ?_; rintro e w' ⟨rfl, rfl⟩) | (refine up_narrow (by rw [Try.underlying26]; rfl) Try.underlying22 na_ninf.2 ?_; intro r n hr))
  go_ret
  exact ⟨_, _, rfl, by rw [← na_ninf.1]; exact hr, rfl⟩
theorem logI_inf (w : World) : Calls Try.prog 63 #[.float .f32 2139095040] w (RetF .f32 2139095040 w) := by
  have h1 : (FloatKind.f32.format.order 2139095040 0 == some .eq) = false := by decide
  have h2 : (FloatKind.f32.format.order 2139095040 0 == some .gt) = true := by decide
  have hf : finB .f32 2139095040 = false := by decide
  have HF := Lib.hid hf
  clear hf
  go_enter Try.func63, Try.ntmps63
  go_wp2_with (go_at_call 76; refine (implFin_any _ _ (by decide)).mono ?_; rintro e w' ⟨rfl, n, rfl⟩; rw [HF.out])
  go_ret
  exact ⟨_, _, rfl, is_lit (by decide), rfl⟩
theorem logI_pos (x : Nat) (w : World) (hx : x < 2 ^ 32) (h1 : (FloatKind.f32.format.order x 0 == some .eq) = false) (h2 : (FloatKind.f32.format.order x 0 == some .gt) = true) (hf : finB .f32 x = true) (hn : isN .f64 (wi x) = false)
    (J K : Nat) (hJ : hStop (wi x) J) (hK : dStop (hF (wi x) J) K) (hJ3 : J ≤ 300) (hK3 : K ≤ 300) (hok : naOk (lgF (dF (hF (wi x) J) K) ((J : Int) - (K : Int))) = true) :
    Calls Try.prog 63 #[.float .f32 x] w (RetF .f32 (na (lgF (dF (hF (wi x) J) K) ((J : Int) - (K : Int)))) w) := by
  have HF := Lib.hid hf
  have HC := Lib.hid (fun w0 => natLog_any (wi x) w0 (is_wi_log x) J K hJ hK hJ3 hK3)
  have HK := Lib.hid hok
  have HN := Lib.hid hn
  clear hf hok hJ hK hn
  go_enter Try.func63, Try.ntmps63
  go_wp2_with (first | (go_at_call 76; refine (implFin_any _ _ hx).mono ?_; rintro e w' ⟨rfl, n, rfl⟩; rw [HF.out]) | (go_at_call 94; refine (HC.out _).mono ?_; rintro e w' ⟨r2, n2, rfl, hr2, rfl⟩) | (go_at_call 92; refine (narI_log _ _ _ hr2 HK.out).mono ?_; rintro e w' ⟨r3, n3, rfl, hr3, rfl⟩) | (refine up_wide (by rw [Try.underlying22]; rfl) Try.underlying26 ?_; intro r1 n1 hr1; obtain rfl := is_eq hr1 HN.out))
  go_ret
  exact ⟨_, _, rfl, hr3, rfl⟩
end Go.Proofs.Ytpckljkhmaghmaa
