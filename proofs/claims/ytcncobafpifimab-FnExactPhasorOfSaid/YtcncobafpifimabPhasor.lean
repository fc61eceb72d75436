/-
  Contracts: PhasorOf of both sides.
-/
import Derived.Test.YtcncobafpifimabSineT
import Derived.Test.YtcncobafpifimabFloQuart
namespace Go.Proofs.Ytcncobafpifimab
open Go.RowKit Fl
set_option linter.unusedVariables false

theorem narS_is (r c : Nat) (w : World) (h : Is .f64 r c) (hx : naOk c = true) : Calls Try.prog 48 #[.float .f64 r] w (RetF .f32 (na c) w) :=
  (narS_any r w (naok_of h hx)).mono fun e w' ⟨a, n, he, ha, hw⟩ => ⟨a, n, he, by rw [← na_is h]; exact ha, hw⟩
theorem narI_is (r c : Nat) (w : World) (h : Is .f64 r c) (hx : naOk c = true) : Calls Try.prog 27 #[.float .f64 r] w (RetF .f32 (na c) w) :=
  (narI_any r w (naok_of h hx)).mono fun e w' ⟨a, n, he, ha, hw⟩ => ⟨a, n, he, by rw [← na_is h]; exact ha, hw⟩

/-- Returns a complex number that is worth c and d. -/
def RetC (k : FloatKind) (c d : Nat) (w : World) (e : Ending) (w' : World) : Prop := ∃ a b n, e = .returned (.complex k a b) ∧ Is k a c ∧ Is k b d ∧ w' = w.drewN n
/-- The loop that takes quarters away. -/
def QRel (f : Nat) (w : World) (a b : Value) (wr : World) : Prop := ∃ j n r : Nat, b = .int .i64 j ∧ a = .float .f64 r ∧ Is .f64 r (qF f j) ∧ (∀ i, i < j → geB (qF f i) quarter = true) ∧ wr = w.drewN n

theorem row_from (n : Int) (w : World) : (callFunc 62 #[.int .u32 n]).run Try.prog w = .ok (.value (.float .f32 n.toNat)) w := by
  rw [run_callFunc_extern Try.func62 rfl rfl rfl rfl]; rfl
theorem l01From_any (n : Int) (w : World) (h0 : 0 ≤ n) (h1 : n ≤ 4294967295) : Calls Try.prog 50 #[.int .i64 n] w fun e w' => e = .returned (.float .f32 n.toNat) ∧ w = w' := by
  have h := row_from
  go_enter Try.func50, Try.ntmps50
  go_wp2_with fail
  go_ret
  exact ⟨rfl, rfl⟩

theorem phS_nan (y c : Nat) (w : World) (hy : Is .f64 y c) (hf : finB .f64 c = false) : Calls Try.prog 29 #[.float .f64 y] w (RetC .f32 (qn .f32) (qn .f32) w) := by
  have h0 := inf_sub hf
  go_enter Try.func29, Try.ntmps29
  go_wp2_with (first | (go_at_call 50; refine (l01From_any _ _ (by decide) (by decide)).mono ?_; rintro e w' ⟨rfl, rfl⟩) | (refine up_ar2 rfl (by assumption) (by assumption) ?_; intro r n hr; have hro := order_is_l hr))
  go_ret
  exact ⟨_, _, _, rfl, is_qn, is_qn, rfl⟩
theorem phS_big (y : Nat) (w : World) (hy : Is .f64 y y) (hf : finB .f64 y = true) (hb : bigB y = true) : Calls Try.prog 29 #[.float .f64 y] w (RetC .f32 1065353216 0 w) := by
  have h0 := fin_sub hf
  have h2 := big_two y
  rw [hb] at h2
  clear hb
  cases h3 : (FloatKind.f64.format.order y 4841369599423283200 == some .gt || FloatKind.f64.format.order y 4841369599423283200 == some .eq)
  · have h4 : (FloatKind.f64.format.order y 14064741636278059008 == some .lt || FloatKind.f64.format.order y 14064741636278059008 == some .eq) = true := by
      have h3' : (Ieee.double.order y 4841369599423283200 == some .gt || Ieee.double.order y 4841369599423283200 == some .eq) = false := h3
      rw [h3', Bool.false_or] at h2
      exact h2
    clear h2
    go_enter Try.func29, Try.ntmps29
    go_wp2_with (refine up_ar2 rfl (by assumption) (by assumption) ?_; intro r n hr; have hro := order_is_l hr)
    go_ret
    exact ⟨_, _, _, rfl, is_lit (by decide), is_lit (by decide), rfl⟩
  · clear h2
    go_enter Try.func29, Try.ntmps29
    go_wp2_with (refine up_ar2 rfl (by assumption) (by assumption) ?_; intro r n hr; have hro := order_is_l hr)
    go_ret
    exact ⟨_, _, _, rfl, is_lit (by decide), is_lit (by decide), rfl⟩

set_option maxHeartbeats 4000000 in
theorem phS_any (y : Nat) (w : World) (hy : Bd .f64 y 52) (hl : y < 2 ^ 64) (hbig : bigB y = false) (J : Nat) (hJ : qStop (partOf y) J) :
    Calls Try.prog 29 #[.float .f64 y] w (RetC .f32 (na (phR (partOf y) J)) (na (phI (partOf y) J)) w) := by
  have h0 := fin_sub hy.fin
  have h2 := big_two y
  rw [hbig, Bool.or_eq_false_iff] at h2
  obtain ⟨hb1, hb2⟩ := h2
  replace hb1 : (FloatKind.f64.format.order y 4841369599423283200 == some .gt || FloatKind.f64.format.order y 4841369599423283200 == some .eq) = false := hb1
  replace hb2 : (FloatKind.f64.format.order y 14064741636278059008 == some .lt || FloatKind.f64.format.order y 14064741636278059008 == some .eq) = false := hb2
  have hc := conv_int hy
  have hy' : Is .f64 y y := Is.ofBd hy hl
  clear hbig
  have hone := partOf_one hy
  obtain ⟨f, hf⟩ : ∃ f, f = partOf y := ⟨_, rfl⟩
  rw [← hf] at hone hJ ⊢
  have hOne := Lib.hid hone
  have hJJ := Lib.hid hJ
  clear hone hJ
  cases hlt : ltB (fr y) 0
  all_goals
    unfold partOf at hf
    rw [hlt] at hf
    simp only [Bool.false_eq_true, if_false, if_true] at hf
    unfold ltB fr at hlt
    unfold fr at hf
    try unfold one at hf
    have hfs := hf.symm
    clear hf
    try rw [hfs] at hlt
    go_enter Try.func29, Try.ntmps29
    go_wp2_with (refine up_ar2 rfl (by first | assumption | exact is_int _ | exact is_lit (by decide)) (by first | assumption | exact is_int _ | exact is_lit (by decide)) ?_; intro r n hr; (try rw [hfs] at hr); have hro := order_is_l hr)
    go_loopw [3, 4] (QRel f w) (fun _ b _ => 5 - (intOf b).toNat)
    case atStart => exact ⟨0, _, _, rfl, rfl, hr, fun i hi => absurd hi (by omega), rfl⟩
    case round =>
      clear hro hr
      obtain ⟨j, m, r1, rfl, rfl, hr1, hge, rfl⟩ := hrel
      have hro1 := order_is_l hr1
      cases hg : geB (qF f j) quarter with
      | true =>
        have hge1 : ∀ i, i < j + 1 → geB (qF f i) quarter = true := fun i hi => by
          by_cases e : i = j
          · subst e; exact hg
          · exact hge i (by omega)
        have hj4 := q_le hOne.out hge1
        unfold geB quarter at hg
        have HG := Lib.hid hge1
        clear hge hge1
        go_wp2_with (refine up_ar2 rfl hr1 (is_lit (by decide)) ?_; intro r2 n2 hr2)
        go_roundw
        case rel => exact ⟨j + 1, _, _, by go_num, rfl, hr2, HG.out, rfl⟩
        case measure => simp [intOf]; omega
      | false =>
        have hst : qStop f j := ⟨hge, hg⟩
        obtain rfl := q_uniq hJJ.out hst
        have hfa := phFacts hOne.out hge
        have hJ4 := q_le hOne.out hge
        obtain rfl := is_eq hr1 hfa.b0.notNaN
        have k1 : Bd .f64 (qF f J) 52 := hfa.b0.mono (by decide)
        have k2 : Bd .f64 (ar .sub .f64 4598175219545276416 (qF f J)) 52 := hfa.b1.mono (by decide)
        have k3 : bigB (qF f J) = false := hfa.b0.not_big (by decide)
        have k4 : bigB (ar .sub .f64 4598175219545276416 (qF f J)) = false := hfa.b1.not_big (by decide)
        have k5 : qF f J < 2 ^ 64 := hr1.2
        have k6 : ar .sub .f64 4598175219545276416 (qF f J) < 2 ^ 64 := ar_lt _ _ _ _
        have k7 := hfa.b1.notNaN
        have a1 : naOk (sineF (partOf (ar .sub .f64 4598175219545276416 (qF f J)))) = true := hfa.c
        have a2 : naOk (sineF (partOf (qF f J))) = true := hfa.s
        have a3 : naOk (ar .sub .f64 0 (sineF (partOf (ar .sub .f64 4598175219545276416 (qF f J))))) = true := hfa.nc
        have a4 : naOk (ar .sub .f64 0 (sineF (partOf (qF f J)))) = true := hfa.ns
        unfold geB quarter at hg
        clear hst hge hfa
        have hpost : ∀ e w', RetC .f32 (na (phRg (qF f J) J)) (na (phIg (qF f J) J)) w e w' → RetC .f32 (na (phR f J)) (na (phI f J)) w e w' := fun _ _ h => h
        generalize qF f J = g at *
        rcases (show J = 0 ∨ J = 1 ∨ J = 2 ∨ J = 3 ∨ J = 4 by omega) with rfl | rfl | rfl | rfl | rfl
        · go_wp2_with (first | (refine up_ar2 (op := .sub) (x := 4598175219545276416) rfl (is_lit (by decide)) hr1 ?_; intro r2 n2 hr2; obtain rfl := is_eq hr2 k7) | (go_at_call 51; refine (sineS_any _ _ (by assumption) (by assumption) (by assumption)).mono ?_; rintro e w' ⟨r3, n3, rfl, hr3, rfl⟩) | (refine up_ar2 (op := .sub) (x := 0) rfl (is_lit (by decide)) (by assumption) ?_; intro r4 n4 hr4) | (go_at_call 48; refine (narS_is _ _ _ (by assumption) (by assumption)).mono ?_; rintro e w' ⟨r5, n5, rfl, hr5, rfl⟩))
          go_ret
          exact hpost _ _ ⟨_, _, _, rfl, show Is .f32 _ (na (sineF (partOf (ar .sub .f64 4598175219545276416 g)))) by assumption, show Is .f32 _ (na (sineF (partOf g))) by assumption, rfl⟩
        · go_wp2_with (first | (refine up_ar2 (op := .sub) (x := 4598175219545276416) rfl (is_lit (by decide)) hr1 ?_; intro r2 n2 hr2; obtain rfl := is_eq hr2 k7) | (go_at_call 51; refine (sineS_any _ _ (by assumption) (by assumption) (by assumption)).mono ?_; rintro e w' ⟨r3, n3, rfl, hr3, rfl⟩) | (refine up_ar2 (op := .sub) (x := 0) rfl (is_lit (by decide)) (by assumption) ?_; intro r4 n4 hr4) | (go_at_call 48; refine (narS_is _ _ _ (by assumption) (by assumption)).mono ?_; rintro e w' ⟨r5, n5, rfl, hr5, rfl⟩))
          go_ret
          exact hpost _ _ ⟨_, _, _, rfl, show Is .f32 _ (na (ar .sub .f64 0 (sineF (partOf g)))) by assumption, show Is .f32 _ (na (sineF (partOf (ar .sub .f64 4598175219545276416 g)))) by assumption, rfl⟩
        · go_wp2_with (first | (refine up_ar2 (op := .sub) (x := 4598175219545276416) rfl (is_lit (by decide)) hr1 ?_; intro r2 n2 hr2; obtain rfl := is_eq hr2 k7) | (go_at_call 51; refine (sineS_any _ _ (by assumption) (by assumption) (by assumption)).mono ?_; rintro e w' ⟨r3, n3, rfl, hr3, rfl⟩) | (refine up_ar2 (op := .sub) (x := 0) rfl (is_lit (by decide)) (by assumption) ?_; intro r4 n4 hr4) | (go_at_call 48; refine (narS_is _ _ _ (by assumption) (by assumption)).mono ?_; rintro e w' ⟨r5, n5, rfl, hr5, rfl⟩))
          go_ret
          exact hpost _ _ ⟨_, _, _, rfl, show Is .f32 _ (na (ar .sub .f64 0 (sineF (partOf (ar .sub .f64 4598175219545276416 g))))) by assumption, show Is .f32 _ (na (ar .sub .f64 0 (sineF (partOf g)))) by assumption, rfl⟩
        · go_wp2_with (first | (refine up_ar2 (op := .sub) (x := 4598175219545276416) rfl (is_lit (by decide)) hr1 ?_; intro r2 n2 hr2; obtain rfl := is_eq hr2 k7) | (go_at_call 51; refine (sineS_any _ _ (by assumption) (by assumption) (by assumption)).mono ?_; rintro e w' ⟨r3, n3, rfl, hr3, rfl⟩) | (refine up_ar2 (op := .sub) (x := 0) rfl (is_lit (by decide)) (by assumption) ?_; intro r4 n4 hr4) | (go_at_call 48; refine (narS_is _ _ _ (by assumption) (by assumption)).mono ?_; rintro e w' ⟨r5, n5, rfl, hr5, rfl⟩))
          go_ret
          exact hpost _ _ ⟨_, _, _, rfl, show Is .f32 _ (na (sineF (partOf g))) by assumption, show Is .f32 _ (na (ar .sub .f64 0 (sineF (partOf (ar .sub .f64 4598175219545276416 g))))) by assumption, rfl⟩
        · go_wp2_with (first | (refine up_ar2 (op := .sub) (x := 4598175219545276416) rfl (is_lit (by decide)) hr1 ?_; intro r2 n2 hr2; obtain rfl := is_eq hr2 k7) | (go_at_call 51; refine (sineS_any _ _ (by assumption) (by assumption) (by assumption)).mono ?_; rintro e w' ⟨r3, n3, rfl, hr3, rfl⟩) | (refine up_ar2 (op := .sub) (x := 0) rfl (is_lit (by decide)) (by assumption) ?_; intro r4 n4 hr4) | (go_at_call 48; refine (narS_is _ _ _ (by assumption) (by assumption)).mono ?_; rintro e w' ⟨r5, n5, rfl, hr5, rfl⟩))
          go_ret
          exact hpost _ _ ⟨_, _, _, rfl, show Is .f32 _ (na (sineF (partOf (ar .sub .f64 4598175219545276416 g)))) by assumption, show Is .f32 _ (na (sineF (partOf g))) by assumption, rfl⟩

theorem real_w (P : Program) (w : World) : True := trivial
theorem turn_any (c s C S : Nat) (j : Nat) (w : World) (hc : Is .f64 c C) (hs : Is .f64 s S) (hj : j ≤ 4) :
    Calls Try.prog 35 #[.float .f64 c, .float .f64 s, .int .i64 j] w
      (RetC .f64 (if j = 1 then ar .sub .f64 0 S else if j = 2 then ar .sub .f64 0 C else if j = 3 then S else C) (if j = 1 then C else if j = 2 then ar .sub .f64 0 S else if j = 3 then ar .sub .f64 0 C else S) w) := by
  rcases (show j = 0 ∨ j = 1 ∨ j = 2 ∨ j = 3 ∨ j = 4 by omega) with rfl | rfl | rfl | rfl | rfl
  · go_enter Try.func35, Try.ntmps35
    go_wp2_with (refine up_ar2 (op := .sub) (x := 0) rfl (is_lit (by decide)) (by assumption) ?_; intro r4 n4 hr4)
    go_ret
    exact ⟨_, _, 0, rfl, show Is .f64 _ C by assumption, show Is .f64 _ S by assumption, rfl⟩
  · go_enter Try.func35, Try.ntmps35
    go_wp2_with (refine up_ar2 (op := .sub) (x := 0) rfl (is_lit (by decide)) (by assumption) ?_; intro r4 n4 hr4)
    go_ret
    exact ⟨_, _, _, rfl, show Is .f64 _ (ar .sub .f64 0 S) by assumption, show Is .f64 _ C by assumption, rfl⟩
  · go_enter Try.func35, Try.ntmps35
    go_wp2_with (refine up_ar2 (op := .sub) (x := 0) rfl (is_lit (by decide)) (by assumption) ?_; intro r4 n4 hr4)
    go_ret
    exact ⟨_, _, _, rfl, show Is .f64 _ (ar .sub .f64 0 C) by assumption, show Is .f64 _ (ar .sub .f64 0 S) by assumption, rfl⟩
  · go_enter Try.func35, Try.ntmps35
    go_wp2_with (refine up_ar2 (op := .sub) (x := 0) rfl (is_lit (by decide)) (by assumption) ?_; intro r4 n4 hr4)
    go_ret
    exact ⟨_, _, _, rfl, show Is .f64 _ S by assumption, show Is .f64 _ (ar .sub .f64 0 C) by assumption, rfl⟩
  · go_enter Try.func35, Try.ntmps35
    go_wp2_with (refine up_ar2 (op := .sub) (x := 0) rfl (is_lit (by decide)) (by assumption) ?_; intro r4 n4 hr4)
    go_ret
    exact ⟨_, _, 0, rfl, show Is .f64 _ C by assumption, show Is .f64 _ S by assumption, rfl⟩
theorem narC_any (a b c d : Nat) (w : World) (ha : Is .f64 a c) (hb : Is .f64 b d) (hc : naOk c = true) (hd : naOk d = true) :
    Calls Try.prog 34 #[.complex .f64 a b] w (RetC .f32 (na c) (na d) w) := by
  go_enter Try.func34, Try.ntmps34
  go_wp2_with (go_at_call 27; refine (narI_is _ _ _ (by assumption) (by assumption)).mono ?_; rintro e w' ⟨r5, n5, rfl, hr5, rfl⟩)
  go_ret
  exact ⟨_, _, _, rfl, by assumption, by assumption, rfl⟩
end Go.Proofs.Ytcncobafpifimab
