/-
  Contracts: PhasorOf of the program, and the law's own comparison of complex numbers.
-/
import Derived.Test.YtcncobafpifimabPhasor
namespace Go.Proofs.Ytcncobafpifimab
open Go.RowKit Fl
set_option linter.unusedVariables false

theorem phI_nan (y : Nat) (w : World) (hl : y < 2 ^ 64) (hf : finB .f64 y = false) : Calls Try.prog 14 #[.float .f64 y] w (RetC .f32 (qn .f32) (qn .f32) w) := by
  have HF := Lib.hid hf
  clear hf
  go_enter Try.func14, Try.ntmps14
  go_wp2_with (first | (go_at_call 30; refine (fin64_any _ _ hl).mono ?_; rintro e w' ⟨rfl, rfl⟩; rw [HF.out]) | (go_at_call 31; refine (notNum_any _).mono ?_; rintro e w' ⟨r, n, rfl, hr, rfl⟩))
  go_ret
  exact ⟨_, _, _, rfl, by assumption, by assumption, rfl⟩
theorem phI_big (y : Nat) (w : World) (hl : y < 2 ^ 64) (hf : finB .f64 y = true) (hb : bigB y = true) : Calls Try.prog 14 #[.float .f64 y] w (RetC .f32 1065353216 0 w) := by
  have HF := Lib.hid hf
  have hbb : (FloatKind.f64.format.order (y % 2 ^ 63) 4841369599423283200 == some .gt || FloatKind.f64.format.order (y % 2 ^ 63) 4841369599423283200 == some .eq) = true := hb
  clear hf hb
  go_enter Try.func14, Try.ntmps14
  go_wp2_with (first | (go_at_call 30; refine (fin64_any _ _ hl).mono ?_; rintro e w' ⟨rfl, rfl⟩; rw [HF.out]) | (go_at_call 32; refine (abs_any _ _ hl).mono ?_; rintro e w' ⟨rfl, rfl⟩))
  go_ret
  exact ⟨_, _, 0, rfl, is_lit (by decide), is_lit (by decide), rfl⟩
set_option maxHeartbeats 4000000 in
theorem phI_any (y : Nat) (w : World) (hy : Bd .f64 y 52) (hl : y < 2 ^ 64) (hbig : bigB y = false) (J : Nat) (hJ : qStop (partOf y) J) :
    Calls Try.prog 14 #[.float .f64 y] w (RetC .f32 (na (phR (partOf y) J)) (na (phI (partOf y) J)) w) := by
  have HF := Lib.hid hy.fin
  have hbb : (FloatKind.f64.format.order (y % 2 ^ 63) 4841369599423283200 == some .gt || FloatKind.f64.format.order (y % 2 ^ 63) 4841369599423283200 == some .eq) = false := hbig
  clear hbig
  have hone := partOf_one hy
  obtain ⟨f, hf⟩ : ∃ f, f = partOf y := ⟨_, rfl⟩
  rw [← hf] at hone hJ ⊢
  have hOne := Lib.hid hone
  have hJJ := Lib.hid hJ
  have hFF := Lib.hid hf
  clear hone hJ hf
  go_enter Try.func14, Try.ntmps14
  go_wp2_with (first | (go_at_call 30; refine (fin64_any _ _ hl).mono ?_; rintro e w' ⟨rfl, rfl⟩; rw [HF.out]) | (go_at_call 32; refine (abs_any _ _ hl).mono ?_; rintro e w' ⟨rfl, rfl⟩) | (go_at_call 33; refine (part_any _ _ hy hl).mono ?_; rintro e w' ⟨r, n, rfl, hr, rfl⟩; rw [← hFF.out] at hr))
  go_loopw [3, 4] (QRel f w) (fun _ b _ => 5 - (intOf b).toNat)
  case atStart => exact ⟨0, _, _, rfl, rfl, hr, fun i hi => absurd hi (by omega), rfl⟩
  case round =>
    clear hr
    obtain ⟨j, m, r1, rfl, rfl, hr1, hge, rfl⟩ := hrel
    have hro1 := order_is_l hr1
    cases hg : geB (qF f j) quarter with
    | true =>
      have hge1 : ∀ i, i < j + 1 → geB (qF f i) quarter = true := fun i hi => by
        by_cases e : i = j
        · subst e; exact hg
        · exact hge i (by omega)
      have hj4 := q_le hOne.out hge1
      unfold geB quarter at hg
      have HG := Lib.hid hge1
      clear hge hge1
      go_wp2_with (refine up_ar2 rfl hr1 (is_lit (by decide)) ?_; intro r2 n2 hr2)
      go_roundw
      case rel => exact ⟨j + 1, _, _, by go_num, rfl, hr2, HG.out, rfl⟩
      case measure => simp [intOf]; omega
    | false =>
      have hst : qStop f j := ⟨hge, hg⟩
      obtain rfl := q_uniq hJJ.out hst
      have hfa := phFacts hOne.out hge
      have hJ4 := q_le hOne.out hge
      obtain rfl := is_eq hr1 hfa.b0.notNaN
      have k1 : Bd .f64 (qF f J) 52 := hfa.b0.mono (by decide)
      have k2 : Bd .f64 (ar .sub .f64 4598175219545276416 (qF f J)) 52 := hfa.b1.mono (by decide)
      have k5 : qF f J < 2 ^ 64 := hr1.2
      have k6 : ar .sub .f64 4598175219545276416 (qF f J) < 2 ^ 64 := ar_lt _ _ _ _
      have k7 := hfa.b1.notNaN
      have hk1 : naOk (phRg (qF f J) J) = true := by
        unfold phRg
        split
        · exact hfa.ns
        · split
          · exact hfa.nc
          · split
            · exact hfa.s
            · exact hfa.c
      have hk2 : naOk (phIg (qF f J) J) = true := by
        unfold phIg
        split
        · exact hfa.c
        · split
          · exact hfa.ns
          · split
            · exact hfa.nc
            · exact hfa.s
      unfold geB quarter at hg
      clear hst hge hfa
      have hpost : ∀ e w', RetC .f32 (na (phRg (qF f J) J)) (na (phIg (qF f J) J)) w e w' → RetC .f32 (na (phR f J)) (na (phI f J)) w e w' := fun _ _ h => h
      generalize qF f J = g at *
      go_wp2_with (first | (refine up_ar2 (op := .sub) (x := 4598175219545276416) rfl (is_lit (by decide)) hr1 ?_; intro r2 n2 hr2; obtain rfl := is_eq hr2 k7) | (go_at_call 36; refine (sineI_any _ _ (by assumption) (by assumption)).mono ?_; rintro e w' ⟨r3, n3, rfl, hr3, rfl⟩) | (go_at_call 35; refine (turn_any _ _ _ _ J _ (by assumption) (by assumption) hJ4).mono ?_; rintro e w' ⟨a0, b0, n4, rfl, ha0, hb0, rfl⟩) | (go_at_call 34; refine (narC_any _ _ _ _ _ ha0 hb0 hk1 hk2).mono ?_; rintro e w' ⟨a5, b5, n5, rfl, ha5, hb5, rfl⟩))
      go_ret
      exact hpost _ _ ⟨_, _, _, rfl, ha5, hb5, rfl⟩

theorem sameC_any (a b c d : Nat) (w : World) (h1 : cn .f64 a = cn .f64 c) (h2 : cn .f64 b = cn .f64 d) :
    Calls Try.prog 15 #[.complex .f64 a b, .complex .f64 c d] w fun e w' => e = .returned (.bool true) ∧ ∃ n, w' = w.drewN n := by
  have H1 := Lib.hid h1
  have H2 := Lib.hid h2
  clear h1 h2
  go_enter Try.func15, Try.ntmps15
  go_wp2_with (go_at_call 12; refine (same_any _ _ _ (by first | exact H1.out | exact H2.out)).mono ?_; rintro e w' ⟨rfl, n, rfl⟩)
  go_ret
  exact ⟨rfl, _, rfl⟩
theorem sameC_wi {x y x' y' : Nat} (a b c d : Nat) (w : World) (ha : Is .f64 a (wi x)) (hb : Is .f64 b (wi y)) (hc : Is .f64 c (wi x')) (hd : Is .f64 d (wi y')) (h1 : cn .f32 x = cn .f32 x') (h2 : cn .f32 y = cn .f32 y') :
    Calls Try.prog 15 #[.complex .f64 a b, .complex .f64 c d] w fun e w' => e = .returned (.bool true) ∧ ∃ n, w' = w.drewN n :=
  sameC_any a b c d w (by rw [ha.1, hc.1, ← wi_cn x, h1, wi_cn]) (by rw [hb.1, hd.1, ← wi_cn y, h2, wi_cn])
end Go.Proofs.Ytcncobafpifimab
