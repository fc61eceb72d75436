/-
  Contract: edges of costs, by the model.
-/
import Derived.Test.YthkklilfignmpaaEc
import Derived.Test.YthkklilfignmpaaAcS
namespace Go.Proofs.Ythkklilfignmpaa
open Go.RowKit Fl
set_option linter.unusedVariables false
def EcRel (w0 : World) (xs : List (Int × Nat)) (L : List Int) (v i : Value) (wr : World) : Prop :=
  ∃ a : Nat, ∃ L0 X, a < xs.length ∧ i = .int .i64 a ∧ L0.length + xs.length ≤ 17 + a ∧ EdgeFrom (bsC xs) (msC xs) xs.length a X ∧ L0 ++ X = L ∧ RowI w0 v L0 wr
def EcIn (w : World) (xs : List (Int × Nat)) (a : Nat) (b t i : Value) (wr : World) : Prop :=
  ∃ k m : Nat, a < k ∧ k ≤ xs.length ∧ i = .int .i64 k ∧ wr = w.drewN m ∧
    ((k = a + 1 ∧ b = .int .i64 ((a + 1 : Nat) : Int) ∧ t = .float .f32 0) ∨ (a + 1 < k ∧ b = .int .i64 (sbI (bsC xs) (msC xs) a k).1 ∧ t = .float .f32 (sbI (bsC xs) (msC xs) a k).2))
set_option maxRecDepth 100000 in
set_option maxHeartbeats 8000000 in
theorem ecS_any (v : Value) (xs : List (Int × Nat)) (X0 : List Int) (w : World) (h : RdC w w.heap.size v xs) (hm : xs.length ≤ 1048576) (hx : ∀ x ∈ xs, x.2 < 2 ^ 32) (hX0 : acB xs = true → EdgeFrom (bsC xs) (msC xs) xs.length 0 X0) :
    Calls Try.prog 33 #[v] w (RetJ (ecV xs X0) (acB xs) w) := by
  obtain ⟨i0, hi, hz0, hz1, hz2⟩ := info_parts infoI
  have HA := Lib.hid (l7S_any v xs w h hm hx)
  have HRC := Lib.hid h
  obtain ⟨A, c, hv, _⟩ := h
  subst hv
  cases hg : acB xs with
  | false =>
    rw [ecV_no hg]
    rw [hg] at HA
    clear hg hX0 hx
    go_enter Try.func33, Try.ntmps33
    go_wp2_with fail
    refine HA.out.mono ?_
    rintro e wa ⟨rfl, hb⟩
    have HB := Lib.hid hb
    clear hb
    go_wp2_with fail
    go_ret2
    exact retJ_nil HB.out
  | true =>
    rw [ecV_yes hg]
    rw [hg] at HA
    have hX := hX0 hg
    obtain ⟨n1, n2, _⟩ := acB_out hg
    have HG := Lib.hid hg
    have HX := Lib.hid hX
    have HRD := Lib.hid (fun a i h1 h2 => ec_round hg a i h1 h2)
    clear hg hX hX0 hx
    go_enter Try.func33, Try.ntmps33
    go_wp2_with fail
    refine HA.out.mono ?_
    rintro e wa ⟨rfl, hb⟩
    have HB := Lib.hid hb
    obtain ⟨A', c', hv', hcc⟩ := HRC.out.step hb
    simp only [Value.slice.injEq] at hv'
    obtain ⟨rfl, -, rfl⟩ := hv'
    obtain ⟨bk, off, rfl, hbk, hcell⟩ := hcc (by omega)
    have HC := Lib.hid hcell
    clear hb hcc hcell HA HRC
    go_wp2_with fail
    go_loopw [4, 5] (EcRel wa xs (0 :: X0)) (fun _ i _ => xs.length - (intOf i).toNat)
    case atStart => exact ⟨0, [0], X0, by omega, rfl, by simp; omega, HX.out, rfl, ⟨World.ownsRow_lit (base := wa.heap.size) (e := 2) (size := 1) wa #[.int .i64 0] 1 (Nat.le_refl _) (by simp [maxLen]) rfl, (Below.refl _ _).alloc (Nat.le_refl _) _⟩⟩
    case round =>
      clear HX
      obtain ⟨a, L0, X, ha, rfl, hl0, hx, hL, hr⟩ := hrel
      have HR := Lib.hid hr
      have HX := Lib.hid hx
      have HL := Lib.hid hL
      have HN := Lib.hid (show L0.length ≤ 32 by omega)
      have HN2 := Lib.hid hl0
      clear hr hx hL hl0
      by_cases hend : a + 1 < xs.length
      · go_wp2_with fail
        go_loopw [6, 7, 8] (EcIn wr xs a) (fun _ _ i _ => xs.length - (intOf i).toNat)
        case atStart => exact ⟨a + 1, 0, by omega, by omega, by go_num, rfl, .inl ⟨rfl, by go_num, rfl⟩⟩
        case round =>
          obtain ⟨k, m, hak, hk, rfl, rfl, hst⟩ := hrel
          by_cases hlt : k < xs.length
          · obtain ⟨x, y, p, q, ex, ey, ep, eq, p0, pq, q5, d, fq, s, hfq, hsub, hquo, hsl, hge⟩ := HRD.out a k hak hlt
            have ca := HC.out a ha
            have ck := HC.out k hlt
            rw [← bsC_getD, ← msC_getD, ep, ex] at ca
            rw [← bsC_getD, ← msC_getD, eq, ey] at ck
            have c1 : wr.cell? ⟨bk, off + a * 2, none⟩ = some (.int .i64 p) := (HR.out.2.cell (p := ⟨bk, off + a * 2, none⟩) hbk).trans ca.1
            have c2 : wr.cell? ⟨bk, off + a * 2 + 1, none⟩ = some (.float .f32 x) := (HR.out.2.cell (p := ⟨bk, off + a * 2 + 1, none⟩) hbk).trans ca.2
            have c3 : wr.cell? ⟨bk, off + k * 2, none⟩ = some (.int .i64 q) := (HR.out.2.cell (p := ⟨bk, off + k * 2, none⟩) hbk).trans ck.1
            have c4 : wr.cell? ⟨bk, off + k * 2 + 1, none⟩ = some (.float .f32 y) := (HR.out.2.cell (p := ⟨bk, off + k * 2 + 1, none⟩) hbk).trans ck.2
            have HS := Lib.hid (sbI_succ (bsC xs) (msC xs) a k hak)
            rw [ex, ey, ep, eq, hsl] at HS
            have rs : ∀ w' t, (binOp .sub t (.float .f32 x) (.float .f32 y)).run Try.prog w' = .ok (.float .f32 d) w' := fun w' t => run_float_arith w' .sub t .f32 x y d hsub
            have rq : ∀ w' t, (binOp .quo t (.float .f32 d) (.float .f32 fq)).run Try.prog w' = .ok (.float .f32 s) w' := fun w' t => run_float_arith w' .quo t .f32 d fq s hquo
            have HGE := Lib.hid hge
            clear ca ck HC HG HRD ex ey ep eq hsub hquo hsl hge
            rcases hst with ⟨hk1, rfl, rfl⟩ | ⟨hk1, rfl, rfl⟩
            · subst hk1
              have hq : (((a + 1 : Nat) : Int) == (a : Int) + 1) = true := by simp
              have hq2 : decide (((a + 1 : Nat) : Int) = (a : Int) + 1) = true := by simp
              rw [sbI_0] at HS
              simp only [] at HS
              rw [HGE.out, if_pos rfl] at HS
              go_wp2_with fail
              go_quiet (fail)
              go_wp2_with fail
              go_roundw
              case rel => exact ⟨a + 1 + 1, _, by omega, by omega, by go_num, by first | rfl | exact World.drewN_drewN _ _ _, .inr ⟨by omega, by rw [HS.out], by rw [HS.out]⟩⟩
              case measure => simp [intOf]; omega
            · have hq : ((k : Int) == (a : Int) + 1) = false := by rw [beq_eq_false_iff_ne]; omega
              have hq2 : decide ((k : Int) = (a : Int) + 1) = false := decide_eq_false (by omega)
              generalize sbI (bsC xs) (msC xs) a k = r at *
              obtain ⟨r1, r2⟩ := r
              simp only [] at HS ⊢
              cases g2 : geB' s r2 with
              | false =>
                rw [g2, if_neg (by simp)] at HS
                have g2' : (FloatKind.f32.format.order s r2 == some .gt || FloatKind.f32.format.order s r2 == some .eq) = false := g2
                clear g2
                go_wp2_with fail
                go_quiet (fail)
                go_wp2_with fail
                go_roundw
                case rel => exact ⟨k + 1, _, by omega, by omega, by go_num, by first | rfl | exact World.drewN_drewN _ _ _, .inr ⟨by omega, by rw [HS.out], by rw [HS.out]⟩⟩
                case measure => simp [intOf]; omega
              | true =>
                rw [g2, if_pos rfl] at HS
                have g2' : (FloatKind.f32.format.order s r2 == some .gt || FloatKind.f32.format.order s r2 == some .eq) = true := g2
                clear g2
                go_wp2_with fail
                go_quiet (fail)
                go_wp2_with fail
                go_roundw
                case rel => exact ⟨k + 1, _, by omega, by omega, by go_num, by first | rfl | exact World.drewN_drewN _ _ _, .inr ⟨by omega, by rw [HS.out], by rw [HS.out]⟩⟩
                case measure => simp [intOf]; omega
          · have hkn : k = xs.length := by omega
            rcases hst with ⟨hk1, _, _⟩ | ⟨hk1, rfl, rfl⟩
            · omega
            · rcases edge_cases HG.out HX.out ha (L0 := L0) (L := L0 ++ (a : Int) :: X) rfl with ⟨hb, _⟩ | ⟨b, Y, hb, hab, hbn, hY, hE⟩
              · have := (sb_gt HG.out a xs.length hend (Nat.le_refl _)).1
                omega
              · have HY := Lib.hid hY
                have HE := Lib.hid (show L0 ++ [(b : Int)] ++ Y = 0 :: X0 by
                  have h1 : (b : Int) :: Y = X := by simpa using hE
                  rw [← HL.out, ← h1]; simp)
                rw [hkn, hb]
                clear hE hY hb HRD HC
                clear hkn
                go_wp2_with (first | (at_builtin; refine wpList_append_own _ rfl _ _ 60 rfl wa.heap.size 2 i0 (.int .i64 0) 1 8 Try.underlying60 hi hz0 hz1 hz2 rfl (by decide) _ _ _ rfl (HR.out.1.alloc _) ⟨wr.heap.size, 0, none⟩ 1 1 [.int .i64 (b : Int)] rfl rfl (one_newF _ _ _) (cellsI [(b : Int)]) (by unfold maxLen; have := HN.out; omega) (by have := HN.out; omega) (by simp; have := HR.out.2.size; omega) ?_; intro v' w1 hown' hgrow _) | (at_builtin; refine wpList_append_own _ rfl _ _ 60 rfl wa.heap.size 2 i0 (.int .i64 0) 1 8 Try.underlying60 hi hz0 hz1 hz2 rfl (by decide) _ _ _ rfl ((rowDrewF HR.out.1 _).alloc _) ⟨wr.heap.size, 0, none⟩ 1 1 [.int .i64 (b : Int)] rfl rfl (one_newF _ _ _) (cellsI [(b : Int)]) (by unfold maxLen; have := HN.out; omega) (by have := HN.out; omega) (by simp; have := HR.out.2.size; omega) ?_; intro v' w1 hown' hgrow _))
                have HR2 := Lib.hid (show RowI wa v' (L0 ++ [(b : Int)]) w1 from RowI.push hown' (by first | exact HR.out.2.alloc HR.out.2.size _ | exact (below_drawn HR.out.2 _).alloc HR.out.2.size _) hgrow (fun j hj => (HR.out.1.lt j hj).1))
                clear hown' hgrow
                go_wp2
                go_roundw
                case rel => exact ⟨b, _, Y, hbn, rfl, by have := HN2.out; simp; omega, HY.out, HE.out, HR2.out⟩
                case measure => simp [intOf]; omega
      · have HE := Lib.hid (show L0 = 0 :: X0 by
          cases HX.out with
          | stop _ => rw [← HL.out, List.append_nil]
          | step h0 _ _ => omega)
        go_wp2_with fail
        go_ret2
        rw [← HE.out]
        exact ⟨_, rfl, HR.out.own.less HB.out.size, HB.out.trans (HR.out.2.mono HB.out.size)⟩
end Go.Proofs.Ythkklilfignmpaa
