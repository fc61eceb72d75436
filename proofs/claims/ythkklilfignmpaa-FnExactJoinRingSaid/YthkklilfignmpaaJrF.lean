/-
  Contract: JoinRing of the model.
-/
import Derived.Test.YthkklilfignmpaaJrS
import Derived.Test.YthkklilfignmpaaBx
namespace Go.Proofs.Ythkklilfignmpaa
open Go.RowKit Fl
set_option linter.unusedVariables false
set_option maxRecDepth 100000

set_option maxHeartbeats 8000000 in
theorem jrS_any (v0 v1 u : Value) (low high ts : List Nat) (w : World) (h0 : Rd w w.heap.size v0 (fl low)) (h1 : Rd w w.heap.size v1 (fl high)) (h2 : Rd w w.heap.size u (fl ts)) (hm0 : low.length ≤ 1048576) (hm1 : high.length ≤ 1048576) (hm2 : ts.length ≤ 1048576) (hx0 : ∀ x ∈ low, x < 2 ^ 32) (hx1 : ∀ x ∈ high, x < 2 ^ 32) (hx2 : ∀ x ∈ ts, x < 2 ^ 32) :
    Calls Try.prog 56 #[v0, v1, .agg #[u]] w (RetLF (jrL low high ts) (jrB low high ts) w) := by
  obtain ⟨w0, hw0⟩ : ∃ W, w.alloc (.cells #[u] 91) = W := ⟨_, rfl⟩
  have hb0 : Below w.heap.size w w0 := by rw [← hw0]; exact (Below.refl _ _).alloc (Nat.le_refl _) _
  have hX0 : Bx w0 w.heap.size [u] := by rw [← hw0]; exact bx_new w [u] _
  have HB0 := Lib.hid hb0
  have HX0 := Lib.hid hX0
  have HF0 := Lib.hid (fun (W : World) (hb : Below w.heap.size w W) => finS_any v0 low W W.heap.size (h0.step hb) hm0 hx0)
  have HF1 := Lib.hid (fun (W : World) (hb : Below w.heap.size w W) => finS_any v1 high W W.heap.size (h1.step hb) hm1 hx1)
  have HFO := Lib.hid (fun (W : World) (v : Value) (ys : List Nat) (h : Rd W W.heap.size v (fl ys)) (hl : ys.length ≤ 1048576) (hx : ∀ x ∈ ys, x < 2 ^ 32) => finS_any v ys W W.heap.size h hl hx)
  have HVP := Lib.hid (fun (W : World) (hb : Below w0.heap.size w0 W) => vpP_any w.heap.size u ts W w.heap.size (h2.below (hb0.trans (hb.mono hb0.size))) ((hX0.step hb).2 0 _ rfl).1 hm2 hx2)
  have H0 := Lib.hid h0
  have H1 := Lib.hid h1
  have H2 := Lib.hid h2
  have HX0' := Lib.hid hx0
  have HX1' := Lib.hid hx1
  have HX2' := Lib.hid hx2
  obtain ⟨A0, c0, hv0, _, _, _⟩ := id h0
  obtain ⟨A1, c1, hv1, _, _, _⟩ := id h1
  rw [fl_len] at hv0 hv1
  subst hv0 hv1
  clear h0 h1 hx0 hx1 hX0 hb0
  by_cases g1 : 1 ≤ low.length
  · skip
    by_cases g2 : low.length ≤ 64
    · skip
      by_cases g3 : high.length = low.length
      · skip
        cases bf0 : finA low with
        | true =>
          cases bf1 : finA high with
          | true =>
            cases bvp : vpB ts with
            | true =>
              rw [bf0] at HF0
              rw [bf1] at HF1
              rw [bvp] at HVP
              have HF1L := HF1
              rw [g3] at HF1L
              have H1L := H1
              rw [g3] at H1L
              have HG := Lib.hid (show jrG low high ts = true by unfold jrG; rw [bf0, bf1, bvp, decide_eq_true ⟨g1, g2, g3⟩]; rfl)
              have BT := Lib.hid bvp
              have B0 := Lib.hid bf0
              have B1 := Lib.hid bf1
              have g3b : ((high.length : Int) != (low.length : Int)) = false := by rw [bne_eq_false_iff_eq]; omega
              have G3 := Lib.hid g3
              clear bvp bf0 bf1 g3
              go_enter Try.func56, Try.ntmps56
              go_wp2_with fail
              with_reducible refine (HF0.out _ HB0.out).mono ?_
              rintro e w1 ⟨rfl, n1, hw⟩
              have HB1 := Lib.hid (show Below w.heap.size w w1 by rw [hw]; exact below_drawn HB0.out _)
              have HQ1 := Lib.hid (show Below w0.heap.size w0 w1 by rw [hw]; exact below_drawn (Below.refl _ _) _)
              have HX1 := Lib.hid (show Bx w1 w.heap.size [u] by rw [hw]; exact HX0.out)
              clear hw
              go_wp2_with fail
              first | with_reducible refine (HF1.out _ HB1.out).mono ?_ | with_reducible refine (HF1L.out _ HB1.out).mono ?_
              rintro e w2 ⟨rfl, n2, hw⟩
              have HB2 := Lib.hid (show Below w.heap.size w w2 by rw [hw]; exact below_drawn HB1.out _)
              have HQ2 := Lib.hid (show Below w0.heap.size w0 w2 by rw [hw]; exact below_drawn HQ1.out _)
              have HX2 := Lib.hid (show Bx w2 w.heap.size [u] by rw [hw]; exact HX1.out)
              clear hw
              go_wp2_with fail
              with_reducible refine (HVP.out _ HQ2.out).mono ?_
              rintro e w3 ⟨rfl, n3, hw⟩
              have HB3 := Lib.hid (show Below w.heap.size w w3 by rw [hw]; exact below_drawn HB2.out _)
              have HX3 := Lib.hid (show Bx w3 w.heap.size [u] by rw [hw]; exact HX2.out)
              clear hw
              have cP3 := (HX3.out.2 0 _ rfl).1
              have gP3 := HX3.out.1
              go_wp2_with fail
              first | with_reducible refine (jnS_any w.heap.size _ _ u low high ts w3 (H0.out.step HB3.out) (H1.out.step HB3.out) (H2.out.step HB3.out) cP3 gP3 HX0'.out HX1'.out HX2'.out g1 g2 G3.out B0.out B1.out (vpB_len BT.out).2.2.2 (by have := (vpB_len BT.out).1; omega) (vpB_len BT.out).2.1).mono ?_ | with_reducible refine (jnS_any w.heap.size _ _ u low high ts w3 (H0.out.step HB3.out) (H1L.out.step HB3.out) (H2.out.step HB3.out) cP3 gP3 HX0'.out HX1'.out HX2'.out g1 g2 G3.out B0.out B1.out (vpB_len BT.out).2.2.2 (by have := (vpB_len BT.out).1; omega) (vpB_len BT.out).2.1).mono ?_
              rintro e w4 ⟨vr, ys, rfl, hW, hO, hb⟩
              have HYL := Lib.hid (show ys.length = 2 * low.length by rw [hW.len, joA_len])
              have HW := Lib.hid hW
              have HO := Lib.hid (hO.less HB3.out.size)
              have HB4 := Lib.hid (HB3.out.trans (hb.mono HB3.out.size))
              have HFF := Lib.hid (HFO.out w4 vr ys hO.rd (by have := HYL.out; omega) hW.lt)
              rw [hW.fin] at HFF
              obtain ⟨Ar, cr, hvr, _, _, _⟩ := id hO
              rw [fl_len] at hvr
              subst hvr
              clear hW hO hb
              cases bo : finA (joA low high ts) with
              | true =>
                rw [bo] at HFF
                have HE := Lib.hid (HW.out.eq bo)
                have HRB := Lib.hid (show jrB low high ts = true by unfold jrB; rw [HG.out, bo]; rfl)
                have HRL := Lib.hid (show jrL low high ts = joA low high ts by unfold jrL; rw [HRB.out]; rfl)
                clear bo
                go_wp2_with fail
                with_reducible refine HFF.out.mono ?_
                rintro e w5 ⟨rfl, n5, rfl⟩
                go_wp2_with fail
                go_ret2
                rw [HRL.out, HRB.out, ← HE.out]
                exact ⟨_, rfl, HO.out.drewN _, below_drawn HB4.out _⟩
              | false =>
                rw [bo] at HFF
                have HRB := Lib.hid (show jrB low high ts = false by unfold jrB; rw [bo]; simp)
                have HRL := Lib.hid (show jrL low high ts = [] by unfold jrL; rw [HRB.out]; rfl)
                clear bo
                go_wp2_with fail
                with_reducible refine HFF.out.mono ?_
                rintro e w5 ⟨rfl, n5, rfl⟩
                go_wp2_with fail
                go_ret2
                rw [HRL.out, HRB.out]
                exact ⟨_, rfl, own_nilF _ _, below_drawn HB4.out _⟩
            | false =>
              have hg : jrG low high ts = false := by unfold jrG; rw [bvp]; simp
              rw [bf0] at HF0
              rw [bf1] at HF1
              rw [bvp] at HVP
              have HF1L := HF1
              rw [g3] at HF1L
              have H1L := H1
              rw [g3] at H1L
              have HNO := Lib.hid (jr_no hg)
              clear hg
              have g3b : ((high.length : Int) != (low.length : Int)) = false := by rw [bne_eq_false_iff_eq]; omega
              go_enter Try.func56, Try.ntmps56
              go_wp2_with fail
              with_reducible refine (HF0.out _ HB0.out).mono ?_
              rintro e w1 ⟨rfl, n1, hw⟩
              have HB1 := Lib.hid (show Below w.heap.size w w1 by rw [hw]; exact below_drawn HB0.out _)
              have HQ1 := Lib.hid (show Below w0.heap.size w0 w1 by rw [hw]; exact below_drawn (Below.refl _ _) _)
              have HX1 := Lib.hid (show Bx w1 w.heap.size [u] by rw [hw]; exact HX0.out)
              clear hw
              go_wp2_with fail
              first | with_reducible refine (HF1.out _ HB1.out).mono ?_ | with_reducible refine (HF1L.out _ HB1.out).mono ?_
              rintro e w2 ⟨rfl, n2, hw⟩
              have HB2 := Lib.hid (show Below w.heap.size w w2 by rw [hw]; exact below_drawn HB1.out _)
              have HQ2 := Lib.hid (show Below w0.heap.size w0 w2 by rw [hw]; exact below_drawn HQ1.out _)
              have HX2 := Lib.hid (show Bx w2 w.heap.size [u] by rw [hw]; exact HX1.out)
              clear hw
              go_wp2_with fail
              with_reducible refine (HVP.out _ HQ2.out).mono ?_
              rintro e w3 ⟨rfl, n3, hw⟩
              have HB3 := Lib.hid (show Below w.heap.size w w3 by rw [hw]; exact below_drawn HB2.out _)
              have HX3 := Lib.hid (show Bx w3 w.heap.size [u] by rw [hw]; exact HX2.out)
              clear hw
              go_wp2_with fail
              go_ret2
              rw [HNO.out.1, HNO.out.2]
              exact ⟨_, rfl, own_nilF _ _, HB3.out⟩
          | false =>
            have hg : jrG low high ts = false := by unfold jrG; rw [bf1]; simp
            rw [bf0] at HF0
            rw [bf1] at HF1
            have HF1L := HF1
            rw [g3] at HF1L
            have H1L := H1
            rw [g3] at H1L
            have HNO := Lib.hid (jr_no hg)
            clear hg
            have g3b : ((high.length : Int) != (low.length : Int)) = false := by rw [bne_eq_false_iff_eq]; omega
            go_enter Try.func56, Try.ntmps56
            go_wp2_with fail
            with_reducible refine (HF0.out _ HB0.out).mono ?_
            rintro e w1 ⟨rfl, n1, hw⟩
            have HB1 := Lib.hid (show Below w.heap.size w w1 by rw [hw]; exact below_drawn HB0.out _)
            have HQ1 := Lib.hid (show Below w0.heap.size w0 w1 by rw [hw]; exact below_drawn (Below.refl _ _) _)
            have HX1 := Lib.hid (show Bx w1 w.heap.size [u] by rw [hw]; exact HX0.out)
            clear hw
            go_wp2_with fail
            first | with_reducible refine (HF1.out _ HB1.out).mono ?_ | with_reducible refine (HF1L.out _ HB1.out).mono ?_
            rintro e w2 ⟨rfl, n2, hw⟩
            have HB2 := Lib.hid (show Below w.heap.size w w2 by rw [hw]; exact below_drawn HB1.out _)
            have HQ2 := Lib.hid (show Below w0.heap.size w0 w2 by rw [hw]; exact below_drawn HQ1.out _)
            have HX2 := Lib.hid (show Bx w2 w.heap.size [u] by rw [hw]; exact HX1.out)
            clear hw
            go_wp2_with fail
            go_ret2
            rw [HNO.out.1, HNO.out.2]
            exact ⟨_, rfl, own_nilF _ _, HB2.out⟩
        | false =>
          have hg : jrG low high ts = false := by unfold jrG; rw [bf0]; simp
          rw [bf0] at HF0
          have HNO := Lib.hid (jr_no hg)
          clear hg
          have g3b : ((high.length : Int) != (low.length : Int)) = false := by rw [bne_eq_false_iff_eq]; omega
          go_enter Try.func56, Try.ntmps56
          go_wp2_with fail
          with_reducible refine (HF0.out _ HB0.out).mono ?_
          rintro e w1 ⟨rfl, n1, hw⟩
          have HB1 := Lib.hid (show Below w.heap.size w w1 by rw [hw]; exact below_drawn HB0.out _)
          have HQ1 := Lib.hid (show Below w0.heap.size w0 w1 by rw [hw]; exact below_drawn (Below.refl _ _) _)
          have HX1 := Lib.hid (show Bx w1 w.heap.size [u] by rw [hw]; exact HX0.out)
          clear hw
          go_wp2_with fail
          go_ret2
          rw [HNO.out.1, HNO.out.2]
          exact ⟨_, rfl, own_nilF _ _, HB1.out⟩
      · have g3n : ((high.length : Int) != (low.length : Int)) = true := bne_iff_ne.2 (by omega)
        have hg : jrG low high ts = false := by unfold jrG; rw [decide_eq_false (by omega)]; rfl
        have HNO := Lib.hid (jr_no hg)
        clear hg
        go_enter Try.func56, Try.ntmps56
        go_wp2_with fail
        go_ret2
        rw [HNO.out.1, HNO.out.2]
        exact ⟨_, rfl, own_nilF _ _, HB0.out⟩
    · have g2n : 64 < low.length := by omega
      have hg : jrG low high ts = false := by unfold jrG; rw [decide_eq_false (by omega)]; rfl
      have HNO := Lib.hid (jr_no hg)
      clear hg
      go_enter Try.func56, Try.ntmps56
      go_wp2_with fail
      go_ret2
      rw [HNO.out.1, HNO.out.2]
      exact ⟨_, rfl, own_nilF _ _, HB0.out⟩
  · have g1n : low.length < 1 := by omega
    have hg : jrG low high ts = false := by unfold jrG; rw [decide_eq_false (by omega)]; rfl
    have HNO := Lib.hid (jr_no hg)
    clear hg
    go_enter Try.func56, Try.ntmps56
    go_wp2_with fail
    go_ret2
    rw [HNO.out.1, HNO.out.2]
    exact ⟨_, rfl, own_nilF _ _, HB0.out⟩
end Go.Proofs.Ythkklilfignmpaa
