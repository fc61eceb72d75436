/-
  Contracts: DistanceOf of both sides.
-/
import Derived.Test.YthkklilfignmpaaDs
namespace Go.Proofs.Ythkklilfignmpaa
open Go.RowKit Fl
set_option linter.unusedVariables false
set_option maxRecDepth 100000
theorem ds_no {p0 q0 p1 q1 : Int} {a0 a1 : List Nat} (h : botB p0 q0 a0 p1 q1 a1 = false) : dsV p0 q0 a0 p1 q1 a1 = 0 ∧ dsB p0 q0 a0 p1 q1 a1 = false := by unfold dsV dsB; rw [h]; exact ⟨rfl, rfl⟩
theorem ds_yes {p0 q0 p1 q1 : Int} {a0 a1 : List Nat} (h : botB p0 q0 a0 p1 q1 a1 = true) : dsV p0 q0 a0 p1 q1 a1 = fnV (rtF (dsX a0 a1)) ∧ dsB p0 q0 a0 p1 q1 a1 = finB .f32 (rtF (dsX a0 a1)) := by
  obtain ⟨f0, f1, _, l1, l2⟩ := bot_len h
  unfold dsV dsB; rw [h, (ds_fin f0 f1 l1 l2).1]; exact ⟨rfl, rfl⟩
theorem en_ok {a0 a1 : List Nat} (f0 : finA a0 = true) (f1 : finA a1 = true) : Is .f32 (enF (dfL a0 a1)) (enF (dfL a0 a1)) := by
  have h := dk_nn (df_not f0 f1) (dfL a0 a1).length (Nat.le_refl _)
  refine ⟨cn_of_not (nn_not h), ?_⟩
  unfold enF
  cases hl : (dfL a0 a1).length with
  | zero => show (0 : Nat) < _; decide
  | succ k => rw [dotK_succ _ _ k (by omega) (by omega)]; exact ar_ltS _ _ _
set_option maxHeartbeats 4000000 in
theorem dsS_any (v0 : Value) (p0 q0 : Int) (a0 : List Nat) (v1 : Value) (p1 q1 : Int) (a1 : List Nat) (w : World) (h0 : Rd w w.heap.size v0 (fl a0)) (h1 : Rd w w.heap.size v1 (fl a1)) (hm0 : a0.length ≤ 1048576) (hx0 : ∀ x ∈ a0, x < 2 ^ 32) (hm1 : a1.length ≤ 1048576) (hx1 : ∀ x ∈ a1, x < 2 ^ 32) :
    Calls Try.prog 50 #[.agg #[.int .i64 p0, .int .i64 q0, v0], .agg #[.int .i64 p1, .int .i64 q1, v1]] w (RetFb (dsV p0 q0 a0 p1 q1 a1) (dsB p0 q0 a0 p1 q1 a1) w) := by
  obtain ⟨w0, hw0⟩ : ∃ W, (w.alloc (.cells #[.int .i64 p0, .int .i64 q0, v0] 36)).alloc (.cells #[.int .i64 p1, .int .i64 q1, v1] 36) = W := ⟨_, rfl⟩
  have hb0 : Below w.heap.size w w0 := by rw [← hw0]; exact ((Below.refl _ _).alloc (Nat.le_refl _) _).alloc (by simp) _
  have hX : Bx w0 w.heap.size [.int .i64 p0, .int .i64 q0, v0] := by rw [← hw0]; exact (bx_new w [.int .i64 p0, .int .i64 q0, v0] _).step ((Below.refl _ _).alloc (Nat.le_refl _) _)
  have hY : Bx w0 (w.heap.size + 1) [.int .i64 p1, .int .i64 q1, v1] := by rw [← hw0]; have := bx_new (w.alloc (.cells #[.int .i64 p0, .int .i64 q0, v0] 36)) [.int .i64 p1, .int .i64 q1, v1] 36; simpa using this
  have HB0 := Lib.hid hb0
  have HX := Lib.hid hX
  have HYY := Lib.hid hY
  have HBO := Lib.hid (botS_any w.heap.size (w.heap.size + 1) v0 p0 q0 a0 v1 p1 q1 a1 w0 w0.heap.size (h0.step hb0) (h1.step hb0) hX hY hm0 hx0 hm1 hx1)
  have HF := Lib.hid (fun (m : Nat) (f0 : finA a0 = true) (f1 : finA a1 = true) (hl : a1.length = a0.length) (l1 : 1 ≤ a0.length) (l2 : a0.length ≤ 256) => farS_any w.heap.size (w.heap.size + 1) v0 p0 q0 a0 v1 p1 q1 a1 (w0.drewN m) ((h0.step hb0).drewN m) ((h1.step hb0).drewN m) hX hY hm0 hx0 hm1 hx1 f0 f1 hl l1 l2)
  obtain ⟨A0, c0, hv0, _, _, _⟩ := id h0
  obtain ⟨A1, c1, hv1, _, _, _⟩ := id h1
  rw [fl_len] at hv0 hv1
  subst hv0 hv1
  clear h0 h1 hX hY hb0 hx0 hx1
  cases hbo : botB p0 q0 a0 p1 q1 a1 with
  | false =>
    rw [hbo] at HBO
    obtain ⟨e1, e2⟩ := ds_no hbo
    rw [e1, e2]
    clear hbo e1 e2 HF
    go_enter Try.func50, Try.ntmps50
    go_wp2_with fail
    with_reducible refine HBO.out.mono ?_
    rintro e w1 ⟨rfl, n1, rfl⟩
    go_wp2_with fail
    go_ret2
    exact ⟨_, rfl, is_lit (by decide), below_drawn HB0.out _⟩
  | true =>
    rw [hbo] at HBO
    obtain ⟨e1, e2⟩ := ds_yes hbo
    obtain ⟨f0, f1, hl, l1, l2⟩ := bot_len hbo
    have HFF := Lib.hid (fun m => HF.out m f0 f1 hl l1 l2)
    rw [e1, e2]
    generalize rtF (dsX a0 a1) = c at *
    clear hbo e1 e2 HF f0 f1 hl l1 l2
    go_enter Try.func50, Try.ntmps50
    go_wp2_with fail
    with_reducible refine HBO.out.mono ?_
    rintro e w1 ⟨rfl, n1, rfl⟩
    go_wp2_with fail
    with_reducible refine (HFF.out _).mono ?_
    rintro e w2 ⟨r, rfl, hr, hb⟩
    have HB2 := Lib.hid (show Below w.heap.size w w2 from (below_drawn HB0.out n1).trans (hb.mono HB0.out.size))
    clear hb
    go_wp2_with fail
    with_reducible refine (numS_any _ _ _ hr).mono ?_
    rintro e w3 ⟨r3, n3, rfl, hr3, rfl⟩
    go_wp2_with fail
    go_ret2
    exact ⟨_, rfl, hr3, below_drawn HB2.out _⟩
set_option maxHeartbeats 4000000 in
theorem dsI_any (v0 : Value) (p0 q0 : Int) (a0 : List Nat) (v1 : Value) (p1 q1 : Int) (a1 : List Nat) (w : World) (h0 : Rd w w.heap.size v0 (fl a0)) (h1 : Rd w w.heap.size v1 (fl a1)) (hm0 : a0.length ≤ 1048576) (hx0 : ∀ x ∈ a0, x < 2 ^ 32) (hm1 : a1.length ≤ 1048576) (hx1 : ∀ x ∈ a1, x < 2 ^ 32) :
    Calls Try.prog 51 #[.agg #[.int .i64 p0, .int .i64 q0, v0], .agg #[.int .i64 p1, .int .i64 q1, v1]] w (RetFb (dsV p0 q0 a0 p1 q1 a1) (dsB p0 q0 a0 p1 q1 a1) w) := by
  obtain ⟨A0, c0, hv0, _, _, _⟩ := id h0
  obtain ⟨A1, c1, hv1, _, _, _⟩ := id h1
  rw [fl_len] at hv0 hv1
  subst hv0 hv1
  obtain ⟨w0, hw0⟩ : ∃ W, (w.alloc (.cells #[.int .i64 p0, .int .i64 q0, .slice A0 a0.length c0] 36)).alloc (.cells #[.int .i64 p1, .int .i64 q1, .slice A1 a1.length c1] 36) = W := ⟨_, rfl⟩
  have hb0 : Below w.heap.size w w0 := by rw [← hw0]; exact ((Below.refl _ _).alloc (Nat.le_refl _) _).alloc (by simp) _
  have hX : Bx w0 w.heap.size [.int .i64 p0, .int .i64 q0, .slice A0 a0.length c0] := by rw [← hw0]; exact (bx_new w [.int .i64 p0, .int .i64 q0, .slice A0 a0.length c0] _).step ((Below.refl _ _).alloc (Nat.le_refl _) _)
  have hY : Bx w0 (w.heap.size + 1) [.int .i64 p1, .int .i64 q1, .slice A1 a1.length c1] := by rw [← hw0]; have := bx_new (w.alloc (.cells #[.int .i64 p0, .int .i64 q0, .slice A0 a0.length c0] 36)) [.int .i64 p1, .int .i64 q1, .slice A1 a1.length c1] 36; simpa using this
  have HB0 := Lib.hid hb0
  have HX := Lib.hid hX
  have HYY := Lib.hid hY
  have HBO := Lib.hid (botI_any (.slice A0 a0.length c0) p0 q0 a0 (.slice A1 a1.length c1) p1 q1 a1 w0 (h0.step hb0) (h1.step hb0) hm0 hx0 hm1 hx1)
  have HF := Lib.hid (fun (W : World) (hb : Below w.heap.size w W) (f0 : finA a0 = true) (f1 : finA a1 = true) (hl : a1.length = a0.length) (l1 : 1 ≤ a0.length) => dfI_any (.slice A0 a0.length c0) (.slice A1 a1.length c1) a0 a1 W (h0.step hb) (h1.step hb) hl l1 hm0 f0 f1)
  have x0 := (hX.2 0 _ rfl).1
  have y0 := (hY.2 0 _ rfl).1
  have x1 := (hX.2 1 _ rfl).1
  have y1 := (hY.2 1 _ rfl).1
  have x2 := (hX.2 2 _ rfl).1
  have y2 := (hY.2 2 _ rfl).1
  clear h0 h1 hX hY hb0 hx0 hx1
  cases hbo : botB p0 q0 a0 p1 q1 a1 with
  | false =>
    rw [hbo] at HBO
    obtain ⟨e1, e2⟩ := ds_no hbo
    rw [e1, e2]
    clear hbo e1 e2 HF
    go_enter Try.func51, Try.ntmps51
    go_wp2_with fail
    with_reducible refine HBO.out.mono ?_
    rintro e w1 ⟨rfl, hb⟩
    have HB1 := Lib.hid (HB0.out.trans (hb.mono HB0.out.size))
    clear hb
    go_wp2_with fail
    go_ret2
    exact ⟨_, rfl, is_lit (by decide), HB1.out⟩
  | true =>
    rw [hbo] at HBO
    obtain ⟨e1, e2⟩ := ds_yes hbo
    obtain ⟨f0, f1, hl, l1, l2⟩ := bot_len hbo
    obtain ⟨e3, e4⟩ := ds_fin f0 f1 l1 l2
    have HFF := Lib.hid (fun W hb => HF.out W hb f0 f1 hl l1)
    have HEN := Lib.hid (en_ok f0 f1)
    have HLEN := Lib.hid (show (dfL a0 a1).length = a0.length ∧ 1 ≤ a0.length ∧ a0.length ≤ 256 from ⟨dfL_len _ _, l1, l2⟩)
    rw [e1, e2, ← e4, e3]
    have HM := Lib.hid (show dsX a0 a1 = msX (dfL a0 a1) from rfl)
    clear hbo e1 e2 e3 e4 HF f0 f1 hl l1 l2
    go_enter Try.func51, Try.ntmps51
    go_wp2_with fail
    with_reducible refine HBO.out.mono ?_
    rintro e w1 ⟨rfl, hb⟩
    have HB1 := Lib.hid (HB0.out.trans (hb.mono HB0.out.size))
    have X1 := Lib.hid (HX.out.step hb)
    have Y1 := Lib.hid (HYY.out.step hb)
    have u2 := (X1.out.2 2 _ rfl).1
    have t2 := (Y1.out.2 2 _ rfl).1
    clear hb x0 x1 x2 y0 y1 y2
    go_wp2_with fail
    first | with_reducible refine (HFF.out _ HB1.out).mono ?_ | refine (HFF.out _ HB1.out).mono ?_
    rintro e w2 ⟨vd, rfl, ho, hb⟩
    have HB2 := Lib.hid (HB1.out.trans (hb.mono HB1.out.size))
    have HMS := Lib.hid (msI_any vd (dfL a0 a1) w2 w2.heap.size ho.rd (by have := HLEN.out; omega) (by have := HLEN.out; omega) ⟨_, HEN.out⟩)
    rw [← HM.out] at HMS
    obtain ⟨Ad, cd, hvd, _, _, _⟩ := id ho
    rw [fl_len, HLEN.out.1] at hvd
    subst hvd
    clear ho hb
    generalize dsX a0 a1 = M at *
    go_wp2_with fail
    with_reducible refine HMS.out.mono ?_
    rintro e w3 ⟨r3, n3, rfl, hr3, rfl⟩
    go_wp2_with fail
    with_reducible refine (rtI_any _ _ _ hr3).mono ?_
    rintro e w4 ⟨r4, n4, rfl, hr4, rfl⟩
    go_wp2_with fail
    go_ret2
    exact ⟨_, rfl, hr4, by first | exact below_drawn (below_drawn HB2.out _) _ | exact below_drawn HB2.out _⟩
end Go.Proofs.Ythkklilfignmpaa
