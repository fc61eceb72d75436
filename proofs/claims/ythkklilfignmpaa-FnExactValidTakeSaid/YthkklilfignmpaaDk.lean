/-
  Contracts: the law's own copies, comparisons and sizes of desks.
-/
import Derived.Test.YthkklilfignmpaaDo
import Derived.Test.YthkklilfignmpaaOpS
namespace Go.Proofs.Ythkklilfignmpaa
open Go.RowKit Fl
set_option linter.unusedVariables false
set_option maxRecDepth 100000

/-- A block holds these values, one a cell, and none of them is frozen. -/
def Bx (W : World) (g : Nat) (vs : List Value) : Prop := g < W.heap.size ∧ ∀ (i : Nat) (x : Value), vs[i]? = some x → W.cell? ⟨g, i, none⟩ = some x ∧ W.frozen? ⟨g, i, none⟩ = false
theorem Bx.below {W W' : World} {g B : Nat} {vs : List Value} (h : Bx W g vs) (hb : Below B W W') (hB : g < B) : Bx W' g vs :=
  ⟨Nat.lt_of_lt_of_le h.1 hb.size, fun i x hx => ⟨(hb.cell (p := ⟨g, i, none⟩) hB).trans (h.2 i x hx).1, (hb.frozen (p := ⟨g, i, none⟩) hB).trans (h.2 i x hx).2⟩⟩
theorem Bx.step {W W' : World} {g : Nat} {vs : List Value} (h : Bx W g vs) (hb : Below W.heap.size W W') : Bx W' g vs := h.below hb h.1
theorem Bx.set {W : World} {g : Nat} {vs : List Value} (h : Bx W g vs) (k : Nat) (hk : k < vs.length) (u : Value) : Bx (W.setCell ⟨g, k, none⟩ u) g (vs.set k u) := by
  refine ⟨by simpa [World.setCell] using h.1, fun i x hx => ?_⟩
  rw [World.frozen?_setCell]
  by_cases hik : i = k
  · subst hik
    rw [List.getElem?_set_self hk] at hx
    cases hx
    exact ⟨World.cell?_setCell_same _ _ _ (h.2 i vs[i] (List.getElem?_eq_getElem hk)).1, (h.2 i vs[i] (List.getElem?_eq_getElem hk)).2⟩
  · rw [List.getElem?_set_ne (fun e => hik e.symm)] at hx
    rw [World.cell?_setCell_other _ _ _ _ (by intro e; simp at e <;> omega)]
    exact h.2 i x hx
theorem Bx.other {W : World} {g g' : Nat} {vs : List Value} (h : Bx W g vs) (hg : g' ≠ g) (k : Nat) (u : Value) : Bx (W.setCell ⟨g', k, none⟩ u) g vs := by
  refine ⟨by simpa [World.setCell] using h.1, fun i x hx => ?_⟩
  rw [World.frozen?_setCell, World.cell?_setCell_other _ _ _ _ (by intro e; simp at e <;> omega)]
  exact h.2 i x hx
theorem bx_new (w : World) (vs : List Value) (T : TypeId) : Bx (w.alloc (.cells vs.toArray T)) w.heap.size vs := by
  refine ⟨by simp, fun i x hx => ⟨?_, frozen_of_row _ _ _ _ _ (heap_alloc_new w _)⟩⟩
  rw [cell_of_row _ _ i _ _ _ (heap_alloc_new w _)]
  simpa using hx
def dkN (a0 a1 a2 : List Nat) (a3 : List Bool) : Int := (a0.length : Int) + a1.length + a2.length + a3.length
set_option maxHeartbeats 4000000 in
theorem szD_any (v0 v1 v2 v3 : Value) (a0 a1 a2 : List Nat) (a3 : List Bool) (s : Nat) (p q n t : Int) (l : Int) (w : World) (h0 : Rd w w.heap.size v0 (fl a0)) (h1 : Rd w w.heap.size v1 (fl a1)) (h2 : Rd w w.heap.size v2 (fl a2)) (h3 : Rd w w.heap.size v3 (bl a3)) (hl0 : 0 ≤ l) (hl1 : l ≤ 1048576) (hm0 : a0.length ≤ 9223372036854775807) (hm1 : a1.length ≤ 9223372036854775807) (hm2 : a2.length ≤ 9223372036854775807) (hm3 : a3.length ≤ 9223372036854775807) :
    Calls Try.prog 15 #[.agg #[v0, v1, .float .f32 s, .int .i64 p, .int .i64 q, v2, .int .i64 n, .int .i64 t, v3], .int .i64 l] w fun e w' => e = .returned (.int .i64 (if l < dkN a0 a1 a2 a3 then -1 else l - dkN a0 a1 a2 a3)) ∧ Below w.heap.size w w' := by
  obtain ⟨w0, hw0⟩ : ∃ w0, w.alloc (.cells #[v0, v1, .float .f32 s, .int .i64 p, .int .i64 q, v2, .int .i64 n, .int .i64 t, v3] 32) = w0 := ⟨_, rfl⟩
  have HZ0 := Lib.hid (fun (W : World) (hb : Below w.heap.size w W) => Sf.szF_any v0 a0 l W w.heap.size (h0.below hb) hl0 hl1 hm0)
  have HZ1 := Lib.hid (fun (W : World) (hb : Below w.heap.size w W) (hl : 0 ≤ l - a0.length) => Sf.szSch_any v1 a1 s (l - a0.length) W (h1.step hb) hl (by omega) hm1)
  have HZ2 := Lib.hid (fun (W : World) (hb : Below w.heap.size w W) (hl : 0 ≤ l - a0.length - a1.length) => szPic_any v2 p q a2 (l - a0.length - a1.length) W (h2.step hb) hl (by omega) hm2)
  have HZ3 := Lib.hid (fun (W : World) (hb : Below w.heap.size w W) (hl : 0 ≤ l - a0.length - a1.length - a2.length) => Cf.szCod_any v3 n t a3 (l - a0.length - a1.length - a2.length) W (h3.step hb) hl (by omega) hm3)
  have hb0 : Below w.heap.size w w0 := by rw [← hw0]; exact (Below.refl _ _).alloc (Nat.le_refl _) _
  have hX0 : Bx w0 w.heap.size [v0, v1, .float .f32 s, .int .i64 p, .int .i64 q, v2, .int .i64 n, .int .i64 t, v3] := by rw [← hw0]; exact bx_new w [v0, v1, .float .f32 s, .int .i64 p, .int .i64 q, v2, .int .i64 n, .int .i64 t, v3] _
  have HX0 := Lib.hid hX0
  have HB0 := Lib.hid hb0
  have hN : dkN a0 a1 a2 a3 = (a0.length : Int) + a1.length + a2.length + a3.length := rfl
  have hz : w.heap.size < w0.heap.size := hX0.1
  have p0 := (hX0.2 0 _ rfl).1
  have p1 := (hX0.2 1 _ rfl).1
  have p2 := (hX0.2 2 _ rfl).1
  obtain ⟨A0, c0, hv0, _, _, _⟩ := id h0
  rw [fl_len] at hv0
  subst hv0
  obtain ⟨A1, c1, hv1, _, _, _⟩ := id h1
  rw [fl_len] at hv1
  subst hv1
  obtain ⟨A2, c2, hv2, _, _, _⟩ := id h2
  rw [fl_len] at hv2
  subst hv2
  obtain ⟨A3, c3, hv3, _, _, _⟩ := id h3
  rw [bl_len] at hv3
  subst hv3
  clear h0 h1 h2 h3 hX0 hb0
  by_cases g0 : l < a0.length
  · rw [if_pos (show l < dkN a0 a1 a2 a3 by omega)]
    go_enter Try.func15, Try.ntmps15
    go_wp2_with fail
    refine (HZ0.out _ HB0.out).mono ?_
    rintro e w1 ⟨rfl, rfl⟩
    rw [if_pos g0]
    go_wp2_with fail
    go_ret
    exact ⟨rfl, HB0.out⟩
  · by_cases g1 : l - a0.length < a1.length
    · rw [if_pos (show l < dkN a0 a1 a2 a3 by omega)]
      go_enter Try.func15, Try.ntmps15
      go_wp2_with fail
      refine (HZ0.out _ HB0.out).mono ?_
      rintro e w1 ⟨rfl, rfl⟩
      rw [if_neg (by omega)]
      go_wp2_with fail
      refine (HZ1.out _ HB0.out (by omega)).mono ?_
      rintro e w1 ⟨rfl, hb1⟩
      have HB1 := Lib.hid (HB0.out.trans (hb1.mono HB0.out.size))
      have HX1 := Lib.hid (HX0.out.step hb1)
      clear hb1
      rw [if_pos (by omega)]
      go_wp2_with fail
      go_ret
      exact ⟨rfl, HB1.out⟩
    · by_cases g2 : l - a0.length - a1.length < a2.length
      · rw [if_pos (show l < dkN a0 a1 a2 a3 by omega)]
        go_enter Try.func15, Try.ntmps15
        go_wp2_with fail
        refine (HZ0.out _ HB0.out).mono ?_
        rintro e w1 ⟨rfl, rfl⟩
        rw [if_neg (by omega)]
        go_wp2_with fail
        refine (HZ1.out _ HB0.out (by omega)).mono ?_
        rintro e w1 ⟨rfl, hb1⟩
        have HB1 := Lib.hid (HB0.out.trans (hb1.mono HB0.out.size))
        have HX1 := Lib.hid (HX0.out.step hb1)
        clear hb1
        rw [if_neg (by omega)]
        have r3 := (HX1.out.2 3 _ rfl).1
        have r4 := (HX1.out.2 4 _ rfl).1
        have r5 := (HX1.out.2 5 _ rfl).1
        go_wp2_with fail
        refine (HZ2.out _ HB1.out (by omega)).mono ?_
        rintro e w2 ⟨rfl, hb2⟩
        have HB2 := Lib.hid (HB1.out.trans (hb2.mono HB1.out.size))
        have HX2 := Lib.hid (HX1.out.step hb2)
        clear hb2
        rw [if_pos (by omega)]
        go_wp2_with fail
        go_ret
        exact ⟨rfl, HB2.out⟩
      · by_cases g3 : l - a0.length - a1.length - a2.length < a3.length
        · rw [if_pos (show l < dkN a0 a1 a2 a3 by omega)]
          go_enter Try.func15, Try.ntmps15
          go_wp2_with fail
          refine (HZ0.out _ HB0.out).mono ?_
          rintro e w1 ⟨rfl, rfl⟩
          rw [if_neg (by omega)]
          go_wp2_with fail
          refine (HZ1.out _ HB0.out (by omega)).mono ?_
          rintro e w1 ⟨rfl, hb1⟩
          have HB1 := Lib.hid (HB0.out.trans (hb1.mono HB0.out.size))
          have HX1 := Lib.hid (HX0.out.step hb1)
          clear hb1
          rw [if_neg (by omega)]
          have r3 := (HX1.out.2 3 _ rfl).1
          have r4 := (HX1.out.2 4 _ rfl).1
          have r5 := (HX1.out.2 5 _ rfl).1
          go_wp2_with fail
          refine (HZ2.out _ HB1.out (by omega)).mono ?_
          rintro e w2 ⟨rfl, hb2⟩
          have HB2 := Lib.hid (HB1.out.trans (hb2.mono HB1.out.size))
          have HX2 := Lib.hid (HX1.out.step hb2)
          clear hb2
          rw [if_neg (by omega)]
          have r6 := (HX2.out.2 6 _ rfl).1
          have r7 := (HX2.out.2 7 _ rfl).1
          have r8 := (HX2.out.2 8 _ rfl).1
          go_wp2_with fail
          refine (HZ3.out _ HB2.out (by omega)).mono ?_
          rintro e w3 ⟨rfl, hb3⟩
          have HB3 := Lib.hid (HB2.out.trans (hb3.mono HB2.out.size))
          have HX3 := Lib.hid (HX2.out.step hb3)
          clear hb3
          rw [if_pos (by omega)]
          go_wp2_with fail
          go_ret
          exact ⟨rfl, HB3.out⟩
        · rw [if_neg (show ¬ l < dkN a0 a1 a2 a3 by omega), show l - dkN a0 a1 a2 a3 = l - a0.length - a1.length - a2.length - a3.length by omega]
          go_enter Try.func15, Try.ntmps15
          go_wp2_with fail
          refine (HZ0.out _ HB0.out).mono ?_
          rintro e w1 ⟨rfl, rfl⟩
          rw [if_neg (by omega)]
          go_wp2_with fail
          refine (HZ1.out _ HB0.out (by omega)).mono ?_
          rintro e w1 ⟨rfl, hb1⟩
          have HB1 := Lib.hid (HB0.out.trans (hb1.mono HB0.out.size))
          have HX1 := Lib.hid (HX0.out.step hb1)
          clear hb1
          rw [if_neg (by omega)]
          have r3 := (HX1.out.2 3 _ rfl).1
          have r4 := (HX1.out.2 4 _ rfl).1
          have r5 := (HX1.out.2 5 _ rfl).1
          go_wp2_with fail
          refine (HZ2.out _ HB1.out (by omega)).mono ?_
          rintro e w2 ⟨rfl, hb2⟩
          have HB2 := Lib.hid (HB1.out.trans (hb2.mono HB1.out.size))
          have HX2 := Lib.hid (HX1.out.step hb2)
          clear hb2
          rw [if_neg (by omega)]
          have r6 := (HX2.out.2 6 _ rfl).1
          have r7 := (HX2.out.2 7 _ rfl).1
          have r8 := (HX2.out.2 8 _ rfl).1
          go_wp2_with fail
          refine (HZ3.out _ HB2.out (by omega)).mono ?_
          rintro e w3 ⟨rfl, hb3⟩
          have HB3 := Lib.hid (HB2.out.trans (hb3.mono HB2.out.size))
          have HX3 := Lib.hid (HX2.out.step hb3)
          clear hb3
          rw [if_neg (by omega)]
          go_wp2_with fail
          go_ret
          exact ⟨rfl, HB3.out⟩
set_option maxHeartbeats 4000000 in
theorem eqD_any (v0 v1 v2 v3 : Value) (a0 a1 a2 : List Nat) (a3 : List Bool) (s : Nat) (p q n t : Int) (u0 u1 u2 u3 : Value) (w : World) (h0 : Rd w w.heap.size v0 (fl a0)) (h1 : Rd w w.heap.size v1 (fl a1)) (h2 : Rd w w.heap.size v2 (fl a2)) (h3 : Rd w w.heap.size v3 (bl a3)) (k0 : Rd w w.heap.size u0 (fl a0)) (k1 : Rd w w.heap.size u1 (fl a1)) (k2 : Rd w w.heap.size u2 (fl a2)) (k3 : Rd w w.heap.size u3 (bl a3)) (hm0 : a0.length ≤ 1048576) (hm1 : a1.length ≤ 1048576) (hm2 : a2.length ≤ 1048576) (hm3 : a3.length ≤ 1048576) :
    Calls Try.prog 19 #[.agg #[v0, v1, .float .f32 s, .int .i64 p, .int .i64 q, v2, .int .i64 n, .int .i64 t, v3], .agg #[u0, u1, .float .f32 s, .int .i64 p, .int .i64 q, u2, .int .i64 n, .int .i64 t, u3]] w fun e w' => e = .returned (.bool true) ∧ Below w.heap.size w w' := by
  obtain ⟨w0, hw0⟩ : ∃ w0, (w.alloc (.cells #[v0, v1, .float .f32 s, .int .i64 p, .int .i64 q, v2, .int .i64 n, .int .i64 t, v3] 39)).alloc (.cells #[u0, u1, .float .f32 s, .int .i64 p, .int .i64 q, u2, .int .i64 n, .int .i64 t, u3] 39) = w0 := ⟨_, rfl⟩
  have HE0 := Lib.hid (fun (W : World) (hb : Below w.heap.size w W) => eqF_any v0 u0 a0 a0 W w.heap.size (h0.below hb) (k0.below hb) (Worth.refl _) hm0)
  have HE1 := Lib.hid (fun (W : World) (hb : Below w.heap.size w W) => Sf.eqSch_any v1 u1 a1 s W (h1.step hb) (k1.step hb) hm1)
  have HE2 := Lib.hid (fun (W : World) (hb : Below w.heap.size w W) => eqPic_any v2 u2 p q a2 a2 W (h2.step hb) (k2.step hb) (Worth.refl _) hm2)
  have HE3 := Lib.hid (fun (W : World) (hb : Below w.heap.size w W) => Cf.eqCod_any v3 u3 n t a3 a3 W (h3.step hb) (k3.step hb) rfl hm3)
  have hb0 : Below w.heap.size w w0 := by rw [← hw0]; exact ((Below.refl _ _).alloc (Nat.le_refl _) _).alloc (by simp) _
  have hX0 : Bx w0 w.heap.size [v0, v1, .float .f32 s, .int .i64 p, .int .i64 q, v2, .int .i64 n, .int .i64 t, v3] := by rw [← hw0]; exact (bx_new w [v0, v1, .float .f32 s, .int .i64 p, .int .i64 q, v2, .int .i64 n, .int .i64 t, v3] _).step ((Below.refl _ _).alloc (Nat.le_refl _) _)
  have hY0 : Bx w0 (w.heap.size + 1) [u0, u1, .float .f32 s, .int .i64 p, .int .i64 q, u2, .int .i64 n, .int .i64 t, u3] := by rw [← hw0]; have := bx_new (w.alloc (.cells #[v0, v1, .float .f32 s, .int .i64 p, .int .i64 q, v2, .int .i64 n, .int .i64 t, v3] 39)) [u0, u1, .float .f32 s, .int .i64 p, .int .i64 q, u2, .int .i64 n, .int .i64 t, u3] 39; simpa using this
  have x0 := (hX0.2 0 _ rfl).1
  have y0 := (hY0.2 0 _ rfl).1
  have HX0 := Lib.hid hX0
  have HY0 := Lib.hid hY0
  have HB0 := Lib.hid hb0
  obtain ⟨A0, c0, hv0, _, _, _⟩ := id h0
  rw [fl_len] at hv0
  subst hv0
  obtain ⟨A1, c1, hv1, _, _, _⟩ := id h1
  rw [fl_len] at hv1
  subst hv1
  obtain ⟨A2, c2, hv2, _, _, _⟩ := id h2
  rw [fl_len] at hv2
  subst hv2
  obtain ⟨A3, c3, hv3, _, _, _⟩ := id h3
  rw [bl_len] at hv3
  subst hv3
  obtain ⟨E0, d0, hu0, _, _, _⟩ := id k0
  rw [fl_len] at hu0
  subst hu0
  obtain ⟨E1, d1, hu1, _, _, _⟩ := id k1
  rw [fl_len] at hu1
  subst hu1
  obtain ⟨E2, d2, hu2, _, _, _⟩ := id k2
  rw [fl_len] at hu2
  subst hu2
  obtain ⟨E3, d3, hu3, _, _, _⟩ := id k3
  rw [bl_len] at hu3
  subst hu3
  clear h0 h1 h2 h3 k0 k1 k2 k3 hX0 hY0 hb0
  go_enter Try.func19, Try.ntmps19
  go_wp2_with fail
  refine (HE0.out _ HB0.out).mono ?_
  rintro e w1 ⟨rfl, n1, hw1⟩
  have hb1 : Below w.heap.size w w1 := by rw [hw1]; exact below_drawn HB0.out _
  have HB1 := Lib.hid hb1
  have HX1 := Lib.hid (show Bx w1 w.heap.size _ from by rw [hw1]; exact HX0.out)
  have HY1 := Lib.hid (show Bx w1 (w.heap.size + 1) _ from by rw [hw1]; exact HY0.out)
  clear hb1 hw1
  have x1 := (HX1.out.2 1 _ rfl).1
  have y1 := (HY1.out.2 1 _ rfl).1
  have x2 := (HX1.out.2 2 _ rfl).1
  have y2 := (HY1.out.2 2 _ rfl).1
  go_wp2_with fail
  refine (HE1.out _ HB1.out).mono ?_
  rintro e w2 ⟨rfl, hb⟩
  have HB2 := Lib.hid (HB1.out.trans (hb.mono HB1.out.size))
  have HX2 := Lib.hid (HX1.out.step hb)
  have HY2 := Lib.hid (HY1.out.step hb)
  clear hb x1 y1 x2 y2
  have x3 := (HX2.out.2 3 _ rfl).1
  have y3 := (HY2.out.2 3 _ rfl).1
  have x4 := (HX2.out.2 4 _ rfl).1
  have y4 := (HY2.out.2 4 _ rfl).1
  have x5 := (HX2.out.2 5 _ rfl).1
  have y5 := (HY2.out.2 5 _ rfl).1
  go_wp2_with fail
  refine (HE2.out _ HB2.out).mono ?_
  rintro e w3 ⟨rfl, hb⟩
  have HB3 := Lib.hid (HB2.out.trans (hb.mono HB2.out.size))
  have HX3 := Lib.hid (HX2.out.step hb)
  have HY3 := Lib.hid (HY2.out.step hb)
  clear hb x3 y3 x4 y4 x5 y5
  have x6 := (HX3.out.2 6 _ rfl).1
  have y6 := (HY3.out.2 6 _ rfl).1
  have x7 := (HX3.out.2 7 _ rfl).1
  have y7 := (HY3.out.2 7 _ rfl).1
  have x8 := (HX3.out.2 8 _ rfl).1
  have y8 := (HY3.out.2 8 _ rfl).1
  go_wp2_with fail
  refine (HE3.out _ HB3.out).mono ?_
  rintro e w4 ⟨rfl, hb⟩
  have HB4 := Lib.hid (HB3.out.trans (hb.mono HB3.out.size))
  have HX4 := Lib.hid (HX3.out.step hb)
  have HY4 := Lib.hid (HY3.out.step hb)
  clear hb x6 y6 x7 y7 x8 y8
  go_wp2_with fail
  go_ret
  exact ⟨rfl, HB4.out⟩
end Go.Proofs.Ythkklilfignmpaa
