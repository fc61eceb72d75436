/-
  Contracts: valid desks, of both sides.
-/
import Derived.Test.YthkklilfignmpaaDk
namespace Go.Proofs.Ythkklilfignmpaa
open Go.RowKit Fl
set_option linter.unusedVariables false
set_option maxRecDepth 100000

def vdB (a0 a1 a2 : List Nat) (a3 : List Bool) (s : Nat) (p q n t : Int) : Bool := isL a0 && Sf.vsB a1 s && vpcB p q a2 && Cf.vcB n t a3
set_option maxHeartbeats 4000000 in
theorem vdP_any (g : Nat) (v0 v1 v2 v3 : Value) (a0 a1 a2 : List Nat) (a3 : List Bool) (s : Nat) (p q n t : Int) (w : World) (hX : Bx w g [v0, v1, .float .f32 s, .int .i64 p, .int .i64 q, v2, .int .i64 n, .int .i64 t, v3]) (h0 : Rd w w.heap.size v0 (fl a0)) (h1 : Rd w w.heap.size v1 (fl a1)) (h2 : Rd w w.heap.size v2 (fl a2)) (h3 : Rd w w.heap.size v3 (bl a3)) (hm0 : a0.length ≤ 1048576) (hm1 : a1.length ≤ 1048576) (hm2 : a2.length ≤ 1048576) (hm3 : a3.length ≤ 1048576) (hx0 : ∀ x ∈ a0, x < 2 ^ 32) (hx1 : ∀ x ∈ a1, x < 2 ^ 32) (hx2 : ∀ x ∈ a2, x < 2 ^ 32) (hs : s < 2 ^ 32) :
    Calls Try.prog 72 #[.pointer (some ⟨g, 0, none⟩)] w (RetBo (vdB a0 a1 a2 a3 s p q n t) w) := by
  have HC0 := Lib.hid (fun (m : Nat) => islS_any v0 a0 (w.drewN m) w.heap.size h0 hm0 hx0)
  have HC1 := Lib.hid (fun (m : Nat) => Sf.vsO_any g v1 a1 s (w.drewN m) w.heap.size h1 (hX.2 1 _ rfl).1 (hX.2 2 _ rfl).1 hm1 hx1 hs)
  have HC2 := Lib.hid (fun (m : Nat) => vpO_any g v2 p q a2 (w.drewN m) w.heap.size h2 (hX.2 3 _ rfl).1 (hX.2 4 _ rfl).1 (hX.2 5 _ rfl).1 hm2 hx2)
  have HC3 := Lib.hid (fun (m : Nat) => Cf.vcO_any g v3 n t a3 (w.drewN m) w.heap.size h3 (hX.2 6 _ rfl).1 (hX.2 7 _ rfl).1 (hX.2 8 _ rfl).1)
  have x0 := (hX.2 0 _ rfl).1
  obtain ⟨A0, c0, hv0, _, _, _⟩ := id h0
  rw [fl_len] at hv0
  subst hv0
  obtain ⟨A1, c1, hv1, _, _, _⟩ := id h1
  rw [fl_len] at hv1
  subst hv1
  obtain ⟨A2, c2, hv2, _, _, _⟩ := id h2
  rw [fl_len] at hv2
  subst hv2
  obtain ⟨A3, c3, hv3, _, _, _⟩ := id h3
  rw [bl_len] at hv3
  subst hv3
  clear h0 h1 h2 h3 hX hx0 hx1 hx2
  cases b0 : isL a0 with
  | false =>
    rw [b0] at HC0
    have HV := Lib.hid (show vdB a0 a1 a2 a3 s p q n t = false by unfold vdB; rw [b0]; rfl)
    clear b0
    go_enter Try.func72, Try.ntmps72
    go_wp2_with fail
    refine (HC0.out 0).mono ?_
    rintro e w' ⟨rfl, m1, hw1⟩
    subst hw1
    go_wp2_with fail
    go_ret
    rw [HV.out]
    exact ⟨rfl, _, rfl⟩
  | true =>
    cases b1 : Sf.vsB a1 s with
    | false =>
      rw [b0] at HC0
      rw [b1] at HC1
      have HV := Lib.hid (show vdB a0 a1 a2 a3 s p q n t = false by unfold vdB; rw [b0, b1]; simp)
      clear b0 b1
      go_enter Try.func72, Try.ntmps72
      go_wp2_with fail
      refine (HC0.out 0).mono ?_
      rintro e w' ⟨rfl, m1, hw1⟩
      subst hw1
      go_wp2_with fail
      refine (HC1.out m1).mono ?_
      rintro e w' ⟨rfl, mx, hwx⟩
      rw [World.drewN_drewN] at hwx
      obtain ⟨m2, hm'⟩ : ∃ z, m1 + mx = z := ⟨_, rfl⟩
      rw [hm'] at hwx
      subst hwx
      go_wp2_with fail
      go_ret
      rw [HV.out]
      exact ⟨rfl, _, rfl⟩
    | true =>
      cases b2 : vpcB p q a2 with
      | false =>
        rw [b0] at HC0
        rw [b1] at HC1
        rw [b2] at HC2
        have HV := Lib.hid (show vdB a0 a1 a2 a3 s p q n t = false by unfold vdB; rw [b0, b1, b2]; simp)
        clear b0 b1 b2
        go_enter Try.func72, Try.ntmps72
        go_wp2_with fail
        refine (HC0.out 0).mono ?_
        rintro e w' ⟨rfl, m1, hw1⟩
        subst hw1
        go_wp2_with fail
        refine (HC1.out m1).mono ?_
        rintro e w' ⟨rfl, mx, hwx⟩
        rw [World.drewN_drewN] at hwx
        obtain ⟨m2, hm'⟩ : ∃ z, m1 + mx = z := ⟨_, rfl⟩
        rw [hm'] at hwx
        subst hwx
        go_wp2_with fail
        refine (HC2.out m2).mono ?_
        rintro e w' ⟨rfl, mx, hwx⟩
        rw [World.drewN_drewN] at hwx
        obtain ⟨m3, hm'⟩ : ∃ z, m2 + mx = z := ⟨_, rfl⟩
        rw [hm'] at hwx
        subst hwx
        go_wp2_with fail
        go_ret
        rw [HV.out]
        exact ⟨rfl, _, rfl⟩
      | true =>
        cases b3 : Cf.vcB n t a3 with
        | false =>
          rw [b0] at HC0
          rw [b1] at HC1
          rw [b2] at HC2
          rw [b3] at HC3
          have HV := Lib.hid (show vdB a0 a1 a2 a3 s p q n t = false by unfold vdB; rw [b0, b1, b2, b3]; simp)
          clear b0 b1 b2 b3
          go_enter Try.func72, Try.ntmps72
          go_wp2_with fail
          refine (HC0.out 0).mono ?_
          rintro e w' ⟨rfl, m1, hw1⟩
          subst hw1
          go_wp2_with fail
          refine (HC1.out m1).mono ?_
          rintro e w' ⟨rfl, mx, hwx⟩
          rw [World.drewN_drewN] at hwx
          obtain ⟨m2, hm'⟩ : ∃ z, m1 + mx = z := ⟨_, rfl⟩
          rw [hm'] at hwx
          subst hwx
          go_wp2_with fail
          refine (HC2.out m2).mono ?_
          rintro e w' ⟨rfl, mx, hwx⟩
          rw [World.drewN_drewN] at hwx
          obtain ⟨m3, hm'⟩ : ∃ z, m2 + mx = z := ⟨_, rfl⟩
          rw [hm'] at hwx
          subst hwx
          go_wp2_with fail
          refine (HC3.out m3).mono ?_
          rintro e w' ⟨rfl, hwx⟩
          subst hwx
          obtain ⟨m4, hm'⟩ : ∃ z, m3 = z := ⟨_, rfl⟩
          subst hm'
          go_wp2_with fail
          go_ret
          rw [HV.out]
          exact ⟨rfl, _, rfl⟩
        | true =>
          rw [b0] at HC0
          rw [b1] at HC1
          rw [b2] at HC2
          rw [b3] at HC3
          have HV := Lib.hid (show vdB a0 a1 a2 a3 s p q n t = true by unfold vdB; rw [b0, b1, b2, b3]; rfl)
          clear b0 b1 b2 b3
          go_enter Try.func72, Try.ntmps72
          go_wp2_with fail
          refine (HC0.out 0).mono ?_
          rintro e w' ⟨rfl, m1, hw1⟩
          subst hw1
          go_wp2_with fail
          refine (HC1.out m1).mono ?_
          rintro e w' ⟨rfl, mx, hwx⟩
          rw [World.drewN_drewN] at hwx
          obtain ⟨m2, hm'⟩ : ∃ z, m1 + mx = z := ⟨_, rfl⟩
          rw [hm'] at hwx
          subst hwx
          go_wp2_with fail
          refine (HC2.out m2).mono ?_
          rintro e w' ⟨rfl, mx, hwx⟩
          rw [World.drewN_drewN] at hwx
          obtain ⟨m3, hm'⟩ : ∃ z, m2 + mx = z := ⟨_, rfl⟩
          rw [hm'] at hwx
          subst hwx
          go_wp2_with fail
          refine (HC3.out m3).mono ?_
          rintro e w' ⟨rfl, hwx⟩
          subst hwx
          obtain ⟨m4, hm'⟩ : ∃ z, m3 = z := ⟨_, rfl⟩
          subst hm'
          go_wp2_with fail
          go_ret
          rw [HV.out]
          exact ⟨rfl, _, rfl⟩
set_option maxHeartbeats 4000000 in
theorem vdS_any (v0 v1 v2 v3 : Value) (a0 a1 a2 : List Nat) (a3 : List Bool) (s : Nat) (p q n t : Int) (w : World) (h0 : Rd w w.heap.size v0 (fl a0)) (h1 : Rd w w.heap.size v1 (fl a1)) (h2 : Rd w w.heap.size v2 (fl a2)) (h3 : Rd w w.heap.size v3 (bl a3)) (hm0 : a0.length ≤ 1048576) (hm1 : a1.length ≤ 1048576) (hm2 : a2.length ≤ 1048576) (hm3 : a3.length ≤ 1048576) (hx0 : ∀ x ∈ a0, x < 2 ^ 32) (hx1 : ∀ x ∈ a1, x < 2 ^ 32) (hx2 : ∀ x ∈ a2, x < 2 ^ 32) (hs : s < 2 ^ 32) :
    Calls Try.prog 16 #[.agg #[v0, v1, .float .f32 s, .int .i64 p, .int .i64 q, v2, .int .i64 n, .int .i64 t, v3]] w fun e w' => e = .returned (.bool (vdB a0 a1 a2 a3 s p q n t)) ∧ Below w.heap.size w w' := by
  have hb0 : Below w.heap.size w (w.alloc (.cells #[v0, v1, .float .f32 s, .int .i64 p, .int .i64 q, v2, .int .i64 n, .int .i64 t, v3] 39)) := (Below.refl _ _).alloc (Nat.le_refl _) _
  have HW := Lib.hid (vdP_any w.heap.size v0 v1 v2 v3 a0 a1 a2 a3 s p q n t _ (bx_new w [v0, v1, .float .f32 s, .int .i64 p, .int .i64 q, v2, .int .i64 n, .int .i64 t, v3] 39) (h0.step hb0) (h1.step hb0) (h2.step hb0) (h3.step hb0) hm0 hm1 hm2 hm3 hx0 hx1 hx2 hs)
  have HB := Lib.hid hb0
  obtain ⟨A0, c0, hv0, _, _, _⟩ := id h0
  rw [fl_len] at hv0
  subst hv0
  obtain ⟨A1, c1, hv1, _, _, _⟩ := id h1
  rw [fl_len] at hv1
  subst hv1
  obtain ⟨A2, c2, hv2, _, _, _⟩ := id h2
  rw [fl_len] at hv2
  subst hv2
  obtain ⟨A3, c3, hv3, _, _, _⟩ := id h3
  rw [bl_len] at hv3
  subst hv3
  clear h0 h1 h2 h3 hx0 hx1 hx2 hb0
  go_enter Try.func16, Try.ntmps16
  go_wp2_with fail
  refine HW.out.mono ?_
  rintro e w1 ⟨rfl, n, rfl⟩
  go_wp2_with fail
  go_ret
  exact ⟨rfl, below_drawn HB.out _⟩
set_option maxHeartbeats 4000000 in
theorem vdI_any (v0 v1 v2 v3 : Value) (a0 a1 a2 : List Nat) (a3 : List Bool) (s : Nat) (p q n t : Int) (w : World) (h0 : Rd w w.heap.size v0 (fl a0)) (h1 : Rd w w.heap.size v1 (fl a1)) (h2 : Rd w w.heap.size v2 (fl a2)) (h3 : Rd w w.heap.size v3 (bl a3)) (hm0 : a0.length ≤ 1048576) (hm1 : a1.length ≤ 1048576) (hm2 : a2.length ≤ 1048576) (hm3 : a3.length ≤ 1048576) (hx0 : ∀ x ∈ a0, x < 2 ^ 32) (hx1 : ∀ x ∈ a1, x < 2 ^ 32) (hx2 : ∀ x ∈ a2, x < 2 ^ 32) (hs : s < 2 ^ 32) :
    Calls Try.prog 18 #[.agg #[v0, v1, .float .f32 s, .int .i64 p, .int .i64 q, v2, .int .i64 n, .int .i64 t, v3]] w fun e w' => e = .returned (.bool (vdB a0 a1 a2 a3 s p q n t)) ∧ Below w.heap.size w w' := by
  obtain ⟨w0, hw0⟩ : ∃ w0, w.alloc (.cells #[v0, v1, .float .f32 s, .int .i64 p, .int .i64 q, v2, .int .i64 n, .int .i64 t, v3] 39) = w0 := ⟨_, rfl⟩
  have hb0 : Below w.heap.size w w0 := by rw [← hw0]; exact (Below.refl _ _).alloc (Nat.le_refl _) _
  have hX0 : Bx w0 w.heap.size [v0, v1, .float .f32 s, .int .i64 p, .int .i64 q, v2, .int .i64 n, .int .i64 t, v3] := by rw [← hw0]; exact bx_new w [v0, v1, .float .f32 s, .int .i64 p, .int .i64 q, v2, .int .i64 n, .int .i64 t, v3] _
  have HC0 := Lib.hid (fun (W : World) (hb : Below w.heap.size w W) => (isI_any v0 a0 W W.heap.size (h0.step hb) hm0 hx0).mono (R' := fun e W' => e = .returned (.bool (isL a0)) ∧ Below W.heap.size W W') fun e W' ⟨he, n, hn⟩ => ⟨he, by rw [hn]; exact below_drawn (Below.refl _ _) _⟩)
  have HC1 := Lib.hid (fun (W : World) (hb : Below w.heap.size w W) => Sf.vsI_any v1 a1 s W (h1.step hb) hm1 hx1 hs)
  have HC2 := Lib.hid (fun (W : World) (hb : Below w.heap.size w W) => vpI_any v2 p q a2 W (h2.step hb) hm2 hx2)
  have HC3 := Lib.hid (fun (W : World) (hb : Below w.heap.size w W) => Cf.vcI_any v3 n t a3 W (h3.step hb))
  have x0 := (hX0.2 0 _ rfl).1
  have HX0 := Lib.hid hX0
  have HB0 := Lib.hid hb0
  obtain ⟨A0, c0, hv0, _, _, _⟩ := id h0
  rw [fl_len] at hv0
  subst hv0
  obtain ⟨A1, c1, hv1, _, _, _⟩ := id h1
  rw [fl_len] at hv1
  subst hv1
  obtain ⟨A2, c2, hv2, _, _, _⟩ := id h2
  rw [fl_len] at hv2
  subst hv2
  obtain ⟨A3, c3, hv3, _, _, _⟩ := id h3
  rw [bl_len] at hv3
  subst hv3
  clear h0 h1 h2 h3 hX0 hb0 hx0 hx1 hx2
  cases b0 : isL a0 with
  | false =>
    rw [b0] at HC0
    have HV := Lib.hid (show vdB a0 a1 a2 a3 s p q n t = false by unfold vdB; rw [b0]; rfl)
    clear b0
    go_enter Try.func18, Try.ntmps18
    go_wp2_with fail
    refine (HC0.out _ HB0.out).mono ?_
    rintro e w1 ⟨rfl, hb⟩
    have HB1 := Lib.hid (HB0.out.trans (hb.mono HB0.out.size))
    have HX1 := Lib.hid (HX0.out.step hb)
    have x1 := (HX1.out.2 1 _ rfl).1
    have x2 := (HX1.out.2 2 _ rfl).1
    clear hb
    go_wp2_with fail
    go_ret
    rw [HV.out]
    exact ⟨rfl, HB1.out⟩
  | true =>
    cases b1 : Sf.vsB a1 s with
    | false =>
      rw [b0] at HC0
      rw [b1] at HC1
      have HV := Lib.hid (show vdB a0 a1 a2 a3 s p q n t = false by unfold vdB; rw [b0, b1]; simp)
      clear b0 b1
      go_enter Try.func18, Try.ntmps18
      go_wp2_with fail
      refine (HC0.out _ HB0.out).mono ?_
      rintro e w1 ⟨rfl, hb⟩
      have HB1 := Lib.hid (HB0.out.trans (hb.mono HB0.out.size))
      have HX1 := Lib.hid (HX0.out.step hb)
      have x1 := (HX1.out.2 1 _ rfl).1
      have x2 := (HX1.out.2 2 _ rfl).1
      clear hb
      go_wp2_with fail
      refine (HC1.out _ HB1.out).mono ?_
      rintro e w2 ⟨rfl, hb⟩
      have HB2 := Lib.hid (HB1.out.trans (hb.mono HB1.out.size))
      have HX2 := Lib.hid (HX1.out.step hb)
      have x3 := (HX2.out.2 3 _ rfl).1
      have x4 := (HX2.out.2 4 _ rfl).1
      have x5 := (HX2.out.2 5 _ rfl).1
      clear hb
      go_wp2_with fail
      go_ret
      rw [HV.out]
      exact ⟨rfl, HB2.out⟩
    | true =>
      cases b2 : vpcB p q a2 with
      | false =>
        rw [b0] at HC0
        rw [b1] at HC1
        rw [b2] at HC2
        have HV := Lib.hid (show vdB a0 a1 a2 a3 s p q n t = false by unfold vdB; rw [b0, b1, b2]; simp)
        clear b0 b1 b2
        go_enter Try.func18, Try.ntmps18
        go_wp2_with fail
        refine (HC0.out _ HB0.out).mono ?_
        rintro e w1 ⟨rfl, hb⟩
        have HB1 := Lib.hid (HB0.out.trans (hb.mono HB0.out.size))
        have HX1 := Lib.hid (HX0.out.step hb)
        have x1 := (HX1.out.2 1 _ rfl).1
        have x2 := (HX1.out.2 2 _ rfl).1
        clear hb
        go_wp2_with fail
        refine (HC1.out _ HB1.out).mono ?_
        rintro e w2 ⟨rfl, hb⟩
        have HB2 := Lib.hid (HB1.out.trans (hb.mono HB1.out.size))
        have HX2 := Lib.hid (HX1.out.step hb)
        have x3 := (HX2.out.2 3 _ rfl).1
        have x4 := (HX2.out.2 4 _ rfl).1
        have x5 := (HX2.out.2 5 _ rfl).1
        clear hb
        go_wp2_with fail
        refine (HC2.out _ HB2.out).mono ?_
        rintro e w3 ⟨rfl, hb⟩
        have HB3 := Lib.hid (HB2.out.trans (hb.mono HB2.out.size))
        have HX3 := Lib.hid (HX2.out.step hb)
        have x6 := (HX3.out.2 6 _ rfl).1
        have x7 := (HX3.out.2 7 _ rfl).1
        have x8 := (HX3.out.2 8 _ rfl).1
        clear hb
        go_wp2_with fail
        go_ret
        rw [HV.out]
        exact ⟨rfl, HB3.out⟩
      | true =>
        cases b3 : Cf.vcB n t a3 with
        | false =>
          rw [b0] at HC0
          rw [b1] at HC1
          rw [b2] at HC2
          rw [b3] at HC3
          have HV := Lib.hid (show vdB a0 a1 a2 a3 s p q n t = false by unfold vdB; rw [b0, b1, b2, b3]; simp)
          clear b0 b1 b2 b3
          go_enter Try.func18, Try.ntmps18
          go_wp2_with fail
          refine (HC0.out _ HB0.out).mono ?_
          rintro e w1 ⟨rfl, hb⟩
          have HB1 := Lib.hid (HB0.out.trans (hb.mono HB0.out.size))
          have HX1 := Lib.hid (HX0.out.step hb)
          have x1 := (HX1.out.2 1 _ rfl).1
          have x2 := (HX1.out.2 2 _ rfl).1
          clear hb
          go_wp2_with fail
          refine (HC1.out _ HB1.out).mono ?_
          rintro e w2 ⟨rfl, hb⟩
          have HB2 := Lib.hid (HB1.out.trans (hb.mono HB1.out.size))
          have HX2 := Lib.hid (HX1.out.step hb)
          have x3 := (HX2.out.2 3 _ rfl).1
          have x4 := (HX2.out.2 4 _ rfl).1
          have x5 := (HX2.out.2 5 _ rfl).1
          clear hb
          go_wp2_with fail
          refine (HC2.out _ HB2.out).mono ?_
          rintro e w3 ⟨rfl, hb⟩
          have HB3 := Lib.hid (HB2.out.trans (hb.mono HB2.out.size))
          have HX3 := Lib.hid (HX2.out.step hb)
          have x6 := (HX3.out.2 6 _ rfl).1
          have x7 := (HX3.out.2 7 _ rfl).1
          have x8 := (HX3.out.2 8 _ rfl).1
          clear hb
          go_wp2_with fail
          refine (HC3.out _ HB3.out).mono ?_
          rintro e w4 ⟨rfl, hb⟩
          have HB4 := Lib.hid (HB3.out.trans (hb.mono HB3.out.size))
          clear hb
          go_wp2_with fail
          go_ret
          rw [HV.out]
          exact ⟨rfl, HB4.out⟩
        | true =>
          rw [b0] at HC0
          rw [b1] at HC1
          rw [b2] at HC2
          rw [b3] at HC3
          have HV := Lib.hid (show vdB a0 a1 a2 a3 s p q n t = true by unfold vdB; rw [b0, b1, b2, b3]; rfl)
          clear b0 b1 b2 b3
          go_enter Try.func18, Try.ntmps18
          go_wp2_with fail
          refine (HC0.out _ HB0.out).mono ?_
          rintro e w1 ⟨rfl, hb⟩
          have HB1 := Lib.hid (HB0.out.trans (hb.mono HB0.out.size))
          have HX1 := Lib.hid (HX0.out.step hb)
          have x1 := (HX1.out.2 1 _ rfl).1
          have x2 := (HX1.out.2 2 _ rfl).1
          clear hb
          go_wp2_with fail
          refine (HC1.out _ HB1.out).mono ?_
          rintro e w2 ⟨rfl, hb⟩
          have HB2 := Lib.hid (HB1.out.trans (hb.mono HB1.out.size))
          have HX2 := Lib.hid (HX1.out.step hb)
          have x3 := (HX2.out.2 3 _ rfl).1
          have x4 := (HX2.out.2 4 _ rfl).1
          have x5 := (HX2.out.2 5 _ rfl).1
          clear hb
          go_wp2_with fail
          refine (HC2.out _ HB2.out).mono ?_
          rintro e w3 ⟨rfl, hb⟩
          have HB3 := Lib.hid (HB2.out.trans (hb.mono HB2.out.size))
          have HX3 := Lib.hid (HX2.out.step hb)
          have x6 := (HX3.out.2 6 _ rfl).1
          have x7 := (HX3.out.2 7 _ rfl).1
          have x8 := (HX3.out.2 8 _ rfl).1
          clear hb
          go_wp2_with fail
          refine (HC3.out _ HB3.out).mono ?_
          rintro e w4 ⟨rfl, hb⟩
          have HB4 := Lib.hid (HB3.out.trans (hb.mono HB3.out.size))
          clear hb
          go_wp2_with fail
          go_ret
          rw [HV.out]
          exact ⟨rfl, HB4.out⟩
end Go.Proofs.Ythkklilfignmpaa
