/-
  Contracts: desks that are the same, of both sides.
-/
import Derived.Test.YthkklilfignmpaaDk
namespace Go.Proofs.Ythkklilfignmpaa
open Go.RowKit Fl
set_option linter.unusedVariables false
set_option maxRecDepth 100000

def skB (x00 x01 x02 : List Nat) (x03 : List Bool) (s0 : Nat) (p0 q0 n0 t0 : Int) (x10 x11 x12 : List Nat) (x13 : List Bool) (s1 : Nat) (p1 q1 n1 t1 : Int) : Bool := wsB x00 x10 && Sg.ssB x01 s0 x11 s1 && spcB p0 q0 x02 p1 q1 x12 && Cf.scdB n0 t0 x03 n1 t1 x13
set_option maxHeartbeats 4000000 in
theorem sdS_any (v00 v01 v02 v03 : Value) (x00 x01 x02 : List Nat) (x03 : List Bool) (s0 : Nat) (p0 q0 n0 t0 : Int) (v10 v11 v12 v13 : Value) (x10 x11 x12 : List Nat) (x13 : List Bool) (s1 : Nat) (p1 q1 n1 t1 : Int) (w : World) (h00 : Rd w w.heap.size v00 (fl x00)) (h01 : Rd w w.heap.size v01 (fl x01)) (h02 : Rd w w.heap.size v02 (fl x02)) (h03 : Rd w w.heap.size v03 (bl x03)) (h10 : Rd w w.heap.size v10 (fl x10)) (h11 : Rd w w.heap.size v11 (fl x11)) (h12 : Rd w w.heap.size v12 (fl x12)) (h13 : Rd w w.heap.size v13 (bl x13)) (hm00 : x00.length ≤ 1048576) (hm01 : x01.length ≤ 1048576) (hm02 : x02.length ≤ 1048576) (hm03 : x03.length ≤ 1048576) (hx00 : ∀ x ∈ x00, x < 2 ^ 32) (hx01 : ∀ x ∈ x01, x < 2 ^ 32) (hx02 : ∀ x ∈ x02, x < 2 ^ 32) (hs0 : s0 < 2 ^ 32) (hm10 : x10.length ≤ 1048576) (hm11 : x11.length ≤ 1048576) (hm12 : x12.length ≤ 1048576) (hm13 : x13.length ≤ 1048576) (hx10 : ∀ x ∈ x10, x < 2 ^ 32) (hx11 : ∀ x ∈ x11, x < 2 ^ 32) (hx12 : ∀ x ∈ x12, x < 2 ^ 32) (hs1 : s1 < 2 ^ 32) :
    Calls Try.prog 20 #[.agg #[v00, v01, .float .f32 s0, .int .i64 p0, .int .i64 q0, v02, .int .i64 n0, .int .i64 t0, v03], .agg #[v10, v11, .float .f32 s1, .int .i64 p1, .int .i64 q1, v12, .int .i64 n1, .int .i64 t1, v13]] w fun e w' => e = .returned (.bool (skB x00 x01 x02 x03 s0 p0 q0 n0 t0 x10 x11 x12 x13 s1 p1 q1 n1 t1)) ∧ Below w.heap.size w w' := by
  obtain ⟨w0, hw0⟩ : ∃ w0, (w.alloc (.cells #[v00, v01, .float .f32 s0, .int .i64 p0, .int .i64 q0, v02, .int .i64 n0, .int .i64 t0, v03] 39)).alloc (.cells #[v10, v11, .float .f32 s1, .int .i64 p1, .int .i64 q1, v12, .int .i64 n1, .int .i64 t1, v13] 39) = w0 := ⟨_, rfl⟩
  have hb0 : Below w.heap.size w w0 := by rw [← hw0]; exact ((Below.refl _ _).alloc (Nat.le_refl _) _).alloc (by simp) _
  have hX : Bx w0 w.heap.size [v00, v01, .float .f32 s0, .int .i64 p0, .int .i64 q0, v02, .int .i64 n0, .int .i64 t0, v03] := by rw [← hw0]; exact (bx_new w [v00, v01, .float .f32 s0, .int .i64 p0, .int .i64 q0, v02, .int .i64 n0, .int .i64 t0, v03] _).step ((Below.refl _ _).alloc (Nat.le_refl _) _)
  have hY : Bx w0 (w.heap.size + 1) [v10, v11, .float .f32 s1, .int .i64 p1, .int .i64 q1, v12, .int .i64 n1, .int .i64 t1, v13] := by rw [← hw0]; have := bx_new (w.alloc (.cells #[v00, v01, .float .f32 s0, .int .i64 p0, .int .i64 q0, v02, .int .i64 n0, .int .i64 t0, v03] 39)) [v10, v11, .float .f32 s1, .int .i64 p1, .int .i64 q1, v12, .int .i64 n1, .int .i64 t1, v13] 39; simpa using this
  have a0 := (hX.2 0 _ rfl).1
  have b0 := (hY.2 0 _ rfl).1
  have HC0 := Lib.hid (fun (m : Nat) => wsP_any v00 v10 x00 x10 (w0.drewN m) w0.heap.size w0.heap.size ((h00.step hb0).drewN m) ((h10.step hb0).drewN m) hm00 hm10 hx00 hx10)
  have HC1 := Lib.hid (fun (m : Nat) => Sg.ssO_any w.heap.size (w.heap.size + 1) v01 v11 x01 x11 s0 s1 (w0.drewN m) w0.heap.size w0.heap.size ((h01.step hb0).drewN m) ((h11.step hb0).drewN m) (hX.2 1 _ rfl).1 (hX.2 2 _ rfl).1 (hY.2 1 _ rfl).1 (hY.2 2 _ rfl).1 hm01 hm11 hx01 hx11 hs0 hs1)
  have HC2 := Lib.hid (fun (m : Nat) => spcO_any w.heap.size (w.heap.size + 1) v02 v12 p0 q0 p1 q1 x02 x12 (w0.drewN m) w0.heap.size ((h02.step hb0).drewN m) ((h12.step hb0).drewN m) hm02 hm12 hx02 hx12 (hX.2 3 _ rfl).1 (hX.2 4 _ rfl).1 (hX.2 5 _ rfl).1 (hY.2 3 _ rfl).1 (hY.2 4 _ rfl).1 (hY.2 5 _ rfl).1)
  have HC3 := Lib.hid (fun (m : Nat) => Cf.scO_any w.heap.size (w.heap.size + 1) v03 v13 n0 t0 n1 t1 x03 x13 (w0.drewN m) w0.heap.size ((h03.step hb0).drewN m) ((h13.step hb0).drewN m) hm03 hm13 (hX.2 6 _ rfl).1 (hX.2 7 _ rfl).1 (hX.2 8 _ rfl).1 (hY.2 6 _ rfl).1 (hY.2 7 _ rfl).1 (hY.2 8 _ rfl).1)
  have HB := Lib.hid hb0
  obtain ⟨A00, k00, hv00, _, _, _⟩ := id h00
  rw [fl_len] at hv00
  subst hv00
  obtain ⟨A01, k01, hv01, _, _, _⟩ := id h01
  rw [fl_len] at hv01
  subst hv01
  obtain ⟨A02, k02, hv02, _, _, _⟩ := id h02
  rw [fl_len] at hv02
  subst hv02
  obtain ⟨A03, k03, hv03, _, _, _⟩ := id h03
  rw [bl_len] at hv03
  subst hv03
  obtain ⟨A10, k10, hv10, _, _, _⟩ := id h10
  rw [fl_len] at hv10
  subst hv10
  obtain ⟨A11, k11, hv11, _, _, _⟩ := id h11
  rw [fl_len] at hv11
  subst hv11
  obtain ⟨A12, k12, hv12, _, _, _⟩ := id h12
  rw [fl_len] at hv12
  subst hv12
  obtain ⟨A13, k13, hv13, _, _, _⟩ := id h13
  rw [bl_len] at hv13
  subst hv13
  clear h00 h01 h02 h03 h10 h11 h12 h13 hX hY hb0 hx00 hx01 hx02 hx10 hx11 hx12
  cases b0e : wsB x00 x10 with
  | false =>
    rw [b0e] at HC0
    have HV := Lib.hid (show skB x00 x01 x02 x03 s0 p0 q0 n0 t0 x10 x11 x12 x13 s1 p1 q1 n1 t1 = false by unfold skB; rw [b0e]; rfl)
    clear b0e
    go_enter Try.func20, Try.ntmps20
    go_wp2_with fail
    refine (HC0.out 0).mono ?_
    rintro e w' ⟨rfl, m1, hwx⟩
    subst hwx
    go_wp2_with fail
    go_ret
    rw [HV.out]
    exact ⟨rfl, below_drawn HB.out _⟩
  | true =>
    cases b1e : Sg.ssB x01 s0 x11 s1 with
    | false =>
      rw [b0e] at HC0
      rw [b1e] at HC1
      have HV := Lib.hid (show skB x00 x01 x02 x03 s0 p0 q0 n0 t0 x10 x11 x12 x13 s1 p1 q1 n1 t1 = false by unfold skB; rw [b0e, b1e]; simp)
      clear b0e b1e
      go_enter Try.func20, Try.ntmps20
      go_wp2_with fail
      refine (HC0.out 0).mono ?_
      rintro e w' ⟨rfl, m1, hwx⟩
      subst hwx
      go_wp2_with fail
      refine (HC1.out m1).mono ?_
      rintro e w' ⟨rfl, mx, hwx⟩
      rw [World.drewN_drewN] at hwx
      obtain ⟨m2, hm'⟩ : ∃ z, m1 + mx = z := ⟨_, rfl⟩
      rw [hm'] at hwx
      subst hwx
      go_wp2_with fail
      go_ret
      rw [HV.out]
      exact ⟨rfl, below_drawn HB.out _⟩
    | true =>
      cases b2e : spcB p0 q0 x02 p1 q1 x12 with
      | false =>
        rw [b0e] at HC0
        rw [b1e] at HC1
        rw [b2e] at HC2
        have HV := Lib.hid (show skB x00 x01 x02 x03 s0 p0 q0 n0 t0 x10 x11 x12 x13 s1 p1 q1 n1 t1 = false by unfold skB; rw [b0e, b1e, b2e]; simp)
        clear b0e b1e b2e
        go_enter Try.func20, Try.ntmps20
        go_wp2_with fail
        refine (HC0.out 0).mono ?_
        rintro e w' ⟨rfl, m1, hwx⟩
        subst hwx
        go_wp2_with fail
        refine (HC1.out m1).mono ?_
        rintro e w' ⟨rfl, mx, hwx⟩
        rw [World.drewN_drewN] at hwx
        obtain ⟨m2, hm'⟩ : ∃ z, m1 + mx = z := ⟨_, rfl⟩
        rw [hm'] at hwx
        subst hwx
        go_wp2_with fail
        refine (HC2.out m2).mono ?_
        rintro e w' ⟨rfl, mx, hwx⟩
        rw [World.drewN_drewN] at hwx
        obtain ⟨m3, hm'⟩ : ∃ z, m2 + mx = z := ⟨_, rfl⟩
        rw [hm'] at hwx
        subst hwx
        go_wp2_with fail
        go_ret
        rw [HV.out]
        exact ⟨rfl, below_drawn HB.out _⟩
      | true =>
        cases b3e : Cf.scdB n0 t0 x03 n1 t1 x13 with
        | false =>
          rw [b0e] at HC0
          rw [b1e] at HC1
          rw [b2e] at HC2
          rw [b3e] at HC3
          have HV := Lib.hid (show skB x00 x01 x02 x03 s0 p0 q0 n0 t0 x10 x11 x12 x13 s1 p1 q1 n1 t1 = false by unfold skB; rw [b0e, b1e, b2e, b3e]; simp)
          clear b0e b1e b2e b3e
          go_enter Try.func20, Try.ntmps20
          go_wp2_with fail
          refine (HC0.out 0).mono ?_
          rintro e w' ⟨rfl, m1, hwx⟩
          subst hwx
          go_wp2_with fail
          refine (HC1.out m1).mono ?_
          rintro e w' ⟨rfl, mx, hwx⟩
          rw [World.drewN_drewN] at hwx
          obtain ⟨m2, hm'⟩ : ∃ z, m1 + mx = z := ⟨_, rfl⟩
          rw [hm'] at hwx
          subst hwx
          go_wp2_with fail
          refine (HC2.out m2).mono ?_
          rintro e w' ⟨rfl, mx, hwx⟩
          rw [World.drewN_drewN] at hwx
          obtain ⟨m3, hm'⟩ : ∃ z, m2 + mx = z := ⟨_, rfl⟩
          rw [hm'] at hwx
          subst hwx
          go_wp2_with fail
          refine (HC3.out m3).mono ?_
          rintro e w' ⟨rfl, mx, hwx⟩
          rw [World.drewN_drewN] at hwx
          obtain ⟨m4, hm'⟩ : ∃ z, m3 + mx = z := ⟨_, rfl⟩
          rw [hm'] at hwx
          subst hwx
          go_wp2_with fail
          go_ret
          rw [HV.out]
          exact ⟨rfl, below_drawn HB.out _⟩
        | true =>
          rw [b0e] at HC0
          rw [b1e] at HC1
          rw [b2e] at HC2
          rw [b3e] at HC3
          have HV := Lib.hid (show skB x00 x01 x02 x03 s0 p0 q0 n0 t0 x10 x11 x12 x13 s1 p1 q1 n1 t1 = true by unfold skB; rw [b0e, b1e, b2e, b3e]; rfl)
          clear b0e b1e b2e b3e
          go_enter Try.func20, Try.ntmps20
          go_wp2_with fail
          refine (HC0.out 0).mono ?_
          rintro e w' ⟨rfl, m1, hwx⟩
          subst hwx
          go_wp2_with fail
          refine (HC1.out m1).mono ?_
          rintro e w' ⟨rfl, mx, hwx⟩
          rw [World.drewN_drewN] at hwx
          obtain ⟨m2, hm'⟩ : ∃ z, m1 + mx = z := ⟨_, rfl⟩
          rw [hm'] at hwx
          subst hwx
          go_wp2_with fail
          refine (HC2.out m2).mono ?_
          rintro e w' ⟨rfl, mx, hwx⟩
          rw [World.drewN_drewN] at hwx
          obtain ⟨m3, hm'⟩ : ∃ z, m2 + mx = z := ⟨_, rfl⟩
          rw [hm'] at hwx
          subst hwx
          go_wp2_with fail
          refine (HC3.out m3).mono ?_
          rintro e w' ⟨rfl, mx, hwx⟩
          rw [World.drewN_drewN] at hwx
          obtain ⟨m4, hm'⟩ : ∃ z, m3 + mx = z := ⟨_, rfl⟩
          rw [hm'] at hwx
          subst hwx
          go_wp2_with fail
          go_ret
          rw [HV.out]
          exact ⟨rfl, below_drawn HB.out _⟩
set_option maxHeartbeats 4000000 in
theorem sdI_any (v00 v01 v02 v03 : Value) (x00 x01 x02 : List Nat) (x03 : List Bool) (s0 : Nat) (p0 q0 n0 t0 : Int) (v10 v11 v12 v13 : Value) (x10 x11 x12 : List Nat) (x13 : List Bool) (s1 : Nat) (p1 q1 n1 t1 : Int) (w : World) (h00 : Rd w w.heap.size v00 (fl x00)) (h01 : Rd w w.heap.size v01 (fl x01)) (h02 : Rd w w.heap.size v02 (fl x02)) (h03 : Rd w w.heap.size v03 (bl x03)) (h10 : Rd w w.heap.size v10 (fl x10)) (h11 : Rd w w.heap.size v11 (fl x11)) (h12 : Rd w w.heap.size v12 (fl x12)) (h13 : Rd w w.heap.size v13 (bl x13)) (hm00 : x00.length ≤ 1048576) (hm01 : x01.length ≤ 1048576) (hm02 : x02.length ≤ 1048576) (hm03 : x03.length ≤ 1048576) (hx00 : ∀ x ∈ x00, x < 2 ^ 32) (hx01 : ∀ x ∈ x01, x < 2 ^ 32) (hx02 : ∀ x ∈ x02, x < 2 ^ 32) (hs0 : s0 < 2 ^ 32) (hm10 : x10.length ≤ 1048576) (hm11 : x11.length ≤ 1048576) (hm12 : x12.length ≤ 1048576) (hm13 : x13.length ≤ 1048576) (hx10 : ∀ x ∈ x10, x < 2 ^ 32) (hx11 : ∀ x ∈ x11, x < 2 ^ 32) (hx12 : ∀ x ∈ x12, x < 2 ^ 32) (hs1 : s1 < 2 ^ 32) :
    Calls Try.prog 21 #[.agg #[v00, v01, .float .f32 s0, .int .i64 p0, .int .i64 q0, v02, .int .i64 n0, .int .i64 t0, v03], .agg #[v10, v11, .float .f32 s1, .int .i64 p1, .int .i64 q1, v12, .int .i64 n1, .int .i64 t1, v13]] w fun e w' => e = .returned (.bool (skB x00 x01 x02 x03 s0 p0 q0 n0 t0 x10 x11 x12 x13 s1 p1 q1 n1 t1)) ∧ Below w.heap.size w w' := by
  obtain ⟨w0, hw0⟩ : ∃ w0, (w.alloc (.cells #[v00, v01, .float .f32 s0, .int .i64 p0, .int .i64 q0, v02, .int .i64 n0, .int .i64 t0, v03] 39)).alloc (.cells #[v10, v11, .float .f32 s1, .int .i64 p1, .int .i64 q1, v12, .int .i64 n1, .int .i64 t1, v13] 39) = w0 := ⟨_, rfl⟩
  have hb0 : Below w.heap.size w w0 := by rw [← hw0]; exact ((Below.refl _ _).alloc (Nat.le_refl _) _).alloc (by simp) _
  have hX : Bx w0 w.heap.size [v00, v01, .float .f32 s0, .int .i64 p0, .int .i64 q0, v02, .int .i64 n0, .int .i64 t0, v03] := by rw [← hw0]; exact (bx_new w [v00, v01, .float .f32 s0, .int .i64 p0, .int .i64 q0, v02, .int .i64 n0, .int .i64 t0, v03] _).step ((Below.refl _ _).alloc (Nat.le_refl _) _)
  have hY : Bx w0 (w.heap.size + 1) [v10, v11, .float .f32 s1, .int .i64 p1, .int .i64 q1, v12, .int .i64 n1, .int .i64 t1, v13] := by rw [← hw0]; have := bx_new (w.alloc (.cells #[v00, v01, .float .f32 s0, .int .i64 p0, .int .i64 q0, v02, .int .i64 n0, .int .i64 t0, v03] 39)) [v10, v11, .float .f32 s1, .int .i64 p1, .int .i64 q1, v12, .int .i64 n1, .int .i64 t1, v13] 39; simpa using this
  have a0 := (hX.2 0 _ rfl).1
  have b0 := (hY.2 0 _ rfl).1
  have HC0 := Lib.hid (fun (W : World) (hb : Below w.heap.size w W) => (wsI_any v00 v10 x00 x10 W W.heap.size W.heap.size (h00.step hb) (h10.step hb) hm00 hm10 hx00 hx10).mono (R' := fun e W' => e = .returned (.bool (wsB x00 x10)) ∧ Below W.heap.size W W') fun e W' ⟨he, n, hn⟩ => ⟨he, by rw [hn]; exact below_drawn (Below.refl _ _) _⟩)
  have HC1 := Lib.hid (fun (W : World) (hb : Below w.heap.size w W) => Sg.sscI_any v01 v11 x01 x11 s0 s1 W (h01.step hb) (h11.step hb) hm01 hm11 hx01 hx11 hs0 hs1)
  have HC2 := Lib.hid (fun (W : World) (hb : Below w.heap.size w W) => spcI_any v02 p0 q0 x02 v12 p1 q1 x12 W (h02.step hb) hm02 hx02 (h12.step hb) hm12 hx12)
  have HC3 := Lib.hid (fun (W : World) (hb : Below w.heap.size w W) => Cf.scI_any v03 n0 t0 x03 v13 n1 t1 x13 W (h03.step hb) hm03 (h13.step hb) hm13)
  have HX0 := Lib.hid hX
  have HY0 := Lib.hid hY
  have HB0 := Lib.hid hb0
  obtain ⟨A00, k00, hv00, _, _, _⟩ := id h00
  rw [fl_len] at hv00
  subst hv00
  obtain ⟨A01, k01, hv01, _, _, _⟩ := id h01
  rw [fl_len] at hv01
  subst hv01
  obtain ⟨A02, k02, hv02, _, _, _⟩ := id h02
  rw [fl_len] at hv02
  subst hv02
  obtain ⟨A03, k03, hv03, _, _, _⟩ := id h03
  rw [bl_len] at hv03
  subst hv03
  obtain ⟨A10, k10, hv10, _, _, _⟩ := id h10
  rw [fl_len] at hv10
  subst hv10
  obtain ⟨A11, k11, hv11, _, _, _⟩ := id h11
  rw [fl_len] at hv11
  subst hv11
  obtain ⟨A12, k12, hv12, _, _, _⟩ := id h12
  rw [fl_len] at hv12
  subst hv12
  obtain ⟨A13, k13, hv13, _, _, _⟩ := id h13
  rw [bl_len] at hv13
  subst hv13
  clear h00 h01 h02 h03 h10 h11 h12 h13 hX hY hb0 hx00 hx01 hx02 hx10 hx11 hx12
  cases b0e : wsB x00 x10 with
  | false =>
    rw [b0e] at HC0
    have HV := Lib.hid (show skB x00 x01 x02 x03 s0 p0 q0 n0 t0 x10 x11 x12 x13 s1 p1 q1 n1 t1 = false by unfold skB; rw [b0e]; rfl)
    clear b0e
    go_enter Try.func21, Try.ntmps21
    go_wp2_with fail
    refine (HC0.out _ HB0.out).mono ?_
    rintro e w1 ⟨rfl, hb⟩
    have HB1 := Lib.hid (HB0.out.trans (hb.mono HB0.out.size))
    have HX1 := Lib.hid (HX0.out.step hb)
    have HY1 := Lib.hid (HY0.out.step hb)
    have a1 := (HX1.out.2 1 _ rfl).1
    have b1 := (HY1.out.2 1 _ rfl).1
    have a2 := (HX1.out.2 2 _ rfl).1
    have b2 := (HY1.out.2 2 _ rfl).1
    clear hb
    go_wp2_with fail
    go_ret
    rw [HV.out]
    exact ⟨rfl, HB1.out⟩
  | true =>
    cases b1e : Sg.ssB x01 s0 x11 s1 with
    | false =>
      rw [b0e] at HC0
      rw [b1e] at HC1
      have HV := Lib.hid (show skB x00 x01 x02 x03 s0 p0 q0 n0 t0 x10 x11 x12 x13 s1 p1 q1 n1 t1 = false by unfold skB; rw [b0e, b1e]; simp)
      clear b0e b1e
      go_enter Try.func21, Try.ntmps21
      go_wp2_with fail
      refine (HC0.out _ HB0.out).mono ?_
      rintro e w1 ⟨rfl, hb⟩
      have HB1 := Lib.hid (HB0.out.trans (hb.mono HB0.out.size))
      have HX1 := Lib.hid (HX0.out.step hb)
      have HY1 := Lib.hid (HY0.out.step hb)
      have a1 := (HX1.out.2 1 _ rfl).1
      have b1 := (HY1.out.2 1 _ rfl).1
      have a2 := (HX1.out.2 2 _ rfl).1
      have b2 := (HY1.out.2 2 _ rfl).1
      clear hb
      go_wp2_with fail
      refine (HC1.out _ HB1.out).mono ?_
      rintro e w2 ⟨rfl, hb⟩
      have HB2 := Lib.hid (HB1.out.trans (hb.mono HB1.out.size))
      have HX2 := Lib.hid (HX1.out.step hb)
      have HY2 := Lib.hid (HY1.out.step hb)
      have a3 := (HX2.out.2 3 _ rfl).1
      have b3 := (HY2.out.2 3 _ rfl).1
      have a4 := (HX2.out.2 4 _ rfl).1
      have b4 := (HY2.out.2 4 _ rfl).1
      have a5 := (HX2.out.2 5 _ rfl).1
      have b5 := (HY2.out.2 5 _ rfl).1
      clear hb
      go_wp2_with fail
      go_ret
      rw [HV.out]
      exact ⟨rfl, HB2.out⟩
    | true =>
      cases b2e : spcB p0 q0 x02 p1 q1 x12 with
      | false =>
        rw [b0e] at HC0
        rw [b1e] at HC1
        rw [b2e] at HC2
        have HV := Lib.hid (show skB x00 x01 x02 x03 s0 p0 q0 n0 t0 x10 x11 x12 x13 s1 p1 q1 n1 t1 = false by unfold skB; rw [b0e, b1e, b2e]; simp)
        clear b0e b1e b2e
        go_enter Try.func21, Try.ntmps21
        go_wp2_with fail
        refine (HC0.out _ HB0.out).mono ?_
        rintro e w1 ⟨rfl, hb⟩
        have HB1 := Lib.hid (HB0.out.trans (hb.mono HB0.out.size))
        have HX1 := Lib.hid (HX0.out.step hb)
        have HY1 := Lib.hid (HY0.out.step hb)
        have a1 := (HX1.out.2 1 _ rfl).1
        have b1 := (HY1.out.2 1 _ rfl).1
        have a2 := (HX1.out.2 2 _ rfl).1
        have b2 := (HY1.out.2 2 _ rfl).1
        clear hb
        go_wp2_with fail
        refine (HC1.out _ HB1.out).mono ?_
        rintro e w2 ⟨rfl, hb⟩
        have HB2 := Lib.hid (HB1.out.trans (hb.mono HB1.out.size))
        have HX2 := Lib.hid (HX1.out.step hb)
        have HY2 := Lib.hid (HY1.out.step hb)
        have a3 := (HX2.out.2 3 _ rfl).1
        have b3 := (HY2.out.2 3 _ rfl).1
        have a4 := (HX2.out.2 4 _ rfl).1
        have b4 := (HY2.out.2 4 _ rfl).1
        have a5 := (HX2.out.2 5 _ rfl).1
        have b5 := (HY2.out.2 5 _ rfl).1
        clear hb
        go_wp2_with fail
        refine (HC2.out _ HB2.out).mono ?_
        rintro e w3 ⟨rfl, hb⟩
        have HB3 := Lib.hid (HB2.out.trans (hb.mono HB2.out.size))
        have HX3 := Lib.hid (HX2.out.step hb)
        have HY3 := Lib.hid (HY2.out.step hb)
        have a6 := (HX3.out.2 6 _ rfl).1
        have b6 := (HY3.out.2 6 _ rfl).1
        have a7 := (HX3.out.2 7 _ rfl).1
        have b7 := (HY3.out.2 7 _ rfl).1
        have a8 := (HX3.out.2 8 _ rfl).1
        have b8 := (HY3.out.2 8 _ rfl).1
        clear hb
        go_wp2_with fail
        go_ret
        rw [HV.out]
        exact ⟨rfl, HB3.out⟩
      | true =>
        cases b3e : Cf.scdB n0 t0 x03 n1 t1 x13 with
        | false =>
          rw [b0e] at HC0
          rw [b1e] at HC1
          rw [b2e] at HC2
          rw [b3e] at HC3
          have HV := Lib.hid (show skB x00 x01 x02 x03 s0 p0 q0 n0 t0 x10 x11 x12 x13 s1 p1 q1 n1 t1 = false by unfold skB; rw [b0e, b1e, b2e, b3e]; simp)
          clear b0e b1e b2e b3e
          go_enter Try.func21, Try.ntmps21
          go_wp2_with fail
          refine (HC0.out _ HB0.out).mono ?_
          rintro e w1 ⟨rfl, hb⟩
          have HB1 := Lib.hid (HB0.out.trans (hb.mono HB0.out.size))
          have HX1 := Lib.hid (HX0.out.step hb)
          have HY1 := Lib.hid (HY0.out.step hb)
          have a1 := (HX1.out.2 1 _ rfl).1
          have b1 := (HY1.out.2 1 _ rfl).1
          have a2 := (HX1.out.2 2 _ rfl).1
          have b2 := (HY1.out.2 2 _ rfl).1
          clear hb
          go_wp2_with fail
          refine (HC1.out _ HB1.out).mono ?_
          rintro e w2 ⟨rfl, hb⟩
          have HB2 := Lib.hid (HB1.out.trans (hb.mono HB1.out.size))
          have HX2 := Lib.hid (HX1.out.step hb)
          have HY2 := Lib.hid (HY1.out.step hb)
          have a3 := (HX2.out.2 3 _ rfl).1
          have b3 := (HY2.out.2 3 _ rfl).1
          have a4 := (HX2.out.2 4 _ rfl).1
          have b4 := (HY2.out.2 4 _ rfl).1
          have a5 := (HX2.out.2 5 _ rfl).1
          have b5 := (HY2.out.2 5 _ rfl).1
          clear hb
          go_wp2_with fail
          refine (HC2.out _ HB2.out).mono ?_
          rintro e w3 ⟨rfl, hb⟩
          have HB3 := Lib.hid (HB2.out.trans (hb.mono HB2.out.size))
          have HX3 := Lib.hid (HX2.out.step hb)
          have HY3 := Lib.hid (HY2.out.step hb)
          have a6 := (HX3.out.2 6 _ rfl).1
          have b6 := (HY3.out.2 6 _ rfl).1
          have a7 := (HX3.out.2 7 _ rfl).1
          have b7 := (HY3.out.2 7 _ rfl).1
          have a8 := (HX3.out.2 8 _ rfl).1
          have b8 := (HY3.out.2 8 _ rfl).1
          clear hb
          go_wp2_with fail
          refine (HC3.out _ HB3.out).mono ?_
          rintro e w4 ⟨rfl, hb⟩
          have HB4 := Lib.hid (HB3.out.trans (hb.mono HB3.out.size))
          clear hb
          go_wp2_with fail
          go_ret
          rw [HV.out]
          exact ⟨rfl, HB4.out⟩
        | true =>
          rw [b0e] at HC0
          rw [b1e] at HC1
          rw [b2e] at HC2
          rw [b3e] at HC3
          have HV := Lib.hid (show skB x00 x01 x02 x03 s0 p0 q0 n0 t0 x10 x11 x12 x13 s1 p1 q1 n1 t1 = true by unfold skB; rw [b0e, b1e, b2e, b3e]; rfl)
          clear b0e b1e b2e b3e
          go_enter Try.func21, Try.ntmps21
          go_wp2_with fail
          refine (HC0.out _ HB0.out).mono ?_
          rintro e w1 ⟨rfl, hb⟩
          have HB1 := Lib.hid (HB0.out.trans (hb.mono HB0.out.size))
          have HX1 := Lib.hid (HX0.out.step hb)
          have HY1 := Lib.hid (HY0.out.step hb)
          have a1 := (HX1.out.2 1 _ rfl).1
          have b1 := (HY1.out.2 1 _ rfl).1
          have a2 := (HX1.out.2 2 _ rfl).1
          have b2 := (HY1.out.2 2 _ rfl).1
          clear hb
          go_wp2_with fail
          refine (HC1.out _ HB1.out).mono ?_
          rintro e w2 ⟨rfl, hb⟩
          have HB2 := Lib.hid (HB1.out.trans (hb.mono HB1.out.size))
          have HX2 := Lib.hid (HX1.out.step hb)
          have HY2 := Lib.hid (HY1.out.step hb)
          have a3 := (HX2.out.2 3 _ rfl).1
          have b3 := (HY2.out.2 3 _ rfl).1
          have a4 := (HX2.out.2 4 _ rfl).1
          have b4 := (HY2.out.2 4 _ rfl).1
          have a5 := (HX2.out.2 5 _ rfl).1
          have b5 := (HY2.out.2 5 _ rfl).1
          clear hb
          go_wp2_with fail
          refine (HC2.out _ HB2.out).mono ?_
          rintro e w3 ⟨rfl, hb⟩
          have HB3 := Lib.hid (HB2.out.trans (hb.mono HB2.out.size))
          have HX3 := Lib.hid (HX2.out.step hb)
          have HY3 := Lib.hid (HY2.out.step hb)
          have a6 := (HX3.out.2 6 _ rfl).1
          have b6 := (HY3.out.2 6 _ rfl).1
          have a7 := (HX3.out.2 7 _ rfl).1
          have b7 := (HY3.out.2 7 _ rfl).1
          have a8 := (HX3.out.2 8 _ rfl).1
          have b8 := (HY3.out.2 8 _ rfl).1
          clear hb
          go_wp2_with fail
          refine (HC3.out _ HB3.out).mono ?_
          rintro e w4 ⟨rfl, hb⟩
          have HB4 := Lib.hid (HB3.out.trans (hb.mono HB3.out.size))
          clear hb
          go_wp2_with fail
          go_ret
          rw [HV.out]
          exact ⟨rfl, HB4.out⟩
end Go.Proofs.Ythkklilfignmpaa
