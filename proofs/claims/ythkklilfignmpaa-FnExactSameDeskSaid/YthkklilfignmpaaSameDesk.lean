/-
  At any two desks, SameDesk answers as its model does, and leaves both as they were.
-/
import Derived.Test.YthkklilfignmpaaRows
import Derived.ProofKit
import Derived.OpenShut
import Derived.WalkLawsBesides
import Derived.KernelRfl
import Derived.Test.YthkklilfignmpaaDr
import Derived.Deep.RegionHeld3
namespace Go.Proofs.Ythkklilfignmpaa
open Go.RowKit Fl
set_option linter.unusedVariables false
set_option maxRecDepth 100000 in
set_option maxHeartbeats 8000000 in
theorem fnExactSameDesk.walk (w : World) (v00 v01 v02 v03 : Value) (x00 x01 x02 : List Nat) (x03 : List Bool) (s0 : Nat) (p0 q0 n0 t0 : Int) (h0 : DkR w v00 v01 v02 v03 x00 x01 x02 x03) (hx00 : ∀ x ∈ x00, x < 2 ^ 32) (hx01 : ∀ x ∈ x01, x < 2 ^ 32) (hx02 : ∀ x ∈ x02, x < 2 ^ 32) (hs0 : s0 < 2 ^ 32) (v10 v11 v12 v13 : Value) (x10 x11 x12 : List Nat) (x13 : List Bool) (s1 : Nat) (p1 q1 n1 t1 : Int) (h1 : DkR w v10 v11 v12 v13 x10 x11 x12 x13) (hx10 : ∀ x ∈ x10, x < 2 ^ 32) (hx11 : ∀ x ∈ x11, x < 2 ^ 32) (hx12 : ∀ x ∈ x12, x < 2 ^ 32) (hs1 : s1 < 2 ^ 32) :
    Calls Try.prog 4 #[.agg #[v00, v01, .float .f32 s0, .int .i64 p0, .int .i64 q0, v02, .int .i64 n0, .int .i64 t0, v03], .agg #[v10, v11, .float .f32 s1, .int .i64 p1, .int .i64 q1, v12, .int .i64 n1, .int .i64 t1, v13]] w fun e w' => e = .returned (.bool true) ∧ Below w.heap.size w w' := by
  have hle00 : x00.length ≤ 9223372036854775807 := by
    have := h0.1.le
    rw [fl_len] at this
    unfold maxLen at this
    omega
  have hle01 : x01.length ≤ 9223372036854775807 := by
    have := h0.2.1.le
    rw [fl_len] at this
    unfold maxLen at this
    omega
  have hle02 : x02.length ≤ 9223372036854775807 := by
    have := h0.2.2.1.le
    rw [fl_len] at this
    unfold maxLen at this
    omega
  have hle03 : x03.length ≤ 9223372036854775807 := by
    have := h0.2.2.2.le
    rw [bl_len] at this
    unfold maxLen at this
    omega
  have N0 : dkN x00 x01 x02 x03 = (x00.length : Int) + x01.length + x02.length + x03.length := rfl
  have hle10 : x10.length ≤ 9223372036854775807 := by
    have := h1.1.le
    rw [fl_len] at this
    unfold maxLen at this
    omega
  have hle11 : x11.length ≤ 9223372036854775807 := by
    have := h1.2.1.le
    rw [fl_len] at this
    unfold maxLen at this
    omega
  have hle12 : x12.length ≤ 9223372036854775807 := by
    have := h1.2.2.1.le
    rw [fl_len] at this
    unfold maxLen at this
    omega
  have hle13 : x13.length ≤ 9223372036854775807 := by
    have := h1.2.2.2.le
    rw [bl_len] at this
    unfold maxLen at this
    omega
  have N1 : dkN x10 x11 x12 x13 = (x10.length : Int) + x11.length + x12.length + x13.length := rfl
  have hsf : ∀ (a : Addr) (x : Nat) (w : World), (store a (.float .f32 x)).run Try.prog w = stored Try.prog w a (.float .f32 x) .plain := fun a x w => run_store _ w a _ _ rfl
  have B := Lib.hid (Below.refl w.heap.size w)
  have E_a0 := Lib.hid (show DkR w v00 v01 v02 v03 x00 x01 x02 x03 from h0)
  have E_a1 := Lib.hid (show DkR w v10 v11 v12 v13 x10 x11 x12 x13 from h1)
  clear h0 h1
  obtain ⟨w1, hw1⟩ : ∃ W, (w.alloc (.cells #[v00, v01, .float .f32 s0, .int .i64 p0, .int .i64 q0, v02, .int .i64 n0, .int .i64 t0, v03] 32)).alloc (.cells #[v10, v11, .float .f32 s1, .int .i64 p1, .int .i64 q1, v12, .int .i64 n1, .int .i64 t1, v13] 32) = W := ⟨_, rfl⟩
  have hb : Below w.heap.size w w1 := by rw [← hw1]; exact ((Below.refl _ _).alloc (Nat.le_refl _) _).alloc (by simp) _
  have hx : Bx w1 w.heap.size [v00, v01, .float .f32 s0, .int .i64 p0, .int .i64 q0, v02, .int .i64 n0, .int .i64 t0, v03] := by rw [← hw1]; exact (bx_new w [v00, v01, .float .f32 s0, .int .i64 p0, .int .i64 q0, v02, .int .i64 n0, .int .i64 t0, v03] _).step ((Below.refl _ _).alloc (Nat.le_refl _) _)
  have hy : Bx w1 (w.heap.size + 1) [v10, v11, .float .f32 s1, .int .i64 p1, .int .i64 q1, v12, .int .i64 n1, .int .i64 t1, v13] := by rw [← hw1]; have := bx_new (w.alloc (.cells #[v00, v01, .float .f32 s0, .int .i64 p0, .int .i64 q0, v02, .int .i64 n0, .int .i64 t0, v03] 32)) [v10, v11, .float .f32 s1, .int .i64 p1, .int .i64 q1, v12, .int .i64 n1, .int .i64 t1, v13] 32; simpa using this
  replace E_a0 := Lib.hid (E_a0.out.step hb)
  replace E_a1 := Lib.hid (E_a1.out.step hb)
  replace B := Lib.hid (B.out.trans (hb.mono B.out.size))
  have X_a0 := Lib.hid hx
  have X_a1 := Lib.hid hy
  clear hb hx hy
  have Q_a00 := (X_a0.out.2 0 _ rfl).1
  have Q_a01 := (X_a0.out.2 1 _ rfl).1
  have Q_a02 := (X_a0.out.2 2 _ rfl).1
  have Q_a03 := (X_a0.out.2 3 _ rfl).1
  have Q_a04 := (X_a0.out.2 4 _ rfl).1
  have Q_a05 := (X_a0.out.2 5 _ rfl).1
  have Q_a06 := (X_a0.out.2 6 _ rfl).1
  have Q_a07 := (X_a0.out.2 7 _ rfl).1
  have Q_a08 := (X_a0.out.2 8 _ rfl).1
  go_enter Try.func4, Try.ntmps4
  go_wp2_with fail
  refine (szD_R v00 v01 v02 v03 x00 x01 x02 x03 s0 p0 q0 n0 t0 (1048576) _ E_a0.out (by omega) (by have := N0; omega) hle00 hle01 hle02 hle03).mono ?_
  rintro e w2 ⟨rfl, hb⟩
  clear Q_a00 Q_a01 Q_a02 Q_a03 Q_a04 Q_a05 Q_a06 Q_a07 Q_a08
  replace E_a0 := Lib.hid (E_a0.out.step hb)
  replace E_a1 := Lib.hid (E_a1.out.step hb)
  replace X_a0 := Lib.hid (X_a0.out.step hb)
  replace X_a1 := Lib.hid (X_a1.out.step hb)
  replace B := Lib.hid (B.out.trans (hb.mono B.out.size))
  clear hb hw1
  by_cases hbig0 : (1048576 : Int) < dkN x00 x01 x02 x03
  · rw [if_pos hbig0]
    go_wp2_with fail
    go_ret
    exact ⟨rfl, B.out⟩
  rw [if_neg hbig0]
  have hm00 : x00.length ≤ 1048576 := by have := N0; omega
  have hm01 : x01.length ≤ 1048576 := by have := N0; omega
  have hm02 : x02.length ≤ 1048576 := by have := N0; omega
  have hm03 : x03.length ≤ 1048576 := by have := N0; omega
  have hl0 : 0 ≤ (1048576 - dkN x00 x01 x02 x03 : Int) := by omega
  have Q_a10 := (X_a1.out.2 0 _ rfl).1
  have Q_a11 := (X_a1.out.2 1 _ rfl).1
  have Q_a12 := (X_a1.out.2 2 _ rfl).1
  have Q_a13 := (X_a1.out.2 3 _ rfl).1
  have Q_a14 := (X_a1.out.2 4 _ rfl).1
  have Q_a15 := (X_a1.out.2 5 _ rfl).1
  have Q_a16 := (X_a1.out.2 6 _ rfl).1
  have Q_a17 := (X_a1.out.2 7 _ rfl).1
  have Q_a18 := (X_a1.out.2 8 _ rfl).1
  go_wp2_with fail
  refine (szD_R v10 v11 v12 v13 x10 x11 x12 x13 s1 p1 q1 n1 t1 (1048576 - dkN x00 x01 x02 x03) _ E_a1.out (by omega) (by have := N1; omega) hle10 hle11 hle12 hle13).mono ?_
  rintro e w3 ⟨rfl, hb⟩
  clear Q_a10 Q_a11 Q_a12 Q_a13 Q_a14 Q_a15 Q_a16 Q_a17 Q_a18
  replace E_a0 := Lib.hid (E_a0.out.step hb)
  replace E_a1 := Lib.hid (E_a1.out.step hb)
  replace X_a0 := Lib.hid (X_a0.out.step hb)
  replace X_a1 := Lib.hid (X_a1.out.step hb)
  replace B := Lib.hid (B.out.trans (hb.mono B.out.size))
  clear hb
  by_cases hbig1 : (1048576 - dkN x00 x01 x02 x03 : Int) < dkN x10 x11 x12 x13
  · rw [if_pos hbig1]
    go_wp2_with fail
    go_ret
    exact ⟨rfl, B.out⟩
  rw [if_neg hbig1]
  have hm10 : x10.length ≤ 1048576 := by have := N1; omega
  have hm11 : x11.length ≤ 1048576 := by have := N1; omega
  have hm12 : x12.length ≤ 1048576 := by have := N1; omega
  have hm13 : x13.length ≤ 1048576 := by have := N1; omega
  have hl1 : 0 ≤ (1048576 - dkN x00 x01 x02 x03 - dkN x10 x11 x12 x13 : Int) := by omega
  clear hbig0 hbig1
  obtain ⟨b, hbe⟩ : ∃ b, skB x00 x01 x02 x03 s0 p0 q0 n0 t0 x10 x11 x12 x13 s1 p1 q1 n1 t1 = b := ⟨_, rfl⟩
  have HS := Lib.hid (fun (u00 u01 u02 u03 : Value) (u10 u11 u12 u13 : Value) (W : World) (e0 : DkR W u00 u01 u02 u03 x00 x01 x02 x03) (e1 : DkR W u10 u11 u12 u13 x10 x11 x12 x13) => (show Calls Try.prog 20 #[.agg #[u00, u01, .float .f32 s0, .int .i64 p0, .int .i64 q0, u02, .int .i64 n0, .int .i64 t0, u03], .agg #[u10, u11, .float .f32 s1, .int .i64 p1, .int .i64 q1, u12, .int .i64 n1, .int .i64 t1, u13]] W (fun e w' => e = .returned (.bool b) ∧ Below W.heap.size W w') by rw [← hbe]; exact sdS_any _ _ _ _ _ _ _ _ _ _ _ _ _ _ _ _ _ _ _ _ _ _ _ _ _ _ W e0.1 e0.2.1 e0.2.2.1 e0.2.2.2 e1.1 e1.2.1 e1.2.2.1 e1.2.2.2 hm00 hm01 hm02 hm03 hx00 hx01 hx02 hs0 hm10 hm11 hm12 hm13 hx10 hx11 hx12 hs1))
  have HI := Lib.hid (fun (u00 u01 u02 u03 : Value) (u10 u11 u12 u13 : Value) (W : World) (e0 : DkR W u00 u01 u02 u03 x00 x01 x02 x03) (e1 : DkR W u10 u11 u12 u13 x10 x11 x12 x13) => (show Calls Try.prog 21 #[.agg #[u00, u01, .float .f32 s0, .int .i64 p0, .int .i64 q0, u02, .int .i64 n0, .int .i64 t0, u03], .agg #[u10, u11, .float .f32 s1, .int .i64 p1, .int .i64 q1, u12, .int .i64 n1, .int .i64 t1, u13]] W (fun e w' => e = .returned (.bool b) ∧ Below W.heap.size W w') by rw [← hbe]; exact sdI_any _ _ _ _ _ _ _ _ _ _ _ _ _ _ _ _ _ _ _ _ _ _ _ _ _ _ W e0.1 e0.2.1 e0.2.2.1 e0.2.2.2 e1.1 e1.2.1 e1.2.2.1 e1.2.2.2 hm00 hm01 hm02 hm03 hx00 hx01 hx02 hs0 hm10 hm11 hm12 hm13 hx10 hx11 hx12 hs1))
  clear hbe
  have Q_a00 := (X_a0.out.2 0 _ rfl).1
  have Q_a01 := (X_a0.out.2 1 _ rfl).1
  have Q_a02 := (X_a0.out.2 2 _ rfl).1
  have Q_a03 := (X_a0.out.2 3 _ rfl).1
  have Q_a04 := (X_a0.out.2 4 _ rfl).1
  have Q_a05 := (X_a0.out.2 5 _ rfl).1
  have Q_a06 := (X_a0.out.2 6 _ rfl).1
  have Q_a07 := (X_a0.out.2 7 _ rfl).1
  have Q_a08 := (X_a0.out.2 8 _ rfl).1
  have Q_a10 := (X_a1.out.2 0 _ rfl).1
  have Q_a11 := (X_a1.out.2 1 _ rfl).1
  have Q_a12 := (X_a1.out.2 2 _ rfl).1
  have Q_a13 := (X_a1.out.2 3 _ rfl).1
  have Q_a14 := (X_a1.out.2 4 _ rfl).1
  have Q_a15 := (X_a1.out.2 5 _ rfl).1
  have Q_a16 := (X_a1.out.2 6 _ rfl).1
  have Q_a17 := (X_a1.out.2 7 _ rfl).1
  have Q_a18 := (X_a1.out.2 8 _ rfl).1
  go_wp2_with fail
  go_region_held3 (fun w' => w'.cell? ⟨w.heap.size, 0, none⟩ = some (v00) ∧ w'.cell? ⟨w.heap.size, 1, none⟩ = some (v01) ∧ w'.cell? ⟨w.heap.size, 2, none⟩ = some (.float .f32 s0) ∧ w'.cell? ⟨w.heap.size, 3, none⟩ = some (.int .i64 p0) ∧ w'.cell? ⟨w.heap.size, 4, none⟩ = some (.int .i64 q0) ∧ w'.cell? ⟨w.heap.size, 5, none⟩ = some (v02) ∧ w'.cell? ⟨w.heap.size, 6, none⟩ = some (.int .i64 n0) ∧ w'.cell? ⟨w.heap.size, 7, none⟩ = some (.int .i64 t0) ∧ w'.cell? ⟨w.heap.size, 8, none⟩ = some (v03) ∧ w'.cell? ⟨(w.heap.size + 1), 0, none⟩ = some (v10) ∧ w'.cell? ⟨(w.heap.size + 1), 1, none⟩ = some (v11) ∧ w'.cell? ⟨(w.heap.size + 1), 2, none⟩ = some (.float .f32 s1) ∧ w'.cell? ⟨(w.heap.size + 1), 3, none⟩ = some (.int .i64 p1) ∧ w'.cell? ⟨(w.heap.size + 1), 4, none⟩ = some (.int .i64 q1) ∧ w'.cell? ⟨(w.heap.size + 1), 5, none⟩ = some (v12) ∧ w'.cell? ⟨(w.heap.size + 1), 6, none⟩ = some (.int .i64 n1) ∧ w'.cell? ⟨(w.heap.size + 1), 7, none⟩ = some (.int .i64 t1) ∧ w'.cell? ⟨(w.heap.size + 1), 8, none⟩ = some (v13)) (first | exact ⟨(X_a0.out.2 0 _ rfl).1, (X_a0.out.2 1 _ rfl).1, (X_a0.out.2 2 _ rfl).1, (X_a0.out.2 3 _ rfl).1, (X_a0.out.2 4 _ rfl).1, (X_a0.out.2 5 _ rfl).1, (X_a0.out.2 6 _ rfl).1, (X_a0.out.2 7 _ rfl).1, (X_a0.out.2 8 _ rfl).1, (X_a1.out.2 0 _ rfl).1, (X_a1.out.2 1 _ rfl).1, (X_a1.out.2 2 _ rfl).1, (X_a1.out.2 3 _ rfl).1, (X_a1.out.2 4 _ rfl).1, (X_a1.out.2 5 _ rfl).1, (X_a1.out.2 6 _ rfl).1, (X_a1.out.2 7 _ rfl).1, (X_a1.out.2 8 _ rfl).1⟩ | exact ⟨(X_a0_1.out.2 0 _ rfl).1, (X_a0_1.out.2 1 _ rfl).1, (X_a0_1.out.2 2 _ rfl).1, (X_a0_1.out.2 3 _ rfl).1, (X_a0_1.out.2 4 _ rfl).1, (X_a0_1.out.2 5 _ rfl).1, (X_a0_1.out.2 6 _ rfl).1, (X_a0_1.out.2 7 _ rfl).1, (X_a0_1.out.2 8 _ rfl).1, (X_a1_1.out.2 0 _ rfl).1, (X_a1_1.out.2 1 _ rfl).1, (X_a1_1.out.2 2 _ rfl).1, (X_a1_1.out.2 3 _ rfl).1, (X_a1_1.out.2 4 _ rfl).1, (X_a1_1.out.2 5 _ rfl).1, (X_a1_1.out.2 6 _ rfl).1, (X_a1_1.out.2 7 _ rfl).1, (X_a1_1.out.2 8 _ rfl).1⟩ | exact ⟨(X_a0_2.out.2 0 _ rfl).1, (X_a0_2.out.2 1 _ rfl).1, (X_a0_2.out.2 2 _ rfl).1, (X_a0_2.out.2 3 _ rfl).1, (X_a0_2.out.2 4 _ rfl).1, (X_a0_2.out.2 5 _ rfl).1, (X_a0_2.out.2 6 _ rfl).1, (X_a0_2.out.2 7 _ rfl).1, (X_a0_2.out.2 8 _ rfl).1, (X_a1_2.out.2 0 _ rfl).1, (X_a1_2.out.2 1 _ rfl).1, (X_a1_2.out.2 2 _ rfl).1, (X_a1_2.out.2 3 _ rfl).1, (X_a1_2.out.2 4 _ rfl).1, (X_a1_2.out.2 5 _ rfl).1, (X_a1_2.out.2 6 _ rfl).1, (X_a1_2.out.2 7 _ rfl).1, (X_a1_2.out.2 8 _ rfl).1⟩ | exact ⟨(X_a0_3.out.2 0 _ rfl).1, (X_a0_3.out.2 1 _ rfl).1, (X_a0_3.out.2 2 _ rfl).1, (X_a0_3.out.2 3 _ rfl).1, (X_a0_3.out.2 4 _ rfl).1, (X_a0_3.out.2 5 _ rfl).1, (X_a0_3.out.2 6 _ rfl).1, (X_a0_3.out.2 7 _ rfl).1, (X_a0_3.out.2 8 _ rfl).1, (X_a1_3.out.2 0 _ rfl).1, (X_a1_3.out.2 1 _ rfl).1, (X_a1_3.out.2 2 _ rfl).1, (X_a1_3.out.2 3 _ rfl).1, (X_a1_3.out.2 4 _ rfl).1, (X_a1_3.out.2 5 _ rfl).1, (X_a1_3.out.2 6 _ rfl).1, (X_a1_3.out.2 7 _ rfl).1, (X_a1_3.out.2 8 _ rfl).1⟩) ((first | (go_at_call_of 17 v00; refine (toD_R v00 v01 v02 v03 x00 x01 x02 x03 s0 p0 q0 n0 t0 _ (?_) hm00 hm01 hm02 hm03).mono ?_; exact E_a0.out; rintro e w4 ⟨c0_0, c0_1, c0_2, c0_3, rfl, hr0, hb4⟩; replace hb4 : Below w3.heap.size w3 w4 := below_draw1 hb4; have E_a0_1 := Lib.hid (E_a0.out.step hb4); have E_a1_1 := Lib.hid (E_a1.out.step hb4); have X_a0_1 := Lib.hid (X_a0.out.step hb4); have X_a1_1 := Lib.hid (X_a1.out.step hb4); have E_c0_1 := Lib.hid (show DkR w4 c0_0 c0_1 c0_2 c0_3 x00 x01 x02 x03 from hr0)) | (go_at_call_of 17 v10; refine (toD_R v10 v11 v12 v13 x10 x11 x12 x13 s1 p1 q1 n1 t1 _ (?_) hm10 hm11 hm12 hm13).mono ?_; exact E_a1_1.out; rintro e w5 ⟨c1_0, c1_1, c1_2, c1_3, rfl, hr1, hb5⟩; have E_a0_2 := Lib.hid (E_a0_1.out.step hb5); have E_a1_2 := Lib.hid (E_a1_1.out.step hb5); have E_c0_2 := Lib.hid (E_c0_1.out.step hb5); have X_a0_2 := Lib.hid (X_a0_1.out.step hb5); have X_a1_2 := Lib.hid (X_a1_1.out.step hb5); have E_c1_2 := Lib.hid (show DkR w5 c1_0 c1_1 c1_2 c1_3 x10 x11 x12 x13 from hr1)) | (go_at_call 20; refine (HS.out _ _ _ _ _ _ _ _ _ ?_ ?_).mono ?_; exact E_c0_2.out; exact E_c1_2.out; rintro e w6 ⟨rfl, hb6⟩; have E_a0_3 := Lib.hid (E_a0_2.out.step hb6); have E_a1_3 := Lib.hid (E_a1_2.out.step hb6); have E_c0_3 := Lib.hid (E_c0_2.out.step hb6); have E_c1_3 := Lib.hid (E_c1_2.out.step hb6); have X_a0_3 := Lib.hid (X_a0_2.out.step hb6); have X_a1_3 := Lib.hid (X_a1_2.out.step hb6))))
  have hc : Below w3.heap.size w3 w6 := ((hb4.trans (hb5.mono (by have := hb4.size; omega))).trans (hb6.mono (by have := hb4.size; have := hb5.size; omega)))
  clear E_a0_1 E_a1_1 X_a0_1 X_a1_1 E_c0_1 E_a0_2 E_a1_2 E_c0_2 X_a0_2 X_a1_2 E_c1_2 E_a0_3 E_a1_3 E_c0_3 E_c1_3 X_a0_3 X_a1_3
  clear Q_a00 Q_a01 Q_a02 Q_a03 Q_a04 Q_a05 Q_a06 Q_a07 Q_a08 Q_a10 Q_a11 Q_a12 Q_a13 Q_a14 Q_a15 Q_a16 Q_a17 Q_a18
  replace E_a0 := Lib.hid (E_a0.out.step hc)
  replace E_a1 := Lib.hid (E_a1.out.step hc)
  replace X_a0 := Lib.hid (X_a0.out.step hc)
  replace X_a1 := Lib.hid (X_a1.out.step hc)
  replace B := Lib.hid (B.out.trans (hc.mono B.out.size))
  clear hc hb4 hb5 hb6
  clear hr0 hr1
  have Q_a00 := (X_a0.out.2 0 _ rfl).1
  have Q_a01 := (X_a0.out.2 1 _ rfl).1
  have Q_a02 := (X_a0.out.2 2 _ rfl).1
  have Q_a03 := (X_a0.out.2 3 _ rfl).1
  have Q_a04 := (X_a0.out.2 4 _ rfl).1
  have Q_a05 := (X_a0.out.2 5 _ rfl).1
  have Q_a06 := (X_a0.out.2 6 _ rfl).1
  have Q_a07 := (X_a0.out.2 7 _ rfl).1
  have Q_a08 := (X_a0.out.2 8 _ rfl).1
  go_wp2_with fail
  refine (toD_R v00 v01 v02 v03 x00 x01 x02 x03 s0 p0 q0 n0 t0 _ (E_a0.out) hm00 hm01 hm02 hm03).mono ?_
  rintro e w7 ⟨y0_0, y0_1, y0_2, y0_3, rfl, hr, hb⟩
  obtain ⟨Ay0_0, cy0_0, hv, _, _, _⟩ := id (hr.1)
  rw [fl_len] at hv
  subst hv
  obtain ⟨Ay0_1, cy0_1, hv, _, _, _⟩ := id (hr.2.1)
  rw [fl_len] at hv
  subst hv
  obtain ⟨Ay0_2, cy0_2, hv, _, _, _⟩ := id (hr.2.2.1)
  rw [fl_len] at hv
  subst hv
  obtain ⟨Ay0_3, cy0_3, hv, _, _, _⟩ := id (hr.2.2.2)
  rw [bl_len] at hv
  subst hv
  clear Q_a00 Q_a01 Q_a02 Q_a03 Q_a04 Q_a05 Q_a06 Q_a07 Q_a08
  replace E_a0 := Lib.hid (E_a0.out.step hb)
  replace E_a1 := Lib.hid (E_a1.out.step hb)
  replace X_a0 := Lib.hid (X_a0.out.step hb)
  replace X_a1 := Lib.hid (X_a1.out.step hb)
  replace B := Lib.hid (B.out.trans (hb.mono B.out.size))
  have E_y0 := Lib.hid (show DkR w7 (.slice Ay0_0 x00.length cy0_0) (.slice Ay0_1 x01.length cy0_1) (.slice Ay0_2 x02.length cy0_2) (.slice Ay0_3 x03.length cy0_3) x00 x01 x02 x03 from hr)
  clear hr hb
  obtain ⟨w8, hw8⟩ : ∃ W, w7.alloc (.cells #[(.slice Ay0_0 x00.length cy0_0), (.slice Ay0_1 x01.length cy0_1), .float .f32 s0, .int .i64 p0, .int .i64 q0, (.slice Ay0_2 x02.length cy0_2), .int .i64 n0, .int .i64 t0, (.slice Ay0_3 x03.length cy0_3)] 39) = W := ⟨_, rfl⟩
  have hb : Below w7.heap.size w7 w8 := by rw [← hw8]; exact (Below.refl _ _).alloc (Nat.le_refl _) _
  have hx : Bx w8 w7.heap.size [(.slice Ay0_0 x00.length cy0_0), (.slice Ay0_1 x01.length cy0_1), .float .f32 s0, .int .i64 p0, .int .i64 q0, (.slice Ay0_2 x02.length cy0_2), .int .i64 n0, .int .i64 t0, (.slice Ay0_3 x03.length cy0_3)] := by rw [← hw8]; exact bx_new w7 [(.slice Ay0_0 x00.length cy0_0), (.slice Ay0_1 x01.length cy0_1), .float .f32 s0, .int .i64 p0, .int .i64 q0, (.slice Ay0_2 x02.length cy0_2), .int .i64 n0, .int .i64 t0, (.slice Ay0_3 x03.length cy0_3)] _
  replace E_a0 := Lib.hid (E_a0.out.step hb)
  replace E_a1 := Lib.hid (E_a1.out.step hb)
  replace E_y0 := Lib.hid (E_y0.out.step hb)
  replace X_a0 := Lib.hid (X_a0.out.step hb)
  replace X_a1 := Lib.hid (X_a1.out.step hb)
  replace B := Lib.hid (B.out.trans (hb.mono B.out.size))
  have X_y0 := Lib.hid hx
  clear hb hx
  have Q_a10 := (X_a1.out.2 0 _ rfl).1
  have Q_a11 := (X_a1.out.2 1 _ rfl).1
  have Q_a12 := (X_a1.out.2 2 _ rfl).1
  have Q_a13 := (X_a1.out.2 3 _ rfl).1
  have Q_a14 := (X_a1.out.2 4 _ rfl).1
  have Q_a15 := (X_a1.out.2 5 _ rfl).1
  have Q_a16 := (X_a1.out.2 6 _ rfl).1
  have Q_a17 := (X_a1.out.2 7 _ rfl).1
  have Q_a18 := (X_a1.out.2 8 _ rfl).1
  go_wp2_with fail
  refine (toD_R v10 v11 v12 v13 x10 x11 x12 x13 s1 p1 q1 n1 t1 _ (E_a1.out) hm10 hm11 hm12 hm13).mono ?_
  rintro e w9 ⟨y1_0, y1_1, y1_2, y1_3, rfl, hr, hb⟩
  obtain ⟨Ay1_0, cy1_0, hv, _, _, _⟩ := id (hr.1)
  rw [fl_len] at hv
  subst hv
  obtain ⟨Ay1_1, cy1_1, hv, _, _, _⟩ := id (hr.2.1)
  rw [fl_len] at hv
  subst hv
  obtain ⟨Ay1_2, cy1_2, hv, _, _, _⟩ := id (hr.2.2.1)
  rw [fl_len] at hv
  subst hv
  obtain ⟨Ay1_3, cy1_3, hv, _, _, _⟩ := id (hr.2.2.2)
  rw [bl_len] at hv
  subst hv
  clear Q_a10 Q_a11 Q_a12 Q_a13 Q_a14 Q_a15 Q_a16 Q_a17 Q_a18
  replace E_a0 := Lib.hid (E_a0.out.step hb)
  replace E_a1 := Lib.hid (E_a1.out.step hb)
  replace E_y0 := Lib.hid (E_y0.out.step hb)
  replace X_a0 := Lib.hid (X_a0.out.step hb)
  replace X_a1 := Lib.hid (X_a1.out.step hb)
  replace X_y0 := Lib.hid (X_y0.out.step hb)
  replace B := Lib.hid (B.out.trans (hb.mono B.out.size))
  have E_y1 := Lib.hid (show DkR w9 (.slice Ay1_0 x10.length cy1_0) (.slice Ay1_1 x11.length cy1_1) (.slice Ay1_2 x12.length cy1_2) (.slice Ay1_3 x13.length cy1_3) x10 x11 x12 x13 from hr)
  clear hr hb
  obtain ⟨w10, hw10⟩ : ∃ W, w9.alloc (.cells #[(.slice Ay1_0 x10.length cy1_0), (.slice Ay1_1 x11.length cy1_1), .float .f32 s1, .int .i64 p1, .int .i64 q1, (.slice Ay1_2 x12.length cy1_2), .int .i64 n1, .int .i64 t1, (.slice Ay1_3 x13.length cy1_3)] 39) = W := ⟨_, rfl⟩
  have hb : Below w9.heap.size w9 w10 := by rw [← hw10]; exact (Below.refl _ _).alloc (Nat.le_refl _) _
  have hx : Bx w10 w9.heap.size [(.slice Ay1_0 x10.length cy1_0), (.slice Ay1_1 x11.length cy1_1), .float .f32 s1, .int .i64 p1, .int .i64 q1, (.slice Ay1_2 x12.length cy1_2), .int .i64 n1, .int .i64 t1, (.slice Ay1_3 x13.length cy1_3)] := by rw [← hw10]; exact bx_new w9 [(.slice Ay1_0 x10.length cy1_0), (.slice Ay1_1 x11.length cy1_1), .float .f32 s1, .int .i64 p1, .int .i64 q1, (.slice Ay1_2 x12.length cy1_2), .int .i64 n1, .int .i64 t1, (.slice Ay1_3 x13.length cy1_3)] _
  replace E_a0 := Lib.hid (E_a0.out.step hb)
  replace E_a1 := Lib.hid (E_a1.out.step hb)
  replace E_y0 := Lib.hid (E_y0.out.step hb)
  replace E_y1 := Lib.hid (E_y1.out.step hb)
  replace X_a0 := Lib.hid (X_a0.out.step hb)
  replace X_a1 := Lib.hid (X_a1.out.step hb)
  replace X_y0 := Lib.hid (X_y0.out.step hb)
  replace B := Lib.hid (B.out.trans (hb.mono B.out.size))
  have X_y1 := Lib.hid hx
  clear hb hx
  have Q_y00 := (X_y0.out.2 0 _ rfl).1
  have Q_y01 := (X_y0.out.2 1 _ rfl).1
  have Q_y02 := (X_y0.out.2 2 _ rfl).1
  have Q_y03 := (X_y0.out.2 3 _ rfl).1
  have Q_y04 := (X_y0.out.2 4 _ rfl).1
  have Q_y05 := (X_y0.out.2 5 _ rfl).1
  have Q_y06 := (X_y0.out.2 6 _ rfl).1
  have Q_y07 := (X_y0.out.2 7 _ rfl).1
  have Q_y08 := (X_y0.out.2 8 _ rfl).1
  have Q_y10 := (X_y1.out.2 0 _ rfl).1
  have Q_y11 := (X_y1.out.2 1 _ rfl).1
  have Q_y12 := (X_y1.out.2 2 _ rfl).1
  have Q_y13 := (X_y1.out.2 3 _ rfl).1
  have Q_y14 := (X_y1.out.2 4 _ rfl).1
  have Q_y15 := (X_y1.out.2 5 _ rfl).1
  have Q_y16 := (X_y1.out.2 6 _ rfl).1
  have Q_y17 := (X_y1.out.2 7 _ rfl).1
  have Q_y18 := (X_y1.out.2 8 _ rfl).1
  go_wp2_with fail
  refine (HI.out _ _ _ _ _ _ _ _ _ E_y0.out E_y1.out).mono ?_
  rintro e w11 ⟨rfl, hb⟩
  clear Q_y00 Q_y01 Q_y02 Q_y03 Q_y04 Q_y05 Q_y06 Q_y07 Q_y08 Q_y10 Q_y11 Q_y12 Q_y13 Q_y14 Q_y15 Q_y16 Q_y17 Q_y18
  replace E_a0 := Lib.hid (E_a0.out.step hb)
  replace E_a1 := Lib.hid (E_a1.out.step hb)
  replace E_y0 := Lib.hid (E_y0.out.step hb)
  replace E_y1 := Lib.hid (E_y1.out.step hb)
  replace X_a0 := Lib.hid (X_a0.out.step hb)
  replace X_a1 := Lib.hid (X_a1.out.step hb)
  replace X_y0 := Lib.hid (X_y0.out.step hb)
  replace X_y1 := Lib.hid (X_y1.out.step hb)
  replace B := Lib.hid (B.out.trans (hb.mono B.out.size))
  clear hb
  have Q_a00 := (X_a0.out.2 0 _ rfl).1
  have Q_a01 := (X_a0.out.2 1 _ rfl).1
  have Q_a02 := (X_a0.out.2 2 _ rfl).1
  have Q_a03 := (X_a0.out.2 3 _ rfl).1
  have Q_a04 := (X_a0.out.2 4 _ rfl).1
  have Q_a05 := (X_a0.out.2 5 _ rfl).1
  have Q_a06 := (X_a0.out.2 6 _ rfl).1
  have Q_a07 := (X_a0.out.2 7 _ rfl).1
  have Q_a08 := (X_a0.out.2 8 _ rfl).1
  have Q_y00 := (X_y0.out.2 0 _ rfl).1
  have Q_y01 := (X_y0.out.2 1 _ rfl).1
  have Q_y02 := (X_y0.out.2 2 _ rfl).1
  have Q_y03 := (X_y0.out.2 3 _ rfl).1
  have Q_y04 := (X_y0.out.2 4 _ rfl).1
  have Q_y05 := (X_y0.out.2 5 _ rfl).1
  have Q_y06 := (X_y0.out.2 6 _ rfl).1
  have Q_y07 := (X_y0.out.2 7 _ rfl).1
  have Q_y08 := (X_y0.out.2 8 _ rfl).1
  go_wp2_with fail
  go_region_held3 (fun w' => w'.cell? ⟨w.heap.size, 0, none⟩ = some (v00) ∧ w'.cell? ⟨w.heap.size, 1, none⟩ = some (v01) ∧ w'.cell? ⟨w.heap.size, 2, none⟩ = some (.float .f32 s0) ∧ w'.cell? ⟨w.heap.size, 3, none⟩ = some (.int .i64 p0) ∧ w'.cell? ⟨w.heap.size, 4, none⟩ = some (.int .i64 q0) ∧ w'.cell? ⟨w.heap.size, 5, none⟩ = some (v02) ∧ w'.cell? ⟨w.heap.size, 6, none⟩ = some (.int .i64 n0) ∧ w'.cell? ⟨w.heap.size, 7, none⟩ = some (.int .i64 t0) ∧ w'.cell? ⟨w.heap.size, 8, none⟩ = some (v03) ∧ w'.cell? ⟨w7.heap.size, 0, none⟩ = some ((.slice Ay0_0 x00.length cy0_0)) ∧ w'.cell? ⟨w7.heap.size, 1, none⟩ = some ((.slice Ay0_1 x01.length cy0_1)) ∧ w'.cell? ⟨w7.heap.size, 2, none⟩ = some (.float .f32 s0) ∧ w'.cell? ⟨w7.heap.size, 3, none⟩ = some (.int .i64 p0) ∧ w'.cell? ⟨w7.heap.size, 4, none⟩ = some (.int .i64 q0) ∧ w'.cell? ⟨w7.heap.size, 5, none⟩ = some ((.slice Ay0_2 x02.length cy0_2)) ∧ w'.cell? ⟨w7.heap.size, 6, none⟩ = some (.int .i64 n0) ∧ w'.cell? ⟨w7.heap.size, 7, none⟩ = some (.int .i64 t0) ∧ w'.cell? ⟨w7.heap.size, 8, none⟩ = some ((.slice Ay0_3 x03.length cy0_3))) (first | exact ⟨(X_a0.out.2 0 _ rfl).1, (X_a0.out.2 1 _ rfl).1, (X_a0.out.2 2 _ rfl).1, (X_a0.out.2 3 _ rfl).1, (X_a0.out.2 4 _ rfl).1, (X_a0.out.2 5 _ rfl).1, (X_a0.out.2 6 _ rfl).1, (X_a0.out.2 7 _ rfl).1, (X_a0.out.2 8 _ rfl).1, (X_y0.out.2 0 _ rfl).1, (X_y0.out.2 1 _ rfl).1, (X_y0.out.2 2 _ rfl).1, (X_y0.out.2 3 _ rfl).1, (X_y0.out.2 4 _ rfl).1, (X_y0.out.2 5 _ rfl).1, (X_y0.out.2 6 _ rfl).1, (X_y0.out.2 7 _ rfl).1, (X_y0.out.2 8 _ rfl).1⟩ | exact ⟨(X_a0_1.out.2 0 _ rfl).1, (X_a0_1.out.2 1 _ rfl).1, (X_a0_1.out.2 2 _ rfl).1, (X_a0_1.out.2 3 _ rfl).1, (X_a0_1.out.2 4 _ rfl).1, (X_a0_1.out.2 5 _ rfl).1, (X_a0_1.out.2 6 _ rfl).1, (X_a0_1.out.2 7 _ rfl).1, (X_a0_1.out.2 8 _ rfl).1, (X_y0_1.out.2 0 _ rfl).1, (X_y0_1.out.2 1 _ rfl).1, (X_y0_1.out.2 2 _ rfl).1, (X_y0_1.out.2 3 _ rfl).1, (X_y0_1.out.2 4 _ rfl).1, (X_y0_1.out.2 5 _ rfl).1, (X_y0_1.out.2 6 _ rfl).1, (X_y0_1.out.2 7 _ rfl).1, (X_y0_1.out.2 8 _ rfl).1⟩ | exact ⟨(X_a0_2.out.2 0 _ rfl).1, (X_a0_2.out.2 1 _ rfl).1, (X_a0_2.out.2 2 _ rfl).1, (X_a0_2.out.2 3 _ rfl).1, (X_a0_2.out.2 4 _ rfl).1, (X_a0_2.out.2 5 _ rfl).1, (X_a0_2.out.2 6 _ rfl).1, (X_a0_2.out.2 7 _ rfl).1, (X_a0_2.out.2 8 _ rfl).1, (X_y0_2.out.2 0 _ rfl).1, (X_y0_2.out.2 1 _ rfl).1, (X_y0_2.out.2 2 _ rfl).1, (X_y0_2.out.2 3 _ rfl).1, (X_y0_2.out.2 4 _ rfl).1, (X_y0_2.out.2 5 _ rfl).1, (X_y0_2.out.2 6 _ rfl).1, (X_y0_2.out.2 7 _ rfl).1, (X_y0_2.out.2 8 _ rfl).1⟩) ((first | (go_at_call 17; refine (toD_R v00 v01 v02 v03 x00 x01 x02 x03 s0 p0 q0 n0 t0 _ (?_) hm00 hm01 hm02 hm03).mono ?_; exact E_a0.out; rintro e w12 ⟨d0_0, d0_1, d0_2, d0_3, rfl, hr, hb12⟩; replace hb12 : Below w11.heap.size w11 w12 := below_draw1 hb12; have E_a0_1 := Lib.hid (E_a0.out.step hb12); have E_a1_1 := Lib.hid (E_a1.out.step hb12); have E_y0_1 := Lib.hid (E_y0.out.step hb12); have E_y1_1 := Lib.hid (E_y1.out.step hb12); have X_a0_1 := Lib.hid (X_a0.out.step hb12); have X_y0_1 := Lib.hid (X_y0.out.step hb12); have E_d0_1 := Lib.hid (show DkR w12 d0_0 d0_1 d0_2 d0_3 x00 x01 x02 x03 from hr)) | (go_at_call 19; refine (eqD_R (.slice Ay0_0 x00.length cy0_0) (.slice Ay0_1 x01.length cy0_1) (.slice Ay0_2 x02.length cy0_2) (.slice Ay0_3 x03.length cy0_3) x00 x01 x02 x03 s0 p0 q0 n0 t0 d0_0 d0_1 d0_2 d0_3 _ (?_) (?_) hm00 hm01 hm02 hm03).mono ?_; exact E_y0_1.out; exact E_d0_1.out; rintro e w13 ⟨rfl, hb13⟩; have E_a0_2 := Lib.hid (E_a0_1.out.step hb13); have E_a1_2 := Lib.hid (E_a1_1.out.step hb13); have E_y0_2 := Lib.hid (E_y0_1.out.step hb13); have E_y1_2 := Lib.hid (E_y1_1.out.step hb13); have E_d0_2 := Lib.hid (E_d0_1.out.step hb13); have X_a0_2 := Lib.hid (X_a0_1.out.step hb13); have X_y0_2 := Lib.hid (X_y0_1.out.step hb13))))
  have hc : Below w11.heap.size w11 w13 := (hb12.trans (hb13.mono (by have := hb12.size; omega)))
  clear E_a0_1 E_a1_1 E_y0_1 E_y1_1 X_a0_1 X_y0_1 E_d0_1 E_a0_2 E_a1_2 E_y0_2 E_y1_2 E_d0_2 X_a0_2 X_y0_2
  clear Q_a00 Q_a01 Q_a02 Q_a03 Q_a04 Q_a05 Q_a06 Q_a07 Q_a08 Q_y00 Q_y01 Q_y02 Q_y03 Q_y04 Q_y05 Q_y06 Q_y07 Q_y08
  replace E_a0 := Lib.hid (E_a0.out.step hc)
  replace E_a1 := Lib.hid (E_a1.out.step hc)
  replace E_y0 := Lib.hid (E_y0.out.step hc)
  replace E_y1 := Lib.hid (E_y1.out.step hc)
  replace X_a0 := Lib.hid (X_a0.out.step hc)
  replace X_a1 := Lib.hid (X_a1.out.step hc)
  replace X_y0 := Lib.hid (X_y0.out.step hc)
  replace X_y1 := Lib.hid (X_y1.out.step hc)
  replace B := Lib.hid (B.out.trans (hc.mono B.out.size))
  clear hc hb12 hb13
  clear hr
  have Q_a10 := (X_a1.out.2 0 _ rfl).1
  have Q_a11 := (X_a1.out.2 1 _ rfl).1
  have Q_a12 := (X_a1.out.2 2 _ rfl).1
  have Q_a13 := (X_a1.out.2 3 _ rfl).1
  have Q_a14 := (X_a1.out.2 4 _ rfl).1
  have Q_a15 := (X_a1.out.2 5 _ rfl).1
  have Q_a16 := (X_a1.out.2 6 _ rfl).1
  have Q_a17 := (X_a1.out.2 7 _ rfl).1
  have Q_a18 := (X_a1.out.2 8 _ rfl).1
  have Q_y10 := (X_y1.out.2 0 _ rfl).1
  have Q_y11 := (X_y1.out.2 1 _ rfl).1
  have Q_y12 := (X_y1.out.2 2 _ rfl).1
  have Q_y13 := (X_y1.out.2 3 _ rfl).1
  have Q_y14 := (X_y1.out.2 4 _ rfl).1
  have Q_y15 := (X_y1.out.2 5 _ rfl).1
  have Q_y16 := (X_y1.out.2 6 _ rfl).1
  have Q_y17 := (X_y1.out.2 7 _ rfl).1
  have Q_y18 := (X_y1.out.2 8 _ rfl).1
  go_wp2_with fail
  go_region_held3 (fun w' => w'.cell? ⟨(w.heap.size + 1), 0, none⟩ = some (v10) ∧ w'.cell? ⟨(w.heap.size + 1), 1, none⟩ = some (v11) ∧ w'.cell? ⟨(w.heap.size + 1), 2, none⟩ = some (.float .f32 s1) ∧ w'.cell? ⟨(w.heap.size + 1), 3, none⟩ = some (.int .i64 p1) ∧ w'.cell? ⟨(w.heap.size + 1), 4, none⟩ = some (.int .i64 q1) ∧ w'.cell? ⟨(w.heap.size + 1), 5, none⟩ = some (v12) ∧ w'.cell? ⟨(w.heap.size + 1), 6, none⟩ = some (.int .i64 n1) ∧ w'.cell? ⟨(w.heap.size + 1), 7, none⟩ = some (.int .i64 t1) ∧ w'.cell? ⟨(w.heap.size + 1), 8, none⟩ = some (v13) ∧ w'.cell? ⟨w9.heap.size, 0, none⟩ = some ((.slice Ay1_0 x10.length cy1_0)) ∧ w'.cell? ⟨w9.heap.size, 1, none⟩ = some ((.slice Ay1_1 x11.length cy1_1)) ∧ w'.cell? ⟨w9.heap.size, 2, none⟩ = some (.float .f32 s1) ∧ w'.cell? ⟨w9.heap.size, 3, none⟩ = some (.int .i64 p1) ∧ w'.cell? ⟨w9.heap.size, 4, none⟩ = some (.int .i64 q1) ∧ w'.cell? ⟨w9.heap.size, 5, none⟩ = some ((.slice Ay1_2 x12.length cy1_2)) ∧ w'.cell? ⟨w9.heap.size, 6, none⟩ = some (.int .i64 n1) ∧ w'.cell? ⟨w9.heap.size, 7, none⟩ = some (.int .i64 t1) ∧ w'.cell? ⟨w9.heap.size, 8, none⟩ = some ((.slice Ay1_3 x13.length cy1_3))) (first | exact ⟨(X_a1.out.2 0 _ rfl).1, (X_a1.out.2 1 _ rfl).1, (X_a1.out.2 2 _ rfl).1, (X_a1.out.2 3 _ rfl).1, (X_a1.out.2 4 _ rfl).1, (X_a1.out.2 5 _ rfl).1, (X_a1.out.2 6 _ rfl).1, (X_a1.out.2 7 _ rfl).1, (X_a1.out.2 8 _ rfl).1, (X_y1.out.2 0 _ rfl).1, (X_y1.out.2 1 _ rfl).1, (X_y1.out.2 2 _ rfl).1, (X_y1.out.2 3 _ rfl).1, (X_y1.out.2 4 _ rfl).1, (X_y1.out.2 5 _ rfl).1, (X_y1.out.2 6 _ rfl).1, (X_y1.out.2 7 _ rfl).1, (X_y1.out.2 8 _ rfl).1⟩ | exact ⟨(X_a1_1.out.2 0 _ rfl).1, (X_a1_1.out.2 1 _ rfl).1, (X_a1_1.out.2 2 _ rfl).1, (X_a1_1.out.2 3 _ rfl).1, (X_a1_1.out.2 4 _ rfl).1, (X_a1_1.out.2 5 _ rfl).1, (X_a1_1.out.2 6 _ rfl).1, (X_a1_1.out.2 7 _ rfl).1, (X_a1_1.out.2 8 _ rfl).1, (X_y1_1.out.2 0 _ rfl).1, (X_y1_1.out.2 1 _ rfl).1, (X_y1_1.out.2 2 _ rfl).1, (X_y1_1.out.2 3 _ rfl).1, (X_y1_1.out.2 4 _ rfl).1, (X_y1_1.out.2 5 _ rfl).1, (X_y1_1.out.2 6 _ rfl).1, (X_y1_1.out.2 7 _ rfl).1, (X_y1_1.out.2 8 _ rfl).1⟩ | exact ⟨(X_a1_2.out.2 0 _ rfl).1, (X_a1_2.out.2 1 _ rfl).1, (X_a1_2.out.2 2 _ rfl).1, (X_a1_2.out.2 3 _ rfl).1, (X_a1_2.out.2 4 _ rfl).1, (X_a1_2.out.2 5 _ rfl).1, (X_a1_2.out.2 6 _ rfl).1, (X_a1_2.out.2 7 _ rfl).1, (X_a1_2.out.2 8 _ rfl).1, (X_y1_2.out.2 0 _ rfl).1, (X_y1_2.out.2 1 _ rfl).1, (X_y1_2.out.2 2 _ rfl).1, (X_y1_2.out.2 3 _ rfl).1, (X_y1_2.out.2 4 _ rfl).1, (X_y1_2.out.2 5 _ rfl).1, (X_y1_2.out.2 6 _ rfl).1, (X_y1_2.out.2 7 _ rfl).1, (X_y1_2.out.2 8 _ rfl).1⟩) ((first | (go_at_call 17; refine (toD_R v10 v11 v12 v13 x10 x11 x12 x13 s1 p1 q1 n1 t1 _ (?_) hm10 hm11 hm12 hm13).mono ?_; exact E_a1.out; rintro e w14 ⟨d1_0, d1_1, d1_2, d1_3, rfl, hr, hb14⟩; replace hb14 : Below w13.heap.size w13 w14 := below_draw1 hb14; have E_a0_1 := Lib.hid (E_a0.out.step hb14); have E_a1_1 := Lib.hid (E_a1.out.step hb14); have E_y0_1 := Lib.hid (E_y0.out.step hb14); have E_y1_1 := Lib.hid (E_y1.out.step hb14); have X_a1_1 := Lib.hid (X_a1.out.step hb14); have X_y1_1 := Lib.hid (X_y1.out.step hb14); have E_d1_1 := Lib.hid (show DkR w14 d1_0 d1_1 d1_2 d1_3 x10 x11 x12 x13 from hr)) | (go_at_call 19; refine (eqD_R (.slice Ay1_0 x10.length cy1_0) (.slice Ay1_1 x11.length cy1_1) (.slice Ay1_2 x12.length cy1_2) (.slice Ay1_3 x13.length cy1_3) x10 x11 x12 x13 s1 p1 q1 n1 t1 d1_0 d1_1 d1_2 d1_3 _ (?_) (?_) hm10 hm11 hm12 hm13).mono ?_; exact E_y1_1.out; exact E_d1_1.out; rintro e w15 ⟨rfl, hb15⟩; have E_a0_2 := Lib.hid (E_a0_1.out.step hb15); have E_a1_2 := Lib.hid (E_a1_1.out.step hb15); have E_y0_2 := Lib.hid (E_y0_1.out.step hb15); have E_y1_2 := Lib.hid (E_y1_1.out.step hb15); have E_d1_2 := Lib.hid (E_d1_1.out.step hb15); have X_a1_2 := Lib.hid (X_a1_1.out.step hb15); have X_y1_2 := Lib.hid (X_y1_1.out.step hb15))))
  have hc : Below w13.heap.size w13 w15 := (hb14.trans (hb15.mono (by have := hb14.size; omega)))
  clear E_a0_1 E_a1_1 E_y0_1 E_y1_1 X_a1_1 X_y1_1 E_d1_1 E_a0_2 E_a1_2 E_y0_2 E_y1_2 E_d1_2 X_a1_2 X_y1_2
  clear Q_a10 Q_a11 Q_a12 Q_a13 Q_a14 Q_a15 Q_a16 Q_a17 Q_a18 Q_y10 Q_y11 Q_y12 Q_y13 Q_y14 Q_y15 Q_y16 Q_y17 Q_y18
  replace E_a0 := Lib.hid (E_a0.out.step hc)
  replace E_a1 := Lib.hid (E_a1.out.step hc)
  replace E_y0 := Lib.hid (E_y0.out.step hc)
  replace E_y1 := Lib.hid (E_y1.out.step hc)
  replace X_a0 := Lib.hid (X_a0.out.step hc)
  replace X_a1 := Lib.hid (X_a1.out.step hc)
  replace X_y0 := Lib.hid (X_y0.out.step hc)
  replace X_y1 := Lib.hid (X_y1.out.step hc)
  replace B := Lib.hid (B.out.trans (hc.mono B.out.size))
  clear hc hb14 hb15
  clear hr
  go_wp2_with fail
  go_ret
  exact ⟨rfl, B.out⟩

namespace fnExactSameDesk
open Go.ChangeShapes Go.WideShapes Go.ChangeAt Go.RowKit
open Go.ChangeMaps (open_string)
set_option linter.unusedVariables false
theorem own : ownKnob Try.prog.godebug = none := by kernel_rfl
theorem laidOut : laidOutB Try.prog = true := by kernel_rfl
set_option maxRecDepth 100000 in
theorem lifted (os : Os) (started : os.Started) (H : Type) (enc : TypeId × Value → H) :
    ReturnsInHanded {} Try.checked os 4 .any (Rows.fnExactSameDeskSpec.pre6 enc Try.prog Try.f4 Rows.fnExactSameDeskRow.domain false) (Rows.fnExactSameDeskSpec.post enc Try.prog Try.f4 false true false false) := by
  refine returnsInHanded_of_change (C := Try.checked) own started (by kernel_rfl) Try.func4
    (ChangeSpec.witness6 (enc := enc) (C := Try.checked) false ⟨#[], #[.agg #[.slice none 0 0, .slice none 0 0, .float .f32 0, .int .i64 0, .int .i64 0, .slice none 0 0, .int .i64 0, .int .i64 0, .slice none 0 0], .agg #[.slice none 0 0, .slice none 0 0, .float .f32 0, .int .i64 0, .int .i64 0, .slice none 0 0, .int .i64 0, .int .i64 0, .slice none 0 0]], []⟩ 8 (by kernel_rfl) (by kernel_rfl) (by kernel_rfl) (by kernel_rfl)) ?_
  intro W base args ds gs before hval0 hW hcnd _
  have hval : ∀ (j : Nat) t v, Try.f4.params[j]? = some t → args[j]? = some v → Value.okWide Try.prog W .any base t v := hval0
  have hW' := hW
  have hlt0 := hW.lt
  obtain ⟨p, q, hA0, hV, rfl, hfz, hnd⟩ := hW
  have hA : DataW.TrodAll enc Try.prog W 0 (fun _ => true) true Try.f4.params.toList args.toList ds p := hA0
  have hAk := hA
  have hltp : ∀ x ∈ p, x.block < W.heap.size := fun x hx => hlt0 x (List.mem_append_left _ hx)
  have hread : ∀ t ∈ Try.f4.params.toList, Try.prog.readableRec t = true ∧ t < Try.prog.types.size := by
    rw [Try.params4]
    intro t ht
    simp only [List.mem_cons, List.not_mem_nil, or_false] at ht
    rcases ht with rfl | rfl <;> exact ⟨by kernel_rfl, of_decide_eq_true (by kernel_rfl)⟩
  rw [Try.params4] at hA hval
  obtain ⟨v0, vs0, d0, ds0, p0, q0, hargs, rfl, rfl, h0, r0⟩ := trodAll_cons hA
  obtain ⟨v1, vs1, d1, ds1, p1, q1, rfl, rfl, rfl, h1, r1⟩ := trodAll_cons r0
  obtain ⟨rfl, rfl, rfl⟩ := trodAll_nil r1
  obtain rfl : args = #[v0, v1] := by cases args; simp_all
  obtain ⟨rfl, rfl⟩ := trodVars_none hV
  obtain ⟨v00, v01, v02, v03, x00, x01, x02, x03, s0, p0, q0, n0, t0, rfl, r00, r01, r02, r03, z00, z01, z02, z03⟩ := open_desk Try.underlying32 (by kernel_rfl) ⟨by kernel_rfl, by kernel_rfl⟩ ⟨by kernel_rfl, by kernel_rfl⟩ ⟨by kernel_rfl, by kernel_rfl⟩ ⟨by kernel_rfl, by kernel_rfl⟩ Try.underlying22 Try.underlying23 (by kernel_rfl) Try.underlying25 ⟨by kernel_rfl, by kernel_rfl⟩ ⟨by kernel_rfl, by kernel_rfl⟩ Try.underlying22 Try.underlying23 (by kernel_rfl) Try.underlying23 Try.underlying27 ⟨by kernel_rfl, by kernel_rfl⟩ ⟨by kernel_rfl, by kernel_rfl⟩ ⟨by kernel_rfl, by kernel_rfl⟩ Try.underlying2 Try.underlying2 Try.underlying22 Try.underlying23 (by kernel_rfl) Try.underlying30 ⟨by kernel_rfl, by kernel_rfl⟩ ⟨by kernel_rfl, by kernel_rfl⟩ ⟨by kernel_rfl, by kernel_rfl⟩ Try.underlying2 Try.underlying2 Try.underlying28 Try.underlying4 (by kernel_rfl) (hval 0 32 v0 rfl rfl) h0 (fun x hx => hltp x (by simp [hx]))
  obtain ⟨v10, v11, v12, v13, x10, x11, x12, x13, s1, p1, q1, n1, t1, rfl, r10, r11, r12, r13, z10, z11, z12, z13⟩ := open_desk Try.underlying32 (by kernel_rfl) ⟨by kernel_rfl, by kernel_rfl⟩ ⟨by kernel_rfl, by kernel_rfl⟩ ⟨by kernel_rfl, by kernel_rfl⟩ ⟨by kernel_rfl, by kernel_rfl⟩ Try.underlying22 Try.underlying23 (by kernel_rfl) Try.underlying25 ⟨by kernel_rfl, by kernel_rfl⟩ ⟨by kernel_rfl, by kernel_rfl⟩ Try.underlying22 Try.underlying23 (by kernel_rfl) Try.underlying23 Try.underlying27 ⟨by kernel_rfl, by kernel_rfl⟩ ⟨by kernel_rfl, by kernel_rfl⟩ ⟨by kernel_rfl, by kernel_rfl⟩ Try.underlying2 Try.underlying2 Try.underlying22 Try.underlying23 (by kernel_rfl) Try.underlying30 ⟨by kernel_rfl, by kernel_rfl⟩ ⟨by kernel_rfl, by kernel_rfl⟩ ⟨by kernel_rfl, by kernel_rfl⟩ Try.underlying2 Try.underlying2 Try.underlying28 Try.underlying4 (by kernel_rfl) (hval 1 32 v1 rfl rfl) h1 (fun x hx => hltp x (by simp [hx]))
  clear hA0 hval0
  refine (walk W v00 v01 v02 v03 x00 x01 x02 x03 s0 p0 q0 n0 t0 ⟨r00, r01, r02, r03⟩ z00 z01 z02 z03 v10 v11 v12 v13 x10 x11 x12 x13 s1 p1 q1 n1 t1 ⟨r10, r11, r12, r13⟩ z10 z11 z12 z13).mono fun e W' ⟨he, hg⟩ => ?_
  subst he
  exact ⟨_, rfl, post_grown (pv := []) hW' hg (fun _ _ _ => (trodAll_cons_mk (shut_bool Try.underlying4 _) trodAll_mk0)) (trodAll_low laidOut hg _ _ _ _ hread hltp hAk) rfl rfl⟩

theorem over : Rows.fnExactSameDeskRow.holds Try.pinned (OpenSpec.ofChange Rows.fnExactSameDeskSpec) :=
  OpenClaim.holds_of_wide 4 Try.f4 rfl rfl rfl rfl rfl rfl rfl ⟨rfl, rfl, rfl, rfl, rfl⟩ rfl rfl rfl rfl rfl (by kernel_rfl) Try.func4 (by kernel_rfl)
    (of_decide_eq_true (by kernel_rfl)) (by unfold Func.isWrapper; first | (rw [if_pos (by decide +kernel)]; kernel_rfl) | (rw [if_neg (by decide +kernel)]; exact ⟨rfl, rfl⟩))
    (fun os started H enc _ => lifted os started H enc)

theorem proved : Rows.FnExactSameDeskSaid := over
end fnExactSameDesk
end Go.Proofs.Ythkklilfignmpaa
