/-
  Contracts: the law's own copies of desks.
-/
import Derived.Test.YthkklilfignmpaaDk
namespace Go.Proofs.Ythkklilfignmpaa
open Go.RowKit Fl
set_option linter.unusedVariables false
set_option maxRecDepth 100000

/-- A new desk with these parts. -/
def MadeD (a0 a1 a2 : List Nat) (a3 : List Bool) (s : Nat) (p q n t : Int) (w : World) (e : Ending) (w' : World) : Prop :=
  ∃ u0 u1 u2 u3, e = .returned (.agg #[u0, u1, .float .f32 s, .int .i64 p, .int .i64 q, u2, .int .i64 n, .int .i64 t, u3]) ∧ Rd w' w'.heap.size u0 (fl a0) ∧ Rd w' w'.heap.size u1 (fl a1) ∧ Rd w' w'.heap.size u2 (fl a2) ∧ Rd w' w'.heap.size u3 (bl a3) ∧ Below w.heap.size w w'
set_option maxHeartbeats 8000000 in
theorem toD_any (v0 v1 v2 v3 : Value) (a0 a1 a2 : List Nat) (a3 : List Bool) (s : Nat) (p q n t : Int) (w : World) (h0 : Rd w w.heap.size v0 (fl a0)) (h1 : Rd w w.heap.size v1 (fl a1)) (h2 : Rd w w.heap.size v2 (fl a2)) (h3 : Rd w w.heap.size v3 (bl a3)) (hm0 : a0.length ≤ 1048576) (hm1 : a1.length ≤ 1048576) (hm2 : a2.length ≤ 1048576) (hm3 : a3.length ≤ 1048576) :
    Calls Try.prog 17 #[.agg #[v0, v1, .float .f32 s, .int .i64 p, .int .i64 q, v2, .int .i64 n, .int .i64 t, v3]] w (MadeD a0 a1 a2 a3 s p q n t w) := by
  obtain ⟨w0, hw0⟩ : ∃ w0, ((w.alloc (.cells #[v0, v1, .float .f32 s, .int .i64 p, .int .i64 q, v2, .int .i64 n, .int .i64 t, v3] 32)).alloc (.cells #[.slice none 0 0, .slice none 0 0, .float .f32 0, .int .i64 0, .int .i64 0, .slice none 0 0, .int .i64 0, .int .i64 0, .slice none 0 0] 39)).alloc (.cells #[.slice none 0 0, .slice none 0 0, .float .f32 0, .int .i64 0, .int .i64 0, .slice none 0 0, .int .i64 0, .int .i64 0, .slice none 0 0] 39) = w0 := ⟨_, rfl⟩
  have HT0 := Lib.hid (fun (W : World) (hb : Below w.heap.size w W) => toF_any v0 a0 W w.heap.size (h0.below hb) hb.size hm0)
  have HT1 := Lib.hid (fun (W : World) (hb : Below w.heap.size w W) => Sf.toSch_any v1 a1 s W (h1.step hb) hm1)
  have HT2 := Lib.hid (fun (W : World) (hb : Below w.heap.size w W) => toPic_any v2 p q a2 W (h2.step hb) hm2)
  have HT3 := Lib.hid (fun (W : World) (hb : Below w.heap.size w W) => Cf.toCod_any v3 n t a3 W (h3.step hb) hm3)
  have hb0 : Below w.heap.size w w0 := by rw [← hw0]; exact (((Below.refl _ _).alloc (Nat.le_refl _) _).alloc (by simp) _).alloc (by simp; omega) _
  have hk : w0.heap.size = w.heap.size + 1 + 1 + 1 := by rw [← hw0]; simp
  have hX0 : Bx w0 w.heap.size [v0, v1, .float .f32 s, .int .i64 p, .int .i64 q, v2, .int .i64 n, .int .i64 t, v3] := by rw [← hw0]; exact ((bx_new w [v0, v1, .float .f32 s, .int .i64 p, .int .i64 q, v2, .int .i64 n, .int .i64 t, v3] _).step ((Below.refl _ _).alloc (Nat.le_refl _) _)).step ((Below.refl _ _).alloc (Nat.le_refl _) _)
  have hR0 : Bx w0 (w.heap.size + 1) [.slice none 0 0, .slice none 0 0, .float .f32 0, .int .i64 0, .int .i64 0, .slice none 0 0, .int .i64 0, .int .i64 0, .slice none 0 0] := by rw [← hw0]; have := (bx_new (w.alloc (.cells #[v0, v1, .float .f32 s, .int .i64 p, .int .i64 q, v2, .int .i64 n, .int .i64 t, v3] 32)) [.slice none 0 0, .slice none 0 0, .float .f32 0, .int .i64 0, .int .i64 0, .slice none 0 0, .int .i64 0, .int .i64 0, .slice none 0 0] 39).step ((Below.refl _ _).alloc (Nat.le_refl _) (.cells #[.slice none 0 0, .slice none 0 0, .float .f32 0, .int .i64 0, .int .i64 0, .slice none 0 0, .int .i64 0, .int .i64 0, .slice none 0 0] 39)); simpa using this
  have hO0 : Bx w0 (w.heap.size + 1 + 1) [.slice none 0 0, .slice none 0 0, .float .f32 0, .int .i64 0, .int .i64 0, .slice none 0 0, .int .i64 0, .int .i64 0, .slice none 0 0] := by rw [← hw0]; have := bx_new ((w.alloc (.cells #[v0, v1, .float .f32 s, .int .i64 p, .int .i64 q, v2, .int .i64 n, .int .i64 t, v3] 32)).alloc (.cells #[.slice none 0 0, .slice none 0 0, .float .f32 0, .int .i64 0, .int .i64 0, .slice none 0 0, .int .i64 0, .int .i64 0, .slice none 0 0] 39)) [.slice none 0 0, .slice none 0 0, .float .f32 0, .int .i64 0, .int .i64 0, .slice none 0 0, .int .i64 0, .int .i64 0, .slice none 0 0] 39; simpa using this
  have x0 := (hX0.2 0 _ rfl).1
  have HX0 := Lib.hid hX0
  have HR0 := Lib.hid hR0
  have HO0 := Lib.hid hO0
  have HB0 := Lib.hid hb0
  have HK := Lib.hid hk
  obtain ⟨A0, c0, hv0, _, _, _⟩ := id h0
  rw [fl_len] at hv0
  subst hv0
  obtain ⟨A1, c1, hv1, _, _, _⟩ := id h1
  rw [fl_len] at hv1
  subst hv1
  obtain ⟨A2, c2, hv2, _, _, _⟩ := id h2
  rw [fl_len] at hv2
  subst hv2
  obtain ⟨A3, c3, hv3, _, _, _⟩ := id h3
  rw [bl_len] at hv3
  subst hv3
  clear h0 h1 h2 h3 hX0 hR0 hO0 hb0 hk
  have hsf : ∀ (a : Addr) (x : Nat) (w : World), (store a (.float .f32 x)).run Try.prog w = stored Try.prog w a (.float .f32 x) .plain := fun a x w => run_store _ w a _ _ rfl
  go_enter Try.func17, Try.ntmps17
  go_wp2_with fail
  refine (HT0.out _ HB0.out).mono ?_
  rintro e x0w ⟨g0, rfl, ho, hb⟩
  have HBx := Lib.hid (HB0.out.trans (hb.mono HB0.out.size))
  have HXx := Lib.hid (HX0.out.step hb)
  have HRx := Lib.hid (HR0.out.step hb)
  have HOx := Lib.hid (HO0.out.step hb)
  have HN0 := Lib.hid (show Own x0w (w.heap.size + 1 + 1 + 1) (.slice (some ⟨g0, 0, none⟩) a0.length a0.length) (fl a0) from (Own.row ho).less (by have := HK.out; omega))
  clear hb ho
  obtain ⟨w1, hw1⟩ : ∃ W, (x0w.setCell ⟨w.heap.size + 1 + 1, 0, none⟩ (.slice (some ⟨g0, 0, none⟩) a0.length a0.length)) = W := ⟨_, rfl⟩
  have d0 := (HOx.out.2 0 _ rfl).1
  have e0 := (HOx.out.2 0 _ rfl).2
  have HB1 := Lib.hid (show Below w.heap.size w w1 by rw [← hw1]; exact (HBx.out.setCell (p := ⟨w.heap.size + 1 + 1, 0, none⟩) (by show _ ≤ w.heap.size + 1 + 1; omega) (.slice (some ⟨g0, 0, none⟩) a0.length a0.length)))
  have HO1 := Lib.hid (show Bx w1 (w.heap.size + 1 + 1) [.slice (some ⟨g0, 0, none⟩) a0.length a0.length, .slice none 0 0, .float .f32 0, .int .i64 0, .int .i64 0, .slice none 0 0, .int .i64 0, .int .i64 0, .slice none 0 0] by rw [← hw1]; exact (HOx.out.set 0 (by simp) (.slice (some ⟨g0, 0, none⟩) a0.length a0.length)))
  have HR1 := Lib.hid (show Bx w1 (w.heap.size + 1) [.slice none 0 0, .slice none 0 0, .float .f32 0, .int .i64 0, .int .i64 0, .slice none 0 0, .int .i64 0, .int .i64 0, .slice none 0 0] by rw [← hw1]; exact (HRx.out.other (g' := w.heap.size + 1 + 1) (by omega) 0 (.slice (some ⟨g0, 0, none⟩) a0.length a0.length)))
  have HX1 := Lib.hid (show Bx w1 w.heap.size [.slice A0 a0.length c0, .slice A1 a1.length c1, .float .f32 s, .int .i64 p, .int .i64 q, .slice A2 a2.length c2, .int .i64 n, .int .i64 t, .slice A3 a3.length c3] by rw [← hw1]; exact (HXx.out.other (g' := w.heap.size + 1 + 1) (by omega) 0 (.slice (some ⟨g0, 0, none⟩) a0.length a0.length)))
  have HQ0_1 := Lib.hid (show Own w1 (w.heap.size + 1 + 1 + 1) (.slice (some ⟨g0, 0, none⟩) a0.length a0.length) (fl a0) by rw [← hw1]; exact (HN0.out.setLess (a := ⟨w.heap.size + 1 + 1, 0, none⟩) (by show w.heap.size + 1 + 1 < w.heap.size + 1 + 1 + 1; omega) (.slice (some ⟨g0, 0, none⟩) a0.length a0.length)))
  have HKK1 := Lib.hid (show (w.heap.size + 1 + 1 + 1) ≤ w1.heap.size from HO1.out.1)
  have x1 := (HX1.out.2 1 _ rfl).1
  have x2 := (HX1.out.2 2 _ rfl).1
  clear HBx HXx HRx HOx
  go_wp2_with fail
  clear hw1 d0 e0 x1 x2 HN0 
  refine (HT1.out _ HB1.out).mono ?_
  rintro e x1w ⟨g1, rfl, ho, hb⟩
  have HBx := Lib.hid (HB1.out.trans (hb.mono HB1.out.size))
  have HXx := Lib.hid (HX1.out.step hb)
  have HRx := Lib.hid (HR1.out.step hb)
  have HOx := Lib.hid (HO1.out.step hb)
  have HN1 := Lib.hid (show Own x1w (w.heap.size + 1 + 1 + 1) (.slice (some ⟨g1, 0, none⟩) a1.length a1.length) (fl a1) from (ho).less (by have := HK.out; have := HKK1.out; omega))
  have HM0 := Lib.hid (HQ0_1.out.below hb)
  clear hb ho
  obtain ⟨w2, hw2⟩ : ∃ W, ((x1w.setCell ⟨w.heap.size + 1 + 1, 1, none⟩ (.slice (some ⟨g1, 0, none⟩) a1.length a1.length)).setCell ⟨w.heap.size + 1 + 1, 2, none⟩ (.float .f32 s)) = W := ⟨_, rfl⟩
  have d1 := (HOx.out.2 1 _ rfl).1
  have e1 := (HOx.out.2 1 _ rfl).2
  have d2 := (HOx.out.2 2 _ rfl).1
  have e2 := (HOx.out.2 2 _ rfl).2
  have HB2 := Lib.hid (show Below w.heap.size w w2 by rw [← hw2]; exact ((HBx.out.setCell (p := ⟨w.heap.size + 1 + 1, 1, none⟩) (by show _ ≤ w.heap.size + 1 + 1; omega) (.slice (some ⟨g1, 0, none⟩) a1.length a1.length)).setCell (p := ⟨w.heap.size + 1 + 1, 2, none⟩) (by show _ ≤ w.heap.size + 1 + 1; omega) (.float .f32 s)))
  have HO2 := Lib.hid (show Bx w2 (w.heap.size + 1 + 1) [.slice (some ⟨g0, 0, none⟩) a0.length a0.length, .slice (some ⟨g1, 0, none⟩) a1.length a1.length, .float .f32 s, .int .i64 0, .int .i64 0, .slice none 0 0, .int .i64 0, .int .i64 0, .slice none 0 0] by rw [← hw2]; exact ((HOx.out.set 1 (by simp) (.slice (some ⟨g1, 0, none⟩) a1.length a1.length)).set 2 (by simp) (.float .f32 s)))
  have HR2 := Lib.hid (show Bx w2 (w.heap.size + 1) [.slice none 0 0, .slice none 0 0, .float .f32 0, .int .i64 0, .int .i64 0, .slice none 0 0, .int .i64 0, .int .i64 0, .slice none 0 0] by rw [← hw2]; exact ((HRx.out.other (g' := w.heap.size + 1 + 1) (by omega) 1 (.slice (some ⟨g1, 0, none⟩) a1.length a1.length)).other (g' := w.heap.size + 1 + 1) (by omega) 2 (.float .f32 s)))
  have HX2 := Lib.hid (show Bx w2 w.heap.size [.slice A0 a0.length c0, .slice A1 a1.length c1, .float .f32 s, .int .i64 p, .int .i64 q, .slice A2 a2.length c2, .int .i64 n, .int .i64 t, .slice A3 a3.length c3] by rw [← hw2]; exact ((HXx.out.other (g' := w.heap.size + 1 + 1) (by omega) 1 (.slice (some ⟨g1, 0, none⟩) a1.length a1.length)).other (g' := w.heap.size + 1 + 1) (by omega) 2 (.float .f32 s)))
  have HQ0_2 := Lib.hid (show Own w2 (w.heap.size + 1 + 1 + 1) (.slice (some ⟨g0, 0, none⟩) a0.length a0.length) (fl a0) by rw [← hw2]; exact ((HM0.out.setLess (a := ⟨w.heap.size + 1 + 1, 1, none⟩) (by show w.heap.size + 1 + 1 < w.heap.size + 1 + 1 + 1; omega) (.slice (some ⟨g1, 0, none⟩) a1.length a1.length)).setLess (a := ⟨w.heap.size + 1 + 1, 2, none⟩) (by show w.heap.size + 1 + 1 < w.heap.size + 1 + 1 + 1; omega) (.float .f32 s)))
  have HQ1_2 := Lib.hid (show Own w2 (w.heap.size + 1 + 1 + 1) (.slice (some ⟨g1, 0, none⟩) a1.length a1.length) (fl a1) by rw [← hw2]; exact ((HN1.out.setLess (a := ⟨w.heap.size + 1 + 1, 1, none⟩) (by show w.heap.size + 1 + 1 < w.heap.size + 1 + 1 + 1; omega) (.slice (some ⟨g1, 0, none⟩) a1.length a1.length)).setLess (a := ⟨w.heap.size + 1 + 1, 2, none⟩) (by show w.heap.size + 1 + 1 < w.heap.size + 1 + 1 + 1; omega) (.float .f32 s)))
  have HKK2 := Lib.hid (show (w.heap.size + 1 + 1 + 1) ≤ w2.heap.size from HO2.out.1)
  have x3 := (HX2.out.2 3 _ rfl).1
  have x4 := (HX2.out.2 4 _ rfl).1
  have x5 := (HX2.out.2 5 _ rfl).1
  clear HBx HXx HRx HOx
  go_wp2_with fail
  clear hw2 d1 e1 d2 e2 x3 x4 x5 HN1 HM0
  refine (HT2.out _ HB2.out).mono ?_
  rintro e x2w ⟨g2, rfl, ho, hb⟩
  have HBx := Lib.hid (HB2.out.trans (hb.mono HB2.out.size))
  have HXx := Lib.hid (HX2.out.step hb)
  have HRx := Lib.hid (HR2.out.step hb)
  have HOx := Lib.hid (HO2.out.step hb)
  have HN2 := Lib.hid (show Own x2w (w.heap.size + 1 + 1 + 1) (.slice (some ⟨g2, 0, none⟩) a2.length a2.length) (fl a2) from (ho).less (by have := HK.out; have := HKK2.out; omega))
  have HM0 := Lib.hid (HQ0_2.out.below hb)
  have HM1 := Lib.hid (HQ1_2.out.below hb)
  clear hb ho
  obtain ⟨w3, hw3⟩ : ∃ W, (((x2w.setCell ⟨w.heap.size + 1 + 1, 3, none⟩ (.int .i64 p)).setCell ⟨w.heap.size + 1 + 1, 4, none⟩ (.int .i64 q)).setCell ⟨w.heap.size + 1 + 1, 5, none⟩ (.slice (some ⟨g2, 0, none⟩) a2.length a2.length)) = W := ⟨_, rfl⟩
  have d3 := (HOx.out.2 3 _ rfl).1
  have e3 := (HOx.out.2 3 _ rfl).2
  have d4 := (HOx.out.2 4 _ rfl).1
  have e4 := (HOx.out.2 4 _ rfl).2
  have d5 := (HOx.out.2 5 _ rfl).1
  have e5 := (HOx.out.2 5 _ rfl).2
  have HB3 := Lib.hid (show Below w.heap.size w w3 by rw [← hw3]; exact (((HBx.out.setCell (p := ⟨w.heap.size + 1 + 1, 3, none⟩) (by show _ ≤ w.heap.size + 1 + 1; omega) (.int .i64 p)).setCell (p := ⟨w.heap.size + 1 + 1, 4, none⟩) (by show _ ≤ w.heap.size + 1 + 1; omega) (.int .i64 q)).setCell (p := ⟨w.heap.size + 1 + 1, 5, none⟩) (by show _ ≤ w.heap.size + 1 + 1; omega) (.slice (some ⟨g2, 0, none⟩) a2.length a2.length)))
  have HO3 := Lib.hid (show Bx w3 (w.heap.size + 1 + 1) [.slice (some ⟨g0, 0, none⟩) a0.length a0.length, .slice (some ⟨g1, 0, none⟩) a1.length a1.length, .float .f32 s, .int .i64 p, .int .i64 q, .slice (some ⟨g2, 0, none⟩) a2.length a2.length, .int .i64 0, .int .i64 0, .slice none 0 0] by rw [← hw3]; exact (((HOx.out.set 3 (by simp) (.int .i64 p)).set 4 (by simp) (.int .i64 q)).set 5 (by simp) (.slice (some ⟨g2, 0, none⟩) a2.length a2.length)))
  have HR3 := Lib.hid (show Bx w3 (w.heap.size + 1) [.slice none 0 0, .slice none 0 0, .float .f32 0, .int .i64 0, .int .i64 0, .slice none 0 0, .int .i64 0, .int .i64 0, .slice none 0 0] by rw [← hw3]; exact (((HRx.out.other (g' := w.heap.size + 1 + 1) (by omega) 3 (.int .i64 p)).other (g' := w.heap.size + 1 + 1) (by omega) 4 (.int .i64 q)).other (g' := w.heap.size + 1 + 1) (by omega) 5 (.slice (some ⟨g2, 0, none⟩) a2.length a2.length)))
  have HX3 := Lib.hid (show Bx w3 w.heap.size [.slice A0 a0.length c0, .slice A1 a1.length c1, .float .f32 s, .int .i64 p, .int .i64 q, .slice A2 a2.length c2, .int .i64 n, .int .i64 t, .slice A3 a3.length c3] by rw [← hw3]; exact (((HXx.out.other (g' := w.heap.size + 1 + 1) (by omega) 3 (.int .i64 p)).other (g' := w.heap.size + 1 + 1) (by omega) 4 (.int .i64 q)).other (g' := w.heap.size + 1 + 1) (by omega) 5 (.slice (some ⟨g2, 0, none⟩) a2.length a2.length)))
  have HQ0_3 := Lib.hid (show Own w3 (w.heap.size + 1 + 1 + 1) (.slice (some ⟨g0, 0, none⟩) a0.length a0.length) (fl a0) by rw [← hw3]; exact (((HM0.out.setLess (a := ⟨w.heap.size + 1 + 1, 3, none⟩) (by show w.heap.size + 1 + 1 < w.heap.size + 1 + 1 + 1; omega) (.int .i64 p)).setLess (a := ⟨w.heap.size + 1 + 1, 4, none⟩) (by show w.heap.size + 1 + 1 < w.heap.size + 1 + 1 + 1; omega) (.int .i64 q)).setLess (a := ⟨w.heap.size + 1 + 1, 5, none⟩) (by show w.heap.size + 1 + 1 < w.heap.size + 1 + 1 + 1; omega) (.slice (some ⟨g2, 0, none⟩) a2.length a2.length)))
  have HQ1_3 := Lib.hid (show Own w3 (w.heap.size + 1 + 1 + 1) (.slice (some ⟨g1, 0, none⟩) a1.length a1.length) (fl a1) by rw [← hw3]; exact (((HM1.out.setLess (a := ⟨w.heap.size + 1 + 1, 3, none⟩) (by show w.heap.size + 1 + 1 < w.heap.size + 1 + 1 + 1; omega) (.int .i64 p)).setLess (a := ⟨w.heap.size + 1 + 1, 4, none⟩) (by show w.heap.size + 1 + 1 < w.heap.size + 1 + 1 + 1; omega) (.int .i64 q)).setLess (a := ⟨w.heap.size + 1 + 1, 5, none⟩) (by show w.heap.size + 1 + 1 < w.heap.size + 1 + 1 + 1; omega) (.slice (some ⟨g2, 0, none⟩) a2.length a2.length)))
  have HQ2_3 := Lib.hid (show Own w3 (w.heap.size + 1 + 1 + 1) (.slice (some ⟨g2, 0, none⟩) a2.length a2.length) (fl a2) by rw [← hw3]; exact (((HN2.out.setLess (a := ⟨w.heap.size + 1 + 1, 3, none⟩) (by show w.heap.size + 1 + 1 < w.heap.size + 1 + 1 + 1; omega) (.int .i64 p)).setLess (a := ⟨w.heap.size + 1 + 1, 4, none⟩) (by show w.heap.size + 1 + 1 < w.heap.size + 1 + 1 + 1; omega) (.int .i64 q)).setLess (a := ⟨w.heap.size + 1 + 1, 5, none⟩) (by show w.heap.size + 1 + 1 < w.heap.size + 1 + 1 + 1; omega) (.slice (some ⟨g2, 0, none⟩) a2.length a2.length)))
  have HKK3 := Lib.hid (show (w.heap.size + 1 + 1 + 1) ≤ w3.heap.size from HO3.out.1)
  have x6 := (HX3.out.2 6 _ rfl).1
  have x7 := (HX3.out.2 7 _ rfl).1
  have x8 := (HX3.out.2 8 _ rfl).1
  clear HBx HXx HRx HOx
  go_wp2_with fail
  clear hw3 d3 e3 d4 e4 d5 e5 x6 x7 x8 HN2 HM0 HM1
  refine (HT3.out _ HB3.out).mono ?_
  rintro e x3w ⟨g3, rfl, ho, hb⟩
  have HBx := Lib.hid (HB3.out.trans (hb.mono HB3.out.size))
  have HXx := Lib.hid (HX3.out.step hb)
  have HRx := Lib.hid (HR3.out.step hb)
  have HOx := Lib.hid (HO3.out.step hb)
  have HN3 := Lib.hid (show Own x3w (w.heap.size + 1 + 1 + 1) (.slice (some ⟨g3, 0, none⟩) a3.length a3.length) (bl a3) from (ho).less (by have := HK.out; have := HKK3.out; omega))
  have HM0 := Lib.hid (HQ0_3.out.below hb)
  have HM1 := Lib.hid (HQ1_3.out.below hb)
  have HM2 := Lib.hid (HQ2_3.out.below hb)
  clear hb ho
  obtain ⟨w4, hw4⟩ : ∃ W, (((x3w.setCell ⟨w.heap.size + 1 + 1, 6, none⟩ (.int .i64 n)).setCell ⟨w.heap.size + 1 + 1, 7, none⟩ (.int .i64 t)).setCell ⟨w.heap.size + 1 + 1, 8, none⟩ (.slice (some ⟨g3, 0, none⟩) a3.length a3.length)) = W := ⟨_, rfl⟩
  have d6 := (HOx.out.2 6 _ rfl).1
  have e6 := (HOx.out.2 6 _ rfl).2
  have d7 := (HOx.out.2 7 _ rfl).1
  have e7 := (HOx.out.2 7 _ rfl).2
  have d8 := (HOx.out.2 8 _ rfl).1
  have e8 := (HOx.out.2 8 _ rfl).2
  have HB4 := Lib.hid (show Below w.heap.size w w4 by rw [← hw4]; exact (((HBx.out.setCell (p := ⟨w.heap.size + 1 + 1, 6, none⟩) (by show _ ≤ w.heap.size + 1 + 1; omega) (.int .i64 n)).setCell (p := ⟨w.heap.size + 1 + 1, 7, none⟩) (by show _ ≤ w.heap.size + 1 + 1; omega) (.int .i64 t)).setCell (p := ⟨w.heap.size + 1 + 1, 8, none⟩) (by show _ ≤ w.heap.size + 1 + 1; omega) (.slice (some ⟨g3, 0, none⟩) a3.length a3.length)))
  have HO4 := Lib.hid (show Bx w4 (w.heap.size + 1 + 1) [.slice (some ⟨g0, 0, none⟩) a0.length a0.length, .slice (some ⟨g1, 0, none⟩) a1.length a1.length, .float .f32 s, .int .i64 p, .int .i64 q, .slice (some ⟨g2, 0, none⟩) a2.length a2.length, .int .i64 n, .int .i64 t, .slice (some ⟨g3, 0, none⟩) a3.length a3.length] by rw [← hw4]; exact (((HOx.out.set 6 (by simp) (.int .i64 n)).set 7 (by simp) (.int .i64 t)).set 8 (by simp) (.slice (some ⟨g3, 0, none⟩) a3.length a3.length)))
  have HR4 := Lib.hid (show Bx w4 (w.heap.size + 1) [.slice none 0 0, .slice none 0 0, .float .f32 0, .int .i64 0, .int .i64 0, .slice none 0 0, .int .i64 0, .int .i64 0, .slice none 0 0] by rw [← hw4]; exact (((HRx.out.other (g' := w.heap.size + 1 + 1) (by omega) 6 (.int .i64 n)).other (g' := w.heap.size + 1 + 1) (by omega) 7 (.int .i64 t)).other (g' := w.heap.size + 1 + 1) (by omega) 8 (.slice (some ⟨g3, 0, none⟩) a3.length a3.length)))
  have HX4 := Lib.hid (show Bx w4 w.heap.size [.slice A0 a0.length c0, .slice A1 a1.length c1, .float .f32 s, .int .i64 p, .int .i64 q, .slice A2 a2.length c2, .int .i64 n, .int .i64 t, .slice A3 a3.length c3] by rw [← hw4]; exact (((HXx.out.other (g' := w.heap.size + 1 + 1) (by omega) 6 (.int .i64 n)).other (g' := w.heap.size + 1 + 1) (by omega) 7 (.int .i64 t)).other (g' := w.heap.size + 1 + 1) (by omega) 8 (.slice (some ⟨g3, 0, none⟩) a3.length a3.length)))
  have HQ0_4 := Lib.hid (show Own w4 (w.heap.size + 1 + 1 + 1) (.slice (some ⟨g0, 0, none⟩) a0.length a0.length) (fl a0) by rw [← hw4]; exact (((HM0.out.setLess (a := ⟨w.heap.size + 1 + 1, 6, none⟩) (by show w.heap.size + 1 + 1 < w.heap.size + 1 + 1 + 1; omega) (.int .i64 n)).setLess (a := ⟨w.heap.size + 1 + 1, 7, none⟩) (by show w.heap.size + 1 + 1 < w.heap.size + 1 + 1 + 1; omega) (.int .i64 t)).setLess (a := ⟨w.heap.size + 1 + 1, 8, none⟩) (by show w.heap.size + 1 + 1 < w.heap.size + 1 + 1 + 1; omega) (.slice (some ⟨g3, 0, none⟩) a3.length a3.length)))
  have HQ1_4 := Lib.hid (show Own w4 (w.heap.size + 1 + 1 + 1) (.slice (some ⟨g1, 0, none⟩) a1.length a1.length) (fl a1) by rw [← hw4]; exact (((HM1.out.setLess (a := ⟨w.heap.size + 1 + 1, 6, none⟩) (by show w.heap.size + 1 + 1 < w.heap.size + 1 + 1 + 1; omega) (.int .i64 n)).setLess (a := ⟨w.heap.size + 1 + 1, 7, none⟩) (by show w.heap.size + 1 + 1 < w.heap.size + 1 + 1 + 1; omega) (.int .i64 t)).setLess (a := ⟨w.heap.size + 1 + 1, 8, none⟩) (by show w.heap.size + 1 + 1 < w.heap.size + 1 + 1 + 1; omega) (.slice (some ⟨g3, 0, none⟩) a3.length a3.length)))
  have HQ2_4 := Lib.hid (show Own w4 (w.heap.size + 1 + 1 + 1) (.slice (some ⟨g2, 0, none⟩) a2.length a2.length) (fl a2) by rw [← hw4]; exact (((HM2.out.setLess (a := ⟨w.heap.size + 1 + 1, 6, none⟩) (by show w.heap.size + 1 + 1 < w.heap.size + 1 + 1 + 1; omega) (.int .i64 n)).setLess (a := ⟨w.heap.size + 1 + 1, 7, none⟩) (by show w.heap.size + 1 + 1 < w.heap.size + 1 + 1 + 1; omega) (.int .i64 t)).setLess (a := ⟨w.heap.size + 1 + 1, 8, none⟩) (by show w.heap.size + 1 + 1 < w.heap.size + 1 + 1 + 1; omega) (.slice (some ⟨g3, 0, none⟩) a3.length a3.length)))
  have HQ3_4 := Lib.hid (show Own w4 (w.heap.size + 1 + 1 + 1) (.slice (some ⟨g3, 0, none⟩) a3.length a3.length) (bl a3) by rw [← hw4]; exact (((HN3.out.setLess (a := ⟨w.heap.size + 1 + 1, 6, none⟩) (by show w.heap.size + 1 + 1 < w.heap.size + 1 + 1 + 1; omega) (.int .i64 n)).setLess (a := ⟨w.heap.size + 1 + 1, 7, none⟩) (by show w.heap.size + 1 + 1 < w.heap.size + 1 + 1 + 1; omega) (.int .i64 t)).setLess (a := ⟨w.heap.size + 1 + 1, 8, none⟩) (by show w.heap.size + 1 + 1 < w.heap.size + 1 + 1 + 1; omega) (.slice (some ⟨g3, 0, none⟩) a3.length a3.length)))
  have HKK4 := Lib.hid (show (w.heap.size + 1 + 1 + 1) ≤ w4.heap.size from HO4.out.1)
  have o0 := (HO4.out.2 0 _ rfl).1
  have r0 := (HR4.out.2 0 _ rfl).1
  have f0 := (HR4.out.2 0 _ rfl).2
  have o1 := (HO4.out.2 1 _ rfl).1
  have r1 := (HR4.out.2 1 _ rfl).1
  have f1 := (HR4.out.2 1 _ rfl).2
  have o2 := (HO4.out.2 2 _ rfl).1
  have r2 := (HR4.out.2 2 _ rfl).1
  have f2 := (HR4.out.2 2 _ rfl).2
  have o3 := (HO4.out.2 3 _ rfl).1
  have r3 := (HR4.out.2 3 _ rfl).1
  have f3 := (HR4.out.2 3 _ rfl).2
  have o4 := (HO4.out.2 4 _ rfl).1
  have r4 := (HR4.out.2 4 _ rfl).1
  have f4 := (HR4.out.2 4 _ rfl).2
  have o5 := (HO4.out.2 5 _ rfl).1
  have r5 := (HR4.out.2 5 _ rfl).1
  have f5 := (HR4.out.2 5 _ rfl).2
  have o6 := (HO4.out.2 6 _ rfl).1
  have r6 := (HR4.out.2 6 _ rfl).1
  have f6 := (HR4.out.2 6 _ rfl).2
  have o7 := (HO4.out.2 7 _ rfl).1
  have r7 := (HR4.out.2 7 _ rfl).1
  have f7 := (HR4.out.2 7 _ rfl).2
  have o8 := (HO4.out.2 8 _ rfl).1
  have r8 := (HR4.out.2 8 _ rfl).1
  have f8 := (HR4.out.2 8 _ rfl).2
  obtain ⟨w5, hw5⟩ : ∃ W, (((((((((w4.setCell ⟨w.heap.size + 1, 0, none⟩ (.slice (some ⟨g0, 0, none⟩) a0.length a0.length)).setCell ⟨w.heap.size + 1, 1, none⟩ (.slice (some ⟨g1, 0, none⟩) a1.length a1.length)).setCell ⟨w.heap.size + 1, 2, none⟩ (.float .f32 s)).setCell ⟨w.heap.size + 1, 3, none⟩ (.int .i64 p)).setCell ⟨w.heap.size + 1, 4, none⟩ (.int .i64 q)).setCell ⟨w.heap.size + 1, 5, none⟩ (.slice (some ⟨g2, 0, none⟩) a2.length a2.length)).setCell ⟨w.heap.size + 1, 6, none⟩ (.int .i64 n)).setCell ⟨w.heap.size + 1, 7, none⟩ (.int .i64 t)).setCell ⟨w.heap.size + 1, 8, none⟩ (.slice (some ⟨g3, 0, none⟩) a3.length a3.length)) = W := ⟨_, rfl⟩
  have HB5 := Lib.hid (show Below w.heap.size w w5 by rw [← hw5]; exact (((((((((HB4.out.setCell (p := ⟨w.heap.size + 1, 0, none⟩) (by show _ ≤ w.heap.size + 1; omega) (.slice (some ⟨g0, 0, none⟩) a0.length a0.length)).setCell (p := ⟨w.heap.size + 1, 1, none⟩) (by show _ ≤ w.heap.size + 1; omega) (.slice (some ⟨g1, 0, none⟩) a1.length a1.length)).setCell (p := ⟨w.heap.size + 1, 2, none⟩) (by show _ ≤ w.heap.size + 1; omega) (.float .f32 s)).setCell (p := ⟨w.heap.size + 1, 3, none⟩) (by show _ ≤ w.heap.size + 1; omega) (.int .i64 p)).setCell (p := ⟨w.heap.size + 1, 4, none⟩) (by show _ ≤ w.heap.size + 1; omega) (.int .i64 q)).setCell (p := ⟨w.heap.size + 1, 5, none⟩) (by show _ ≤ w.heap.size + 1; omega) (.slice (some ⟨g2, 0, none⟩) a2.length a2.length)).setCell (p := ⟨w.heap.size + 1, 6, none⟩) (by show _ ≤ w.heap.size + 1; omega) (.int .i64 n)).setCell (p := ⟨w.heap.size + 1, 7, none⟩) (by show _ ≤ w.heap.size + 1; omega) (.int .i64 t)).setCell (p := ⟨w.heap.size + 1, 8, none⟩) (by show _ ≤ w.heap.size + 1; omega) (.slice (some ⟨g3, 0, none⟩) a3.length a3.length)))
  have HR5 := Lib.hid (show Bx w5 (w.heap.size + 1) [.slice (some ⟨g0, 0, none⟩) a0.length a0.length, .slice (some ⟨g1, 0, none⟩) a1.length a1.length, .float .f32 s, .int .i64 p, .int .i64 q, .slice (some ⟨g2, 0, none⟩) a2.length a2.length, .int .i64 n, .int .i64 t, .slice (some ⟨g3, 0, none⟩) a3.length a3.length] by rw [← hw5]; exact (((((((((HR4.out.set 0 (by simp) (.slice (some ⟨g0, 0, none⟩) a0.length a0.length)).set 1 (by simp) (.slice (some ⟨g1, 0, none⟩) a1.length a1.length)).set 2 (by simp) (.float .f32 s)).set 3 (by simp) (.int .i64 p)).set 4 (by simp) (.int .i64 q)).set 5 (by simp) (.slice (some ⟨g2, 0, none⟩) a2.length a2.length)).set 6 (by simp) (.int .i64 n)).set 7 (by simp) (.int .i64 t)).set 8 (by simp) (.slice (some ⟨g3, 0, none⟩) a3.length a3.length)))
  have HS0 := Lib.hid (show Own w5 (w.heap.size + 1 + 1 + 1) (.slice (some ⟨g0, 0, none⟩) a0.length a0.length) (fl a0) by rw [← hw5]; exact (((((((((HQ0_4.out.setLess (a := ⟨w.heap.size + 1, 0, none⟩) (by show w.heap.size + 1 < w.heap.size + 1 + 1 + 1; omega) (.slice (some ⟨g0, 0, none⟩) a0.length a0.length)).setLess (a := ⟨w.heap.size + 1, 1, none⟩) (by show w.heap.size + 1 < w.heap.size + 1 + 1 + 1; omega) (.slice (some ⟨g1, 0, none⟩) a1.length a1.length)).setLess (a := ⟨w.heap.size + 1, 2, none⟩) (by show w.heap.size + 1 < w.heap.size + 1 + 1 + 1; omega) (.float .f32 s)).setLess (a := ⟨w.heap.size + 1, 3, none⟩) (by show w.heap.size + 1 < w.heap.size + 1 + 1 + 1; omega) (.int .i64 p)).setLess (a := ⟨w.heap.size + 1, 4, none⟩) (by show w.heap.size + 1 < w.heap.size + 1 + 1 + 1; omega) (.int .i64 q)).setLess (a := ⟨w.heap.size + 1, 5, none⟩) (by show w.heap.size + 1 < w.heap.size + 1 + 1 + 1; omega) (.slice (some ⟨g2, 0, none⟩) a2.length a2.length)).setLess (a := ⟨w.heap.size + 1, 6, none⟩) (by show w.heap.size + 1 < w.heap.size + 1 + 1 + 1; omega) (.int .i64 n)).setLess (a := ⟨w.heap.size + 1, 7, none⟩) (by show w.heap.size + 1 < w.heap.size + 1 + 1 + 1; omega) (.int .i64 t)).setLess (a := ⟨w.heap.size + 1, 8, none⟩) (by show w.heap.size + 1 < w.heap.size + 1 + 1 + 1; omega) (.slice (some ⟨g3, 0, none⟩) a3.length a3.length)))
  have HS1 := Lib.hid (show Own w5 (w.heap.size + 1 + 1 + 1) (.slice (some ⟨g1, 0, none⟩) a1.length a1.length) (fl a1) by rw [← hw5]; exact (((((((((HQ1_4.out.setLess (a := ⟨w.heap.size + 1, 0, none⟩) (by show w.heap.size + 1 < w.heap.size + 1 + 1 + 1; omega) (.slice (some ⟨g0, 0, none⟩) a0.length a0.length)).setLess (a := ⟨w.heap.size + 1, 1, none⟩) (by show w.heap.size + 1 < w.heap.size + 1 + 1 + 1; omega) (.slice (some ⟨g1, 0, none⟩) a1.length a1.length)).setLess (a := ⟨w.heap.size + 1, 2, none⟩) (by show w.heap.size + 1 < w.heap.size + 1 + 1 + 1; omega) (.float .f32 s)).setLess (a := ⟨w.heap.size + 1, 3, none⟩) (by show w.heap.size + 1 < w.heap.size + 1 + 1 + 1; omega) (.int .i64 p)).setLess (a := ⟨w.heap.size + 1, 4, none⟩) (by show w.heap.size + 1 < w.heap.size + 1 + 1 + 1; omega) (.int .i64 q)).setLess (a := ⟨w.heap.size + 1, 5, none⟩) (by show w.heap.size + 1 < w.heap.size + 1 + 1 + 1; omega) (.slice (some ⟨g2, 0, none⟩) a2.length a2.length)).setLess (a := ⟨w.heap.size + 1, 6, none⟩) (by show w.heap.size + 1 < w.heap.size + 1 + 1 + 1; omega) (.int .i64 n)).setLess (a := ⟨w.heap.size + 1, 7, none⟩) (by show w.heap.size + 1 < w.heap.size + 1 + 1 + 1; omega) (.int .i64 t)).setLess (a := ⟨w.heap.size + 1, 8, none⟩) (by show w.heap.size + 1 < w.heap.size + 1 + 1 + 1; omega) (.slice (some ⟨g3, 0, none⟩) a3.length a3.length)))
  have HS2 := Lib.hid (show Own w5 (w.heap.size + 1 + 1 + 1) (.slice (some ⟨g2, 0, none⟩) a2.length a2.length) (fl a2) by rw [← hw5]; exact (((((((((HQ2_4.out.setLess (a := ⟨w.heap.size + 1, 0, none⟩) (by show w.heap.size + 1 < w.heap.size + 1 + 1 + 1; omega) (.slice (some ⟨g0, 0, none⟩) a0.length a0.length)).setLess (a := ⟨w.heap.size + 1, 1, none⟩) (by show w.heap.size + 1 < w.heap.size + 1 + 1 + 1; omega) (.slice (some ⟨g1, 0, none⟩) a1.length a1.length)).setLess (a := ⟨w.heap.size + 1, 2, none⟩) (by show w.heap.size + 1 < w.heap.size + 1 + 1 + 1; omega) (.float .f32 s)).setLess (a := ⟨w.heap.size + 1, 3, none⟩) (by show w.heap.size + 1 < w.heap.size + 1 + 1 + 1; omega) (.int .i64 p)).setLess (a := ⟨w.heap.size + 1, 4, none⟩) (by show w.heap.size + 1 < w.heap.size + 1 + 1 + 1; omega) (.int .i64 q)).setLess (a := ⟨w.heap.size + 1, 5, none⟩) (by show w.heap.size + 1 < w.heap.size + 1 + 1 + 1; omega) (.slice (some ⟨g2, 0, none⟩) a2.length a2.length)).setLess (a := ⟨w.heap.size + 1, 6, none⟩) (by show w.heap.size + 1 < w.heap.size + 1 + 1 + 1; omega) (.int .i64 n)).setLess (a := ⟨w.heap.size + 1, 7, none⟩) (by show w.heap.size + 1 < w.heap.size + 1 + 1 + 1; omega) (.int .i64 t)).setLess (a := ⟨w.heap.size + 1, 8, none⟩) (by show w.heap.size + 1 < w.heap.size + 1 + 1 + 1; omega) (.slice (some ⟨g3, 0, none⟩) a3.length a3.length)))
  have HS3 := Lib.hid (show Own w5 (w.heap.size + 1 + 1 + 1) (.slice (some ⟨g3, 0, none⟩) a3.length a3.length) (bl a3) by rw [← hw5]; exact (((((((((HQ3_4.out.setLess (a := ⟨w.heap.size + 1, 0, none⟩) (by show w.heap.size + 1 < w.heap.size + 1 + 1 + 1; omega) (.slice (some ⟨g0, 0, none⟩) a0.length a0.length)).setLess (a := ⟨w.heap.size + 1, 1, none⟩) (by show w.heap.size + 1 < w.heap.size + 1 + 1 + 1; omega) (.slice (some ⟨g1, 0, none⟩) a1.length a1.length)).setLess (a := ⟨w.heap.size + 1, 2, none⟩) (by show w.heap.size + 1 < w.heap.size + 1 + 1 + 1; omega) (.float .f32 s)).setLess (a := ⟨w.heap.size + 1, 3, none⟩) (by show w.heap.size + 1 < w.heap.size + 1 + 1 + 1; omega) (.int .i64 p)).setLess (a := ⟨w.heap.size + 1, 4, none⟩) (by show w.heap.size + 1 < w.heap.size + 1 + 1 + 1; omega) (.int .i64 q)).setLess (a := ⟨w.heap.size + 1, 5, none⟩) (by show w.heap.size + 1 < w.heap.size + 1 + 1 + 1; omega) (.slice (some ⟨g2, 0, none⟩) a2.length a2.length)).setLess (a := ⟨w.heap.size + 1, 6, none⟩) (by show w.heap.size + 1 < w.heap.size + 1 + 1 + 1; omega) (.int .i64 n)).setLess (a := ⟨w.heap.size + 1, 7, none⟩) (by show w.heap.size + 1 < w.heap.size + 1 + 1 + 1; omega) (.int .i64 t)).setLess (a := ⟨w.heap.size + 1, 8, none⟩) (by show w.heap.size + 1 < w.heap.size + 1 + 1 + 1; omega) (.slice (some ⟨g3, 0, none⟩) a3.length a3.length)))
  clear HBx HXx HRx HOx
  go_wp2_with fail
  clear hw4 d6 e6 d7 e7 d8 e8  HN3 HM0 HM1 HM2
  have s0 := (HR5.out.2 0 _ rfl).1
  have s1 := (HR5.out.2 1 _ rfl).1
  have s2 := (HR5.out.2 2 _ rfl).1
  have s3 := (HR5.out.2 3 _ rfl).1
  have s4 := (HR5.out.2 4 _ rfl).1
  have s5 := (HR5.out.2 5 _ rfl).1
  have s6 := (HR5.out.2 6 _ rfl).1
  have s7 := (HR5.out.2 7 _ rfl).1
  have s8 := (HR5.out.2 8 _ rfl).1
  exact bodyPost_ret (v := .agg #[.slice (some ⟨g0, 0, none⟩) a0.length a0.length, .slice (some ⟨g1, 0, none⟩) a1.length a1.length, .float .f32 s, .int .i64 p, .int .i64 q, .slice (some ⟨g2, 0, none⟩) a2.length a2.length, .int .i64 n, .int .i64 t, .slice (some ⟨g3, 0, none⟩) a3.length a3.length]) (by simp [results, Try.results17, go_sem, s0, s1, s2, s3, s4, s5, s6, s7, s8]) rfl ⟨_, _, _, _, rfl, HS0.out.rd, HS1.out.rd, HS2.out.rd, HS3.out.rd, HB5.out⟩
end Go.Proofs.Ythkklilfignmpaa
