/-
  Contracts: whether a part lies in a picture, of both sides.
-/
import Derived.Test.YtfbdmhkmkmbipaaCrK
import Derived.Test.YtfbdmhkmkmbipaaBx
namespace Go.Proofs.Ytfbdmhkmkmbipaa
open Go.RowKit Fl
set_option linter.unusedVariables false
set_option maxRecDepth 100000

set_option maxHeartbeats 8000000 in
theorem lieI_any (x y W H p q : Int) (A : Option Addr) (n c : Nat) (w : World) (hp : 1 ≤ p ∧ p ≤ 16) (hq : 1 ≤ q ∧ q ≤ 16) :
    Calls Try.prog 81 #[.agg #[.int .i64 x, .int .i64 y, .int .i64 W, .int .i64 H], .agg #[.int .i64 p, .int .i64 q, .slice A n c]] w (RetBB (liB p q x y W H) w) := by
  obtain ⟨w0, hw0⟩ : ∃ w0, (w.alloc (.cells #[.int .i64 x, .int .i64 y, .int .i64 W, .int .i64 H] 97)).alloc (.cells #[.int .i64 p, .int .i64 q, .slice A n c] 50) = w0 := ⟨_, rfl⟩
  have hb0 : Below w.heap.size w w0 := by rw [← hw0]; exact ((Below.refl _ _).alloc (Nat.le_refl _) _).alloc (by simp) _
  have hX : Bx w0 w.heap.size [.int .i64 x, .int .i64 y, .int .i64 W, .int .i64 H] := by rw [← hw0]; exact (bx_new w [.int .i64 x, .int .i64 y, .int .i64 W, .int .i64 H] _).step ((Below.refl _ _).alloc (Nat.le_refl _) _)
  have hY : Bx w0 (w.heap.size + 1) [.int .i64 p, .int .i64 q, .slice A n c] := by rw [← hw0]; have := bx_new (w.alloc (.cells #[.int .i64 x, .int .i64 y, .int .i64 W, .int .i64 H] 97)) [.int .i64 p, .int .i64 q, .slice A n c] 50; simpa using this
  have H1 := Lib.hid (arv_any W H w0)
  have HX := Lib.hid hX
  have HY := Lib.hid hY
  have HB0 := Lib.hid hb0
  have x0 := (hX.2 0 _ rfl).1
  have x1 := (hX.2 1 _ rfl).1
  have x2 := (hX.2 2 _ rfl).1
  have x3 := (hX.2 3 _ rfl).1
  have y0 := (hY.2 0 _ rfl).1
  have y1 := (hY.2 1 _ rfl).1
  have y2 := (hY.2 2 _ rfl).1
  clear hX hY hb0
  cases hs : ssB W H with
  | false =>
    have HV := Lib.hid (show liB p q x y W H = false by unfold liB; rw [hs]; rfl)
    rw [hs] at H1
    clear hs
    go_enter Try.func81, Try.ntmps81
    go_wp2_with fail
    with_reducible refine H1.out.mono ?_
    rintro e w1 ⟨rfl, hb1⟩
    have hX1 := HX.out.step hb1
    have hY1 := HY.out.step hb1
    have HBE := Lib.hid (HB0.out.trans (hb1.mono HB0.out.size))
    clear x0 x1 x2 x3 y0 y1 y2 hb1 hw0
    have x0 := (hX1.2 0 _ rfl).1
    have x1 := (hX1.2 1 _ rfl).1
    have x2 := (hX1.2 2 _ rfl).1
    have x3 := (hX1.2 3 _ rfl).1
    have y0 := (hY1.2 0 _ rfl).1
    have y1 := (hY1.2 1 _ rfl).1
    have y2 := (hY1.2 2 _ rfl).1
    clear hX1 hY1
    go_wp2_with fail
    go_ret
    rw [HV.out]
    first | exact ⟨rfl, HBE.out⟩ | exact ⟨by rw [← hd]; rfl, HBE.out⟩
  | true =>
    obtain ⟨s1, s2⟩ := ssB_out hs
    have hw1 : IntKind.i64.wrap (p - W) = p - W := by rw [IntKind.wrap_i64]; omega
    have hw2 : IntKind.i64.wrap (q - H) = q - H := by rw [IntKind.wrap_i64]; omega
    rw [hs] at H1
    by_cases hc2 : 0 ≤ x
    · skip
      by_cases hc4 : 0 ≤ y
      · skip
        by_cases hc6 : x ≤ p - W
        · skip
          by_cases hc8 : y ≤ q - H
          · skip
            have HV := Lib.hid (show liB p q x y W H = true by unfold liB; rw [hs, decide_eq_true ⟨by omega, by omega⟩, decide_eq_true ⟨by omega, by omega⟩]; rfl)
            have hd : decide (y ≤ q - H) = true := decide_eq_true (by omega)
            clear hs
            go_enter Try.func81, Try.ntmps81
            go_wp2_with fail
            with_reducible refine H1.out.mono ?_
            rintro e w1 ⟨rfl, hb1⟩
            have hX1 := HX.out.step hb1
            have hY1 := HY.out.step hb1
            have HBE := Lib.hid (HB0.out.trans (hb1.mono HB0.out.size))
            clear x0 x1 x2 x3 y0 y1 y2 hb1 hw0
            have x0 := (hX1.2 0 _ rfl).1
            have x1 := (hX1.2 1 _ rfl).1
            have x2 := (hX1.2 2 _ rfl).1
            have x3 := (hX1.2 3 _ rfl).1
            have y0 := (hY1.2 0 _ rfl).1
            have y1 := (hY1.2 1 _ rfl).1
            have y2 := (hY1.2 2 _ rfl).1
            clear hX1 hY1
            go_wp2_with fail
            go_ret
            rw [HV.out]
            first | exact ⟨rfl, HBE.out⟩ | exact ⟨by rw [← hd]; rfl, HBE.out⟩
          · skip
            have hng : q - H < y := by omega
            have hd : decide (y ≤ q - H) = false := decide_eq_false (by omega)
            have HV := Lib.hid (show liB p q x y W H = false by unfold liB; rw [show decide (0 ≤ y ∧ y ≤ q - H) = false from decide_eq_false (by omega)]; simp)
            clear hs hc8
            go_enter Try.func81, Try.ntmps81
            go_wp2_with fail
            with_reducible refine H1.out.mono ?_
            rintro e w1 ⟨rfl, hb1⟩
            have hX1 := HX.out.step hb1
            have hY1 := HY.out.step hb1
            have HBE := Lib.hid (HB0.out.trans (hb1.mono HB0.out.size))
            clear x0 x1 x2 x3 y0 y1 y2 hb1 hw0
            have x0 := (hX1.2 0 _ rfl).1
            have x1 := (hX1.2 1 _ rfl).1
            have x2 := (hX1.2 2 _ rfl).1
            have x3 := (hX1.2 3 _ rfl).1
            have y0 := (hY1.2 0 _ rfl).1
            have y1 := (hY1.2 1 _ rfl).1
            have y2 := (hY1.2 2 _ rfl).1
            clear hX1 hY1
            go_wp2_with fail
            go_ret
            rw [HV.out]
            first | exact ⟨rfl, HBE.out⟩ | exact ⟨by rw [← hd]; rfl, HBE.out⟩
        · skip
          have hng : p - W < x := by omega
          have HV := Lib.hid (show liB p q x y W H = false by unfold liB; rw [show decide (0 ≤ x ∧ x ≤ p - W) = false from decide_eq_false (by omega)]; simp)
          clear hs hc6
          go_enter Try.func81, Try.ntmps81
          go_wp2_with fail
          with_reducible refine H1.out.mono ?_
          rintro e w1 ⟨rfl, hb1⟩
          have hX1 := HX.out.step hb1
          have hY1 := HY.out.step hb1
          have HBE := Lib.hid (HB0.out.trans (hb1.mono HB0.out.size))
          clear x0 x1 x2 x3 y0 y1 y2 hb1 hw0
          have x0 := (hX1.2 0 _ rfl).1
          have x1 := (hX1.2 1 _ rfl).1
          have x2 := (hX1.2 2 _ rfl).1
          have x3 := (hX1.2 3 _ rfl).1
          have y0 := (hY1.2 0 _ rfl).1
          have y1 := (hY1.2 1 _ rfl).1
          have y2 := (hY1.2 2 _ rfl).1
          clear hX1 hY1
          go_wp2_with fail
          go_ret
          rw [HV.out]
          first | exact ⟨rfl, HBE.out⟩ | exact ⟨by rw [← hd]; rfl, HBE.out⟩
      · skip
        have hng : y < 0 := by omega
        have HV := Lib.hid (show liB p q x y W H = false by unfold liB; rw [show decide (0 ≤ y ∧ y ≤ q - H) = false from decide_eq_false (by omega)]; simp)
        clear hs hc4
        go_enter Try.func81, Try.ntmps81
        go_wp2_with fail
        with_reducible refine H1.out.mono ?_
        rintro e w1 ⟨rfl, hb1⟩
        have hX1 := HX.out.step hb1
        have hY1 := HY.out.step hb1
        have HBE := Lib.hid (HB0.out.trans (hb1.mono HB0.out.size))
        clear x0 x1 x2 x3 y0 y1 y2 hb1 hw0
        have x0 := (hX1.2 0 _ rfl).1
        have x1 := (hX1.2 1 _ rfl).1
        have x2 := (hX1.2 2 _ rfl).1
        have x3 := (hX1.2 3 _ rfl).1
        have y0 := (hY1.2 0 _ rfl).1
        have y1 := (hY1.2 1 _ rfl).1
        have y2 := (hY1.2 2 _ rfl).1
        clear hX1 hY1
        go_wp2_with fail
        go_ret
        rw [HV.out]
        first | exact ⟨rfl, HBE.out⟩ | exact ⟨by rw [← hd]; rfl, HBE.out⟩
    · skip
      have hng : x < 0 := by omega
      have HV := Lib.hid (show liB p q x y W H = false by unfold liB; rw [show decide (0 ≤ x ∧ x ≤ p - W) = false from decide_eq_false (by omega)]; simp)
      clear hs hc2
      go_enter Try.func81, Try.ntmps81
      go_wp2_with fail
      with_reducible refine H1.out.mono ?_
      rintro e w1 ⟨rfl, hb1⟩
      have hX1 := HX.out.step hb1
      have hY1 := HY.out.step hb1
      have HBE := Lib.hid (HB0.out.trans (hb1.mono HB0.out.size))
      clear x0 x1 x2 x3 y0 y1 y2 hb1 hw0
      have x0 := (hX1.2 0 _ rfl).1
      have x1 := (hX1.2 1 _ rfl).1
      have x2 := (hX1.2 2 _ rfl).1
      have x3 := (hX1.2 3 _ rfl).1
      have y0 := (hY1.2 0 _ rfl).1
      have y1 := (hY1.2 1 _ rfl).1
      have y2 := (hY1.2 2 _ rfl).1
      clear hX1 hY1
      go_wp2_with fail
      go_ret
      rw [HV.out]
      first | exact ⟨rfl, HBE.out⟩ | exact ⟨by rw [← hd]; rfl, HBE.out⟩
set_option maxHeartbeats 4000000 in
theorem lieS_any (g : Nat) (x y W H p q : Int) (w : World) (hp : 1 ≤ p ∧ p ≤ 16) (hq : 1 ≤ q ∧ q ≤ 16) (h0 : w.cell? ⟨g, 0, none⟩ = some (.int .i64 p)) (h1 : w.cell? ⟨g, 1, none⟩ = some (.int .i64 q)) :
    Calls Try.prog 76 #[.pointer (some ⟨g, 0, none⟩), .int .i64 x, .int .i64 y, .int .i64 W, .int .i64 H] w fun e w' => e = .returned (.bool (liB p q x y W H)) ∧ w = w' := by
  have H1 := Lib.hid (fun w => ssS_any W H w)
  have H2 := Lib.hid (fun w => inB_any x 0 (p - W) w)
  have H3 := Lib.hid (fun w => inB_any y 0 (q - H) w)
  cases hs : ssB W H with
  | false =>
    have HV := Lib.hid (show liB p q x y W H = false by unfold liB; rw [hs]; rfl)
    rw [hs] at H1
    clear hs
    go_enter Try.func76, Try.ntmps76
    go_wp2_with fail
    with_reducible refine (H1.out _).mono ?_
    rintro e w1 ⟨rfl, rfl⟩
    go_wp2_with fail
    go_ret
    rw [HV.out]
    exact ⟨rfl, rfl⟩
  | true =>
    obtain ⟨s1, s2⟩ := ssB_out hs
    have hw1 : IntKind.i64.wrap (p - W) = p - W := by rw [IntKind.wrap_i64]; omega
    have hw2 : IntKind.i64.wrap (q - H) = q - H := by rw [IntKind.wrap_i64]; omega
    rw [hs] at H1
    cases hx : decide (0 ≤ x ∧ x ≤ p - W) with
    | false =>
      have HV := Lib.hid (show liB p q x y W H = false by unfold liB; rw [hx]; simp)
      rw [hx] at H2
      clear hs hx
      go_enter Try.func76, Try.ntmps76
      go_wp2_with fail
      with_reducible refine (H1.out _).mono ?_
      rintro e w1 ⟨rfl, rfl⟩
      go_wp2_with fail
      with_reducible refine (H2.out _).mono ?_
      rintro e w2 ⟨rfl, rfl⟩
      go_wp2_with fail
      go_ret
      rw [HV.out]
      exact ⟨rfl, rfl⟩
    | true =>
      rw [hx] at H2
      cases hy : decide (0 ≤ y ∧ y ≤ q - H) with
      | false =>
        have HV := Lib.hid (show liB p q x y W H = false by unfold liB; rw [hy]; simp)
        rw [hy] at H3
        clear hs hx hy
        go_enter Try.func76, Try.ntmps76
        go_wp2_with fail
        with_reducible refine (H1.out _).mono ?_
        rintro e w1 ⟨rfl, rfl⟩
        go_wp2_with fail
        with_reducible refine (H2.out _).mono ?_
        rintro e w2 ⟨rfl, rfl⟩
        go_wp2_with fail
        with_reducible refine (H3.out _).mono ?_
        rintro e w3 ⟨rfl, rfl⟩
        go_wp2_with fail
        go_ret
        rw [HV.out]
        exact ⟨rfl, rfl⟩
      | true =>
        have HV := Lib.hid (show liB p q x y W H = true by unfold liB; rw [hs, hx, hy]; rfl)
        rw [hy] at H3
        clear hs hx hy
        go_enter Try.func76, Try.ntmps76
        go_wp2_with fail
        with_reducible refine (H1.out _).mono ?_
        rintro e w1 ⟨rfl, rfl⟩
        go_wp2_with fail
        with_reducible refine (H2.out _).mono ?_
        rintro e w2 ⟨rfl, rfl⟩
        go_wp2_with fail
        with_reducible refine (H3.out _).mono ?_
        rintro e w3 ⟨rfl, rfl⟩
        go_wp2_with fail
        go_ret
        rw [HV.out]
        exact ⟨rfl, rfl⟩
end Go.Proofs.Ytfbdmhkmkmbipaa
