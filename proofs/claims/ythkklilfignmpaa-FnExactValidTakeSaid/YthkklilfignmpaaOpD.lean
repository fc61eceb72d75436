/-
  A desk that came in: its nine cells (no program in it).
-/
import Derived.Test.YthkklilfignmpaaDk
namespace Go.Proofs.Ythkklilfignmpaa
open Go.RowKit Go.WideShapes Go.ChangeShapes
set_option linter.unusedVariables false

theorem array9 {α : Type} {cs : Array α} (h : cs.size = 9) : ∃ c0 c1 c2 c3 c4 c5 c6 c7 c8, cs = #[c0, c1, c2, c3, c4, c5, c6, c7, c8] := by
  obtain ⟨l⟩ := cs
  match l, h with
  | [c0, c1, c2, c3, c4, c5, c6, c7, c8], _ => exact ⟨c0, c1, c2, c3, c4, c5, c6, c7, c8, rfl⟩
section
variable {H : Type} {enc : TypeId × Value → H} {P : Program} {w : World} {spare : Nat → Bool}
/-- A cell of a struct's cells. -/
theorem cell_of {t : TypeId} {fs : Array Field} {cs : List Value} {fuel : Nat} {y : DataW H × List MemPlace} (hs : P.underlying t = some (.struct fs)) (hf : DataW.trod enc P w 0 spare true fuel t cs = some y) (k : Nat) (f : Field) (hk : fs[k]? = some f) :
    ∃ (n : Nat) (z : DataW H × List MemPlace), DataW.trod enc P w 0 spare true n f.type ((cs.drop f.offset).take (P.cellsOf f.type)) = some z ∧ ∀ x ∈ z.2, x ∈ y.2 := by
  obtain ⟨ys, n, _, hx, hl, hlen, hq⟩ := DataW.trod_struct hs hf
  have q := hq k f hk
  have hlt : k < ys.length := by rw [hlen]; exact (Array.getElem?_eq_some_iff.1 hk).1
  rw [List.getElem?_eq_getElem hlt] at q
  refine ⟨n, _, q, fun x hxm => ?_⟩
  rw [hx]
  exact List.mem_flatMap.2 ⟨_, List.getElem_mem hlt, hxm⟩
theorem open_desk {t e0 e1 e2 e3 : TypeId} {f0 f1 f2 f3 a0 a1 b0 b1 b2 d0 d1 d2 : Field} {r : Reach} {k0 : Nat} {v : Value} {d : DataW H} {ps : List MemPlace}
    (hs : P.underlying t = some (.struct #[f0, f1, f2, f3])) (hC : P.cellsOf t = 9)
    (g0 : f0.offset = 0 ∧ P.cellsOf f0.type = 1) (g1 : f1.offset = 1 ∧ P.cellsOf f1.type = 2) (g2 : f2.offset = 3 ∧ P.cellsOf f2.type = 3) (g3 : f3.offset = 6 ∧ P.cellsOf f3.type = 3)
    (t0 : P.underlying f0.type = some (.slice e0)) (t0e : P.underlying e0 = some (.float .f32)) (t0c : P.cellsOf e0 = 1)
    (s1 : P.underlying f1.type = some (.struct #[a0, a1])) (ga0 : a0.offset = 0 ∧ P.cellsOf a0.type = 1) (ga1 : a1.offset = 1 ∧ P.cellsOf a1.type = 1)
    (ta0 : P.underlying a0.type = some (.slice e1)) (ta0e : P.underlying e1 = some (.float .f32)) (ta0c : P.cellsOf e1 = 1) (ta1 : P.underlying a1.type = some (.float .f32))
    (s2 : P.underlying f2.type = some (.struct #[b0, b1, b2])) (gb0 : b0.offset = 0 ∧ P.cellsOf b0.type = 1) (gb1 : b1.offset = 1 ∧ P.cellsOf b1.type = 1) (gb2 : b2.offset = 2 ∧ P.cellsOf b2.type = 1)
    (tb0 : P.underlying b0.type = some (.int .i64)) (tb1 : P.underlying b1.type = some (.int .i64)) (tb2 : P.underlying b2.type = some (.slice e2)) (tb2e : P.underlying e2 = some (.float .f32)) (tb2c : P.cellsOf e2 = 1)
    (s3 : P.underlying f3.type = some (.struct #[d0, d1, d2])) (gd0 : d0.offset = 0 ∧ P.cellsOf d0.type = 1) (gd1 : d1.offset = 1 ∧ P.cellsOf d1.type = 1) (gd2 : d2.offset = 2 ∧ P.cellsOf d2.type = 1)
    (td0 : P.underlying d0.type = some (.int .i64)) (td1 : P.underlying d1.type = some (.int .i64)) (td2 : P.underlying d2.type = some (.slice e3)) (td2e : P.underlying e3 = some .bool) (td2c : P.cellsOf e3 = 1)
    (hval : Value.okWide P w r k0 t v) (hd : DataW.Trod enc P w 0 spare true t v d ps) (hlt : ∀ x ∈ ps, x.block < w.heap.size) :
    ∃ (v0 v1 v2 v3 : Value) (a0 a1 a2 : List Nat) (a3 : List Bool) (s : Nat) (p q n t : Int), v = .agg #[v0, v1, .float .f32 s, .int .i64 p, .int .i64 q, v2, .int .i64 n, .int .i64 t, v3] ∧
      Rd w w.heap.size v0 (a0.map (.float .f32)) ∧ Rd w w.heap.size v1 (a1.map (.float .f32)) ∧ Rd w w.heap.size v2 (a2.map (.float .f32)) ∧ Rd w w.heap.size v3 (bl a3) ∧
      (∀ x ∈ a0, x < 2 ^ 32) ∧ (∀ x ∈ a1, x < 2 ^ 32) ∧ (∀ x ∈ a2, x < 2 ^ 32) ∧ s < 2 ^ 32 := by
  obtain ⟨cs, rfl, hsz⟩ := okWide_struct hs hval
  obtain ⟨c0, c1, c2, c3, c4, c5, c6, c7, c8, rfl⟩ := array9 (hsz.trans hC)
  obtain ⟨fuel, hf⟩ := hd
  obtain ⟨n0, z0, q0, m0⟩ := cell_of hs hf 0 f0 rfl
  obtain ⟨n1, z1, q1, m1⟩ := cell_of hs hf 1 f1 rfl
  obtain ⟨n2, z2, q2, m2⟩ := cell_of hs hf 2 f2 rfl
  obtain ⟨n3, z3, q3, m3⟩ := cell_of hs hf 3 f3 rfl
  rw [g0.1, g0.2] at q0
  rw [g1.1, g1.2] at q1
  rw [g2.1, g2.2] at q2
  rw [g3.1, g3.2] at q3
  simp only [Value.cells, List.drop_zero, List.drop_succ_cons, List.take_succ_cons, List.take_zero] at q0 q1 q2 q3
  obtain ⟨l0, x0, y0, i0⟩ := cell_of s1 q1 0 a0 rfl
  obtain ⟨l1, x1, y1, i1⟩ := cell_of s1 q1 1 a1 rfl
  obtain ⟨l2, x2, y2, i2⟩ := cell_of s2 q2 0 b0 rfl
  obtain ⟨l3, x3, y3, i3⟩ := cell_of s2 q2 1 b1 rfl
  obtain ⟨l4, x4, y4, i4⟩ := cell_of s2 q2 2 b2 rfl
  obtain ⟨l5, x5, y5, i5⟩ := cell_of s3 q3 0 d0 rfl
  obtain ⟨l6, x6, y6, i6⟩ := cell_of s3 q3 1 d1 rfl
  obtain ⟨l7, x7, y7, i7⟩ := cell_of s3 q3 2 d2 rfl
  rw [ga0.1, ga0.2] at y0
  rw [ga1.1, ga1.2] at y1
  rw [gb0.1, gb0.2] at y2
  rw [gb1.1, gb1.2] at y3
  rw [gb2.1, gb2.2] at y4
  rw [gd0.1, gd0.2] at y5
  rw [gd1.1, gd1.2] at y6
  rw [gd2.1, gd2.2] at y7
  simp only [List.drop_zero, List.drop_succ_cons, List.take_succ_cons, List.take_zero] at y0 y1 y2 y3 y4 y5 y6 y7
  have hin : ∀ x, x ∈ (d, ps).2 → x.block < w.heap.size := hlt
  obtain ⟨xs0, h0, hx0⟩ := open_floatsC t0 t0e t0c q0 (fun x hx => hin x (m0 x hx))
  obtain ⟨xs1, h1, hx1⟩ := open_floatsC ta0 ta0e ta0c y0 (fun x hx => hin x (m1 x (i0 x hx)))
  obtain ⟨s, rfl, hs2⟩ := open_f32T ta1 y1
  obtain ⟨p, rfl, _⟩ := open_i64C tb0 y2
  obtain ⟨q, rfl, _⟩ := open_i64C tb1 y3
  obtain ⟨xs2, h2, hx2⟩ := open_floatsC tb2 tb2e tb2c y4 (fun x hx => hin x (m2 x (i4 x hx)))
  obtain ⟨n, rfl, _⟩ := open_i64C td0 y5
  obtain ⟨u, rfl, _⟩ := open_i64C td1 y6
  obtain ⟨xs3, h3⟩ := Cf.open_blsC td2 td2e td2c y7 (fun x hx => hin x (m3 x (i7 x hx)))
  exact ⟨_, _, _, _, xs0, xs1, xs2, xs3, s, p, q, n, u, rfl, h0, h1, h2, h3, hx0, hx1, hx2, hs2⟩
end
end Go.Proofs.Ythkklilfignmpaa
