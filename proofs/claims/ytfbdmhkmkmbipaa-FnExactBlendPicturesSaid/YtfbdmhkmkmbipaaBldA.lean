/-
  What BlendPictures answers (no walk in it but that of a share).
  Contract: a light between two others, by the program's closure.
-/
import Derived.Test.YtfbdmhkmkmbipaaTxK
import Derived.Test.YtfbdmhkmkmbipaaCrK
import Derived.Test.YtfbdmhkmkmbipaaPlK
import Derived.Test.YtfbdmhkmkmbipaaBk
import Derived.Test.YtfbdmhkmkmbipaaFloSc
import Derived.Test.YtfbdmhkmkmbipaaRo
import Derived.Test.YtfbdmhkmkmbipaaSfw
import Derived.BigQuiet
namespace Go.Proofs.Ytfbdmhkmkmbipaa
open Go.RowKit Fl
set_option linter.unusedVariables false
set_option maxRecDepth 100000

theorem shrS2_any (h : Nat) (w : World) : Calls Try.prog 85 #[.float .f32 h] w (RetBo (shB h) w) := by
  cases g1 : geB' h 0 with
  | false =>
    have HN := Lib.hid (show shB h = false by unfold shB; rw [g1]; rfl)
    have g2 : (FloatKind.f32.format.order h 0 == some .gt || FloatKind.f32.format.order h 0 == some .eq) = false := g1
    clear g1
    go_enter Try.func85, Try.ntmps85
    go_wp2_with fail
    go_ret
    exact ⟨by rw [HN.out]; rfl, 0, rfl⟩
  | true =>
    have g2 : (FloatKind.f32.format.order h 0 == some .gt || FloatKind.f32.format.order h 0 == some .eq) = true := g1
    have HN := Lib.hid (show shB h = (FloatKind.f32.format.order h 1065353216 == some .lt || FloatKind.f32.format.order h 1065353216 == some .eq) by unfold shB; rw [g1]; rfl)
    clear g1
    go_enter Try.func85, Try.ntmps85
    go_wp2_with fail
    go_ret
    exact ⟨by rw [HN.out]; rfl, 0, rfl⟩

def bldF (xs ys : List Nat) (s i : Nat) : Nat := ar .add .f32 (xs.getD i 0) (ar .mul .f32 s (ar .sub .f32 (ys.getD i 0) (xs.getD i 0)))
def bldG (P : Nat) (xs ys : List Nat) (s x y : Nat) : Nat := bldF xs ys s (y * P + x)
theorem bld_grd (p q : Int) (xs ys : List Nat) (s : Nat) : grd p q (bldG p.toNat xs ys s) = (List.range (p * q).toNat).map (bldF xs ys s) := by
  unfold grd bldG
  apply List.map_congr_left
  intro i _
  show bldF xs ys s (i / p.toNat * p.toNat + i % p.toNat) = _
  rw [Nat.div_add_mod']
def bldB (p0 q0 : Int) (xs : List Nat) (p1 q1 : Int) (ys : List Nat) (s : Nat) : Bool := botB p0 q0 xs p1 q1 ys && shB s
def bldP (p0 q0 : Int) (xs : List Nat) (p1 q1 : Int) (ys : List Nat) (s : Nat) (x : Int) : Int := if bldB p0 q0 xs p1 q1 ys s then gP p0 q0 (bldG p0.toNat xs ys s) x else 0
def bldL (p0 q0 : Int) (xs : List Nat) (p1 q1 : Int) (ys : List Nat) (s : Nat) : List Nat := if bldB p0 q0 xs p1 q1 ys s then gL p0 q0 (bldG p0.toNat xs ys s) else []
def bldO (p0 q0 : Int) (xs : List Nat) (p1 q1 : Int) (ys : List Nat) (s : Nat) : Bool := bldB p0 q0 xs p1 q1 ys s && pcB p0 q0 (bldG p0.toNat xs ys s)
def RetBld (p0 q0 : Int) (xs : List Nat) (p1 q1 : Int) (ys : List Nat) (s : Nat) (w : World) : Ending → World → Prop := RetPc (bldP p0 q0 xs p1 q1 ys s p0) (bldP p0 q0 xs p1 q1 ys s q0) (bldL p0 q0 xs p1 q1 ys s) (bldO p0 q0 xs p1 q1 ys s) w
theorem retBld_no {p0 q0 p1 q1 : Int} {xs ys : List Nat} {s : Nat} {w : World} (h : bldB p0 q0 xs p1 q1 ys s = false) : RetBld p0 q0 xs p1 q1 ys s w = RetPc 0 0 [] false w := by
  unfold RetBld bldP bldL bldO; rw [h]; rfl
theorem retBld_yes {p0 q0 p1 q1 : Int} {xs ys : List Nat} {s : Nat} {w : World} (h : bldB p0 q0 xs p1 q1 ys s = true) : RetBld p0 q0 xs p1 q1 ys s w = RetGr p0 q0 (bldG p0.toNat xs ys s) w := by
  rw [retGr_pc]
  unfold RetBld bldP bldL bldO; rw [h]; rfl
theorem bldL_len (p0 q0 : Int) (xs : List Nat) (p1 q1 : Int) (ys : List Nat) (s : Nat) : (bldL p0 q0 xs p1 q1 ys s).length ≤ 1048576 := by
  unfold bldL
  split
  · exact gL_len _ _ _
  · simp
theorem is_self {u : Nat} (h : finB .f32 u = true) (hl : u < 2 ^ 32) : Is .f32 u u := ⟨cn_fin h, hl⟩
theorem bld_isls {p q : Int} {xs ys : List Nat} {s : Nat} {cur : List Nat} (hl : (cur.length : Int) = p * q) (h : ∀ i, i < cur.length → Is .f32 (cur.getD i 0) (bldF xs ys s i)) : IsLs cur (grd p q (bldG p.toNat xs ys s)) := by
  rw [bld_grd]
  refine ⟨by simp; omega, fun i h1 h2 => ?_⟩
  have := h i h1
  simp only [List.getElem_map, List.getElem_range]
  rw [List.getD_eq_getElem?_getD, List.getElem?_eq_getElem h1] at this
  exact this
end Go.Proofs.Ytfbdmhkmkmbipaa
namespace Go.Proofs.Ytfbdmhkmkmbipaa
open Go.RowKit Fl
set_option linter.unusedVariables false
set_option maxRecDepth 100000

set_option maxHeartbeats 8000000 in
theorem bldC_any (P Q k0 k1 k2 b0 o0 c0 b1 o1 c1 n s x y : Nat) (xs ys : List Nat) (w : World) (hP : 1 ≤ P ∧ P ≤ 16) (hQ : 1 ≤ Q ∧ Q ≤ 16) (hl : n = P * Q) (hxP : x < P) (hy : y < Q) (hnc0 : n ≤ c0) (hcm0 : c0 ≤ maxLen) (hnc1 : n ≤ c1) (hcm1 : c1 ≤ maxLen)
    (hx0 : w.cell? ⟨k0, 0, none⟩ = some (.int .i64 (P : Int))) (hx1 : w.cell? ⟨k0, 1, none⟩ = some (.int .i64 (Q : Int))) (hx2 : w.cell? ⟨k0, 2, none⟩ = some (.slice (some ⟨b0, o0, none⟩) n c0))
    (hy0 : w.cell? ⟨k1, 0, none⟩ = some (.int .i64 (P : Int))) (hy1 : w.cell? ⟨k1, 1, none⟩ = some (.int .i64 (Q : Int))) (hy2 : w.cell? ⟨k1, 2, none⟩ = some (.slice (some ⟨b1, o1, none⟩) n c1))
    (hz : w.cell? ⟨k2, 0, none⟩ = some (.float .f32 s)) (hcx : ∀ (i : Nat) (h : i < n), w.cell? ⟨b0, o0 + i, none⟩ = some (.float .f32 (xs.getD i 0))) (hcy : ∀ (i : Nat) (h : i < n), w.cell? ⟨b1, o1 + i, none⟩ = some (.float .f32 (ys.getD i 0)))
    (hfx : ∀ i, finB .f32 (xs.getD i 0) = true) (hgx : ∀ i, xs.getD i 0 < 2 ^ 32) (hfs : finB .f32 s = true) (hgs : s < 2 ^ 32) :
    Calls Try.prog 89 #[.int .i64 (x : Int), .int .i64 (y : Int), .pointer (some ⟨k0, 0, none⟩), .pointer (some ⟨k1, 0, none⟩), .pointer (some ⟨k2, 0, none⟩)] w (RetClG (bldG P xs ys s x y) w) := by
  obtain ⟨m, hm⟩ : ∃ m, m = y * P := ⟨_, rfl⟩
  have hmz : (y : Int) * (P : Int) = (m : Int) := by rw [hm]; simp
  have hmP : m + P ≤ n := by
    have h1 : (y + 1) * P ≤ Q * P := Nat.mul_le_mul_right _ hy
    rw [Nat.succ_mul] at h1
    rw [hl, Nat.mul_comm P Q, hm]; omega
  have hn256 : n ≤ 256 := by rw [hl]; exact Nat.le_trans (Nat.mul_le_mul (show P ≤ 16 by omega) (show Q ≤ 16 by omega)) (by omega)
  unfold bldG
  rw [← hm]
  obtain ⟨i, hi⟩ : ∃ i, i = m + x := ⟨_, rfl⟩
  rw [← hi]
  have hin : i < n := by omega
  have HR0 := Lib.hid (fun (W' : World) => (show Calls Try.prog 83 #[.agg #[.int .i64 (P : Int), .int .i64 (Q : Int), .slice (some ⟨b0, o0, none⟩) n c0], .int .i64 (y : Int)] W' fun e w' => e = .returned (.slice (some ⟨b0, o0 + m, none⟩) P (c0 - m)) ∧ Below W'.heap.size W' w' by
    have := ro_any (P : Int) (Q : Int) b0 o0 n c0 y m W' (by omega) (by omega) hmz (by omega) hn256 hnc0 hcm0
    rw [Int.toNat_natCast] at this; exact this))
  have HR1 := Lib.hid (fun (W' : World) => (show Calls Try.prog 83 #[.agg #[.int .i64 (P : Int), .int .i64 (Q : Int), .slice (some ⟨b1, o1, none⟩) n c1], .int .i64 (y : Int)] W' fun e w' => e = .returned (.slice (some ⟨b1, o1 + m, none⟩) P (c1 - m)) ∧ Below W'.heap.size W' w' by
    have := ro_any (P : Int) (Q : Int) b1 o1 n c1 y m W' (by omega) (by omega) hmz (by omega) hn256 hnc1 hcm1
    rw [Int.toNat_natCast] at this; exact this))
  have x0 : ∀ q : Sf.Gw w, q.w.cell? ⟨k0, 0, none⟩ = some (.int .i64 (P : Int)) := fun q => q.cell hx0
  have x1 : ∀ q : Sf.Gw w, q.w.cell? ⟨k0, 1, none⟩ = some (.int .i64 (Q : Int)) := fun q => q.cell hx1
  have x2 : ∀ q : Sf.Gw w, q.w.cell? ⟨k0, 2, none⟩ = some (.slice (some ⟨b0, o0, none⟩) n c0) := fun q => q.cell hx2
  have y0 : ∀ q : Sf.Gw w, q.w.cell? ⟨k1, 0, none⟩ = some (.int .i64 (P : Int)) := fun q => q.cell hy0
  have y1 : ∀ q : Sf.Gw w, q.w.cell? ⟨k1, 1, none⟩ = some (.int .i64 (Q : Int)) := fun q => q.cell hy1
  have y2 : ∀ q : Sf.Gw w, q.w.cell? ⟨k1, 2, none⟩ = some (.slice (some ⟨b1, o1, none⟩) n c1) := fun q => q.cell hy2
  have z0 : ∀ q : Sf.Gw w, q.w.cell? ⟨k2, 0, none⟩ = some (.float .f32 s) := fun q => q.cell hz
  have sx : ∀ q : Sf.Gw w, q.w.cell? ⟨b0, o0 + m + x, none⟩ = some (.float .f32 (xs.getD i 0)) := fun q => by have := q.cell (hcx i hin); rw [show o0 + m + x = o0 + i by omega]; exact this
  have sy : ∀ q : Sf.Gw w, q.w.cell? ⟨b1, o1 + m + x, none⟩ = some (.float .f32 (ys.getD i 0)) := fun q => by have := q.cell (hcy i hin); rw [show o1 + m + x = o1 + i by omega]; exact this
  have HXX := Lib.hid (is_self (hfx i) (hgx i))
  have HSS := Lib.hid (is_self hfs hgs)
  have HF := Lib.hid (show bldF xs ys s i = ar .add .f32 (xs.getD i 0) (ar .mul .f32 s (ar .sub .f32 (ys.getD i 0) (xs.getD i 0))) from rfl)
  rw [HF.out]
  clear HF hcx hcy hx0 hx1 hx2 hy0 hy1 hy2 hz hfx hgx hfs hgs hi
  generalize xs.getD i 0 = u at *
  generalize ys.getD i 0 = t at *
  have hxi : (x : Int) < (P : Int) := by omega
  have hx0i : (0 : Int) ≤ (x : Int) := by omega
  clear hm hmz hmP hl hy
  go_enter Try.func89, Try.ntmps89
  go_wp2_with fail
  refine Sf.wp_softC (C := fun w' => ∃ q : Sf.Gw w, w' = q.w) [false, false, false, false, false, false, false, false, false, false, false, false, false, false] [true, true, true, true, true, true, true, true, true, true, true, true, true, true] (fun i => 1) (fun i => if i = 2 then (.slice (some ⟨b0, o0 + m, none⟩) P (c0 - m)) else if i = 8 then (.slice (some ⟨b1, o1 + m, none⟩) P (c1 - m)) else undef) (by kernel_rfl) (by kernel_rfl) (by kernel_rfl) ⟨Sf.gw_draw w 1, rfl⟩ ?_
  simp only [Sf.tl]
  with_reducible refine Sf.lx_one (by kernel_rfl) (by kernel_rfl) ?_
  intro K hK
  refine Sf.dft_quiet rfl ?_
  go_big_quiet_op
  with_reducible refine hK _ ?_
  clear hK K
  with_reducible refine Sf.lx_one (by kernel_rfl) (by kernel_rfl) ?_
  intro K hK
  refine Sf.dft_quiet rfl ?_
  go_big_quiet_op
  with_reducible refine hK _ ?_
  clear hK K
  with_reducible refine Sf.lx_one (by kernel_rfl) (by kernel_rfl) ?_
  intro K hK
  refine Sf.dft_call ?_ ?_
  · clear hK K; rintro _ ⟨nc, rfl⟩; go_simp; exact (HR0.out nc.w).mono fun e w' ⟨he, hb⟩ => ⟨he, nc.next hb⟩
  with_reducible refine hK _ ?_
  clear hK K
  (try simp only [Act.put, List.setIfInBounds_toArray, List.set_cons_zero, List.set_cons_succ, if_true, if_false, reduceIte, Nat.reduceEqDiff])
  with_reducible refine Sf.lx_one (by kernel_rfl) (by kernel_rfl) ?_
  intro K hK
  refine Sf.dft_quiet rfl ?_
  go_big_quiet_op
  with_reducible refine hK _ ?_
  clear hK K
  with_reducible refine Sf.lx_one (by kernel_rfl) (by kernel_rfl) ?_
  intro K hK
  refine Sf.dft_quiet rfl ?_
  go_big_quiet_op
  with_reducible refine hK _ ?_
  clear hK K
  with_reducible refine Sf.lx_one (by kernel_rfl) (by kernel_rfl) ?_
  intro K hK
  refine Sf.dft_quiet rfl ?_
  go_big_quiet_op
  with_reducible refine hK _ ?_
  clear hK K
  with_reducible refine Sf.lx_one (by kernel_rfl) (by kernel_rfl) ?_
  intro K hK
  refine Sf.dft_quiet rfl ?_
  go_big_quiet_op
  with_reducible refine hK _ ?_
  clear hK K
  with_reducible refine Sf.lx_one (by kernel_rfl) (by kernel_rfl) ?_
  intro K hK
  refine Sf.dft_quiet rfl ?_
  go_big_quiet_op
  with_reducible refine hK _ ?_
  clear hK K
  with_reducible refine Sf.lx_one (by kernel_rfl) (by kernel_rfl) ?_
  intro K hK
  refine Sf.dft_call ?_ ?_
  · clear hK K; rintro _ ⟨nc, rfl⟩; go_simp; exact (HR1.out nc.w).mono fun e w' ⟨he, hb⟩ => ⟨he, nc.next hb⟩
  with_reducible refine hK _ ?_
  clear hK K
  (try simp only [Act.put, List.setIfInBounds_toArray, List.set_cons_zero, List.set_cons_succ, if_true, if_false, reduceIte, Nat.reduceEqDiff])
  with_reducible refine Sf.lx_one (by kernel_rfl) (by kernel_rfl) ?_
  intro K hK
  refine Sf.dft_quiet rfl ?_
  go_big_quiet_op
  with_reducible refine hK _ ?_
  clear hK K
  with_reducible refine Sf.lx_one (by kernel_rfl) (by kernel_rfl) ?_
  intro K hK
  refine Sf.dft_quiet rfl ?_
  go_big_quiet_op
  with_reducible refine hK _ ?_
  clear hK K
  with_reducible refine Sf.lx_one (by kernel_rfl) (by kernel_rfl) ?_
  intro K hK
  refine Sf.dft_quiet rfl ?_
  go_big_quiet_op
  with_reducible refine hK _ ?_
  clear hK K
  with_reducible refine Sf.lx_one (by kernel_rfl) (by kernel_rfl) ?_
  intro K hK
  refine Sf.dft_quiet rfl ?_
  go_big_quiet_op
  with_reducible refine hK _ ?_
  clear hK K
  with_reducible refine Sf.lx_one (by kernel_rfl) (by kernel_rfl) ?_
  intro K hK
  refine Sf.dft_quiet rfl ?_
  go_big_quiet_op
  with_reducible refine hK _ ?_
  clear hK K
  with_reducible refine Sf.lx_nil ?_
  rintro _ ⟨nq, rfl⟩
  have zq := z0 nq
  have HB := Lib.hid nq.h
  generalize nq.w = wq at *
  clear x0 x1 x2 y0 y1 y2 z0 sx sy
  go_wp2_with (first | (refine up_ar (op := .sub) rfl ?_; intro r1 n1 hr1) | (refine up_ar2 (op := .mul) rfl HSS.out hr1 ?_; intro r2 n2 hr2) | (refine up_ar2 (op := .add) rfl HXX.out hr2 ?_; intro r3 n3 hr3))
  go_ret
  exact ⟨r3, rfl, hr3, by first | exact below_drawn HB.out _ | exact below_drawn (below_drawn HB.out _) _ | exact below_drawn (below_drawn (below_drawn HB.out _) _) _⟩
end Go.Proofs.Ytfbdmhkmkmbipaa
