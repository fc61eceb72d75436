/-
  Contract: a picture of its own, by the model.
-/
import Derived.Test.YtfbdmhkmkmbipaaCrK
import Derived.Deep.RegionWith
import Derived.Deep.AppendLies
import Derived.Deep.RegionLaw
import Derived.Deep.RegionHeld3
import Derived.Maps.AppendAt
import Derived.Laws.OwnMore
import Derived.Laws.Rows
namespace Go.Proofs.Ytfbdmhkmkmbipaa
open Go.RowKit Fl
set_option linter.unusedVariables false
set_option maxRecDepth 100000

section
variable {P : Program} (w : World)
theorem run_appF_any (t ty : TypeId) (base : Nat) (e : TypeId) (i : TypeInfo) (z : Value) (bytes : Nat) (ht : P.underlying t = some (.slice e)) (hi : P.info? e = some i) (hz : i.zero = some z)
    (hsize : i.size = 1) (hby : i.bytes = bytes) (hzs : z.cells.size = 1)
    (v : Value) (n : Nat) (xs : List Value) (hown : w.ownsRow base e 1 v n xs)
    (A : Option Addr) (m c : Nat) (news : List Value) (hl : news.length = m) (hA : A = none → m = 0) (hnews : ∀ ad, A = some ad → ∀ j u, news[j]? = some u → w.cell? (ad.add j) = some u) (h1 : ∀ u ∈ news, u.oneCell' = true)
    (h63 : n + m ≤ maxLen) (hbytes : (n + m) * bytes ≤ 140737488355328) (hbase : base ≤ w.heap.size) :
    ∃ v' w', (Builtin.append_ #[t, t] ty #[v, .slice A m c]).run P w = .ok v' w' ∧ w'.ownsRow base e 1 v' (n + m) (xs ++ news) ∧ w.grownBy w' v.ownBlock := by
  cases A with
  | none =>
    obtain rfl := hA rfl
    have hn : news = [] := List.length_eq_zero_iff.1 hl
    subst hn
    refine ⟨v, w, ?_, by simpa using hown, World.grownBy.refl _ _⟩
    rcases hown.2 with ⟨rfl, rfl⟩ | ⟨g, cap, cur, rfl, _, _, hnc, _⟩
    · simp [Builtin.append_, run_underlying ht, sizeOf, typeInfo, hi, Builtin.lenOf, Builtin.firstCells]
    · simp [Builtin.append_, run_underlying ht, sizeOf, typeInfo, hi, Builtin.lenOf, Builtin.firstCells, hnc, storeCells]
  | some ad =>
    obtain ⟨v', w', hr, h2, h3, _, _⟩ := run_append_own_at (P := P) w base t ty e i z 1 bytes ht hi hz hsize hby hzs (by decide) v n xs hown ad m c news (by rw [hl, Nat.mul_one]) (hnews ad rfl) h1 h63 hbytes hbase
    exact ⟨v', w', hr, h2, h3⟩
theorem step_appF_any {ops : Array Oper} {o : Oper} {a : Act} {K : Act → World → Prop} {Q : Exit → Act → World → Prop} {E : Prop} (hgd : o.guard = none) (s x : Operand) (t : TypeId)
    (ho : o.op = .call { callee := .builtin .append, args := #[s, x], argTypes := #[t, t] })
    (base : Nat) (e : TypeId) (i : TypeInfo) (z : Value) (bytes : Nat) (ht : P.underlying t = some (.slice e)) (hi : P.info? e = some i) (hz : i.zero = some z)
    (hsize : i.size = 1) (hby : i.bytes = bytes) (hzs : z.cells.size = 1)
    (v : Value) (n : Nat) (xs : List Value) (hs : a.eval s = v) (hown : w.ownsRow base e 1 v n xs)
    (A : Option Addr) (m c : Nat) (news : List Value) (hx : a.eval x = .slice A m c) (hl : news.length = m) (hA : A = none → m = 0) (hnews : ∀ ad, A = some ad → ∀ j u, news[j]? = some u → w.cell? (ad.add j) = some u) (h1 : ∀ u ∈ news, u.oneCell' = true)
    (h63 : n + m ≤ maxLen) (hbytes : (n + m) * bytes ≤ 140737488355328) (hbase : base ≤ w.heap.size)
    (h : ∀ v' w', w'.ownsRow base e 1 v' (n + m) (xs ++ news) → w.grownBy w' v.ownBlock → K (a.put o.dst v') w') :
    if Region.wanted o (yielded ops a.tmps) = true then Oper.wp P o a w K Q else E := by
  have hw : Region.wanted o (yielded ops a.tmps) = true := by simp [Region.wanted, hgd]
  rw [if_pos hw]
  obtain ⟨v', w', hr, h2, h3⟩ := run_appF_any (P := P) w t o.type base e i z bytes ht hi hz hsize hby hzs v n xs hown A m c news hl hA hnews h1 h63 hbytes hbase
  unfold Oper.wp execOp
  simp only [ho, resolve, invoke, builtin, Sem.run_bind, Sem.run_pure, Result.andThen_ok, List.map_toArray, List.map_cons, List.map_nil, hs, hx, hr]
  exact h v' w' h2 h3
end
theorem ei_farO {w : World} {g g' o o' : Nat} {u x : Value} (h : g ≠ g') (hc : w.cell? ⟨g, o, none⟩ = some x) : (w.setCell ⟨g', o', none⟩ u).cell? ⟨g, o, none⟩ = some x := by
  rw [World.cell?_setCell_other _ _ _ _ (fun e => h (by simp only [Addr.mk.injEq] at e; first | exact e.1 | exact e.1.symm))]; exact hc
set_option maxHeartbeats 4000000 in
theorem own4_any (g0 : Nat) (p q : Int) (b off c n : Nat) (xs : List Nat) (w : World) (hn : n = xs.length) (hn1 : 1 ≤ n ∧ n ≤ 256) (hg0 : g0 < w.heap.size) (hb : b < w.heap.size)
    (k0 : w.cell? ⟨g0, 0, none⟩ = some (.int .i64 p)) (k1 : w.cell? ⟨g0, 1, none⟩ = some (.int .i64 q)) (k2 : w.cell? ⟨g0, 2, none⟩ = some (.slice (some ⟨b, off, none⟩) n c))
    (hcell : ∀ (i : Nat) (h : i < xs.length), w.cell? ⟨b, off + i, none⟩ = some (.float .f32 (xs.getD i 0))) :
    Calls Try.prog 77 #[.pointer (some ⟨g0, 0, none⟩)] w (RetAg p q xs w) := by
  subst hn
  obtain ⟨W0, hW0⟩ : ∃ W0, w.alloc (.cells #[.int .i64 0, .int .i64 0, .slice none 0 0] 50) = W0 := ⟨_, rfl⟩
  have hb0 : Below w.heap.size w W0 := by rw [← hW0]; exact (Below.refl _ _).alloc (Nat.le_refl _) _
  have hz : W0.heap.size = w.heap.size + 1 := by rw [← hW0]; simp
  have hlt : w.heap.size < W0.heap.size := by omega
  have hgA : g0 < W0.heap.size := by omega
  obtain ⟨i0, hi, hz0, hz1, hz2⟩ := info_parts infoF
  have r0 : W0.cell? ⟨w.heap.size, 0, none⟩ = some (.int .i64 0) := by rw [← hW0]; simp [go_sem]
  have r1 : W0.cell? ⟨w.heap.size, 1, none⟩ = some (.int .i64 0) := by rw [← hW0]; simp [go_sem]
  have r2 : W0.cell? ⟨w.heap.size, 2, none⟩ = some (.slice none 0 0) := by rw [← hW0]; simp [go_sem]
  have e0 : W0.frozen? ⟨w.heap.size, 0, none⟩ = false := by rw [← hW0]; simp [go_sem]
  have e1 : W0.frozen? ⟨w.heap.size, 1, none⟩ = false := by rw [← hW0]; simp [go_sem]
  have e2 : W0.frozen? ⟨w.heap.size, 2, none⟩ = false := by rw [← hW0]; simp [go_sem]
  have a0 := (hb0.cell (p := ⟨g0, 0, none⟩) hg0).trans k0
  have a1 := (hb0.cell (p := ⟨g0, 1, none⟩) hg0).trans k1
  have a2 := (hb0.cell (p := ⟨g0, 2, none⟩) hg0).trans k2
  have hbA : Below W0.heap.size W0 (W0.alloc (.cells #[] 23)) := (Below.refl _ _).alloc (Nat.le_refl _) _
  have b0 := (hbA.cell (p := ⟨g0, 0, none⟩) hgA).trans a0
  have b1 := (hbA.cell (p := ⟨g0, 1, none⟩) hgA).trans a1
  have b2 := (hbA.cell (p := ⟨g0, 2, none⟩) hgA).trans a2
  have HNW := Lib.hid (show ∀ ad, (some ⟨b, off, none⟩ : Option Addr) = some ad → ∀ j u, (fl xs)[j]? = some u → (W0.alloc (.cells #[] 23)).cell? (ad.add j) = some u from fun ad had j u hu => by
    obtain rfl := Option.some.inj had
    have hj := (List.getElem?_eq_some_iff.1 hu).1
    rw [fl_len] at hj
    rw [Go.WideShapes.add_plain]
    have e : u = .float .f32 (xs.getD j 0) := by simpa [fl, hj] using hu.symm
    rw [e]
    exact ((hb0.trans (hbA.mono hb0.size)).cell (p := ⟨b, off + j, none⟩) hb).trans (hcell j hj))
  have HR0 := Lib.hid (show (W0.alloc (.cells #[] 23)).ownsRow W0.heap.size 23 1 (.slice (some ⟨W0.heap.size, 0, none⟩) 0 0) 0 [] from World.ownsRow_made W0 #[] 0 (Nat.le_refl _) (Nat.zero_le _) rfl)
  have HB0 := Lib.hid hb0
  have HBA := Lib.hid hbA
  clear hcell hb0 hbA k0 k1 k2 hz
  go_enter Try.func77, Try.ntmps77
  go_wp2_with fail
  go_region_held3 (fun w' => w'.cell? ⟨g0, 0, none⟩ = some (.int .i64 p) ∧ w'.cell? ⟨g0, 1, none⟩ = some (.int .i64 q) ∧ w'.cell? ⟨g0, 2, none⟩ = some (.slice (some ⟨b, off, none⟩) xs.length c)) (first | exact ⟨a0, a1, a2⟩ | exact ⟨b0, b1, b2⟩ | exact ⟨c0, c1, c2⟩ | exact ⟨ei_farO (by omega) c0, ei_farO (by omega) c1, ei_farO (by omega) c2⟩ | exact ⟨ei_farO (by omega) (ei_farO (by omega) (ei_farO (by omega) c0)), ei_farO (by omega) (ei_farO (by omega) (ei_farO (by omega) c1)), ei_farO (by omega) (ei_farO (by omega) (ei_farO (by omega) c2))⟩) ((refine step_appF_any _ rfl _ _ 22 rfl W0.heap.size 23 i0 (.float .f32 0) 4 Try.underlying22 hi hz0 hz1 hz2 rfl _ 0 [] rfl HR0.out (some ⟨b, off, none⟩) xs.length c (fl xs) rfl (by rw [fl_len]) (fun h => by cases h) (fun ad had j u hu => HNW.out ad had j u hu) (cellsF xs) (by unfold maxLen; omega) (by omega) (by simp) ?_; intro v' w1 hown hgrow; have hb1 : Below W0.heap.size W0 w1 := (show Below W0.heap.size W0 (W0.alloc (.cells #[] 23)).drew from below_drawn HBA.out 1).grown hgrow (by simp) (fun j hj => (HR0.out.lt j hj).1); have c0 := (hb1.cell (p := ⟨g0, 0, none⟩) hgA).trans a0; have c1 := (hb1.cell (p := ⟨g0, 1, none⟩) hgA).trans a1; have c2 := (hb1.cell (p := ⟨g0, 2, none⟩) hgA).trans a2; have s0 := (hb1.cell (p := ⟨w.heap.size, 0, none⟩) hlt).trans r0; have s1 := (hb1.cell (p := ⟨w.heap.size, 1, none⟩) hlt).trans r1; have s2 := (hb1.cell (p := ⟨w.heap.size, 2, none⟩) hlt).trans r2; have t0 := (hb1.frozen (p := ⟨w.heap.size, 0, none⟩) hlt).trans e0; have t1 := (hb1.frozen (p := ⟨w.heap.size, 1, none⟩) hlt).trans e1; have t2 := (hb1.frozen (p := ⟨w.heap.size, 2, none⟩) hlt).trans e2; have HO := Lib.hid (show Own w1 W0.heap.size v' (fl xs) from row_own (by have h := hown; rw [Nat.zero_add, List.nil_append] at h; exact h)); obtain ⟨A5, c5, hv5, _, _, _⟩ := id HO.out; rw [fl_len] at hv5; subst hv5; have HB1 := Lib.hid hb1; clear hown hgrow hb1))
  have HOF := Lib.hid ((((HO.out.setLess (a := ⟨w.heap.size, 0, none⟩) hlt (.int .i64 p)).setLess (a := ⟨w.heap.size, 1, none⟩) hlt (.int .i64 q)).setLess (a := ⟨w.heap.size, 2, none⟩) hlt ((.slice A5 xs.length c5))).less (lo' := w.heap.size) (Nat.le_of_lt hlt))
  have HB5 := Lib.hid (HB0.out.trans (HB1.out.mono (Nat.le_of_lt hlt)))
  have HB := Lib.hid (((HB5.out.setCell (p := ⟨w.heap.size, 0, none⟩) (by show w.heap.size ≤ w.heap.size; omega) (.int .i64 p)).setCell (p := ⟨w.heap.size, 1, none⟩) (by show w.heap.size ≤ w.heap.size; omega) (.int .i64 q)).setCell (p := ⟨w.heap.size, 2, none⟩) (by show w.heap.size ≤ w.heap.size; omega) ((.slice A5 xs.length c5)))
  go_wp2_with fail
  exact bodyPost_ret (v := .agg #[.int .i64 p, .int .i64 q, (.slice A5 xs.length c5)]) (by simp [results, Try.results77, go_sem, s0, s1, s2]) rfl ⟨_, rfl, HOF.out, HB.out⟩
end Go.Proofs.Ytfbdmhkmkmbipaa
