/-
  A step of a region that draws: append of all of a slice to a list of the call's own; CutCoded of both sides.
-/
import Derived.Test.YtdlginbmelbfgaaVc
import Derived.Test.YtdlginbmelbfgaaCiM
import Derived.Test.YtdlginbmelbfgaaLst
import Derived.Deep.RegionWith
import Derived.Deep.AppendLies
import Derived.Deep.RegionLaw
import Derived.Deep.RegionHeld3
import Derived.Maps.AppendAt
import Derived.Laws.OwnMore
import Derived.Laws.Rows
namespace Go.Proofs.Ytdlginbmelbfgaa
open Go.RowKit Fl
set_option linter.unusedVariables false

section
variable {P : Program} (w : World)
theorem run_app_any (t ty : TypeId) (base : Nat) (e : TypeId) (i : TypeInfo) (z : Value) (bytes : Nat) (ht : P.underlying t = some (.slice e)) (hi : P.info? e = some i) (hz : i.zero = some z)
    (hsize : i.size = 1) (hby : i.bytes = bytes) (hzs : z.cells.size = 1)
    (v : Value) (n : Nat) (xs : List Value) (hown : w.ownsRow base e 1 v n xs)
    (A : Option Addr) (m c : Nat) (news : List Value) (hl : news.length = m) (hA : A = none → m = 0) (hnews : ∀ ad, A = some ad → ∀ j u, news[j]? = some u → w.cell? (ad.add j) = some u) (h1 : ∀ u ∈ news, u.oneCell' = true)
    (h63 : n + m ≤ maxLen) (hbytes : (n + m) * bytes ≤ 140737488355328) (hbase : base ≤ w.heap.size) :
    ∃ v' w', (Builtin.append_ #[t, t] ty #[v, .slice A m c]).run P w = .ok v' w' ∧ w'.ownsRow base e 1 v' (n + m) (xs ++ news) ∧ w.grownBy w' v.ownBlock := by
  cases A with
  | none =>
    obtain rfl := hA rfl
    have hn : news = [] := List.length_eq_zero_iff.1 hl
    subst hn
    refine ⟨v, w, ?_, by simpa using hown, World.grownBy.refl _ _⟩
    rcases hown.2 with ⟨rfl, rfl⟩ | ⟨g, cap, cur, rfl, _, _, hnc, _⟩
    · simp [Builtin.append_, run_underlying ht, sizeOf, typeInfo, hi, Builtin.lenOf, Builtin.firstCells]
    · simp [Builtin.append_, run_underlying ht, sizeOf, typeInfo, hi, Builtin.lenOf, Builtin.firstCells, hnc, storeCells]
  | some ad =>
    obtain ⟨v', w', hr, h2, h3, _, _⟩ := run_append_own_at (P := P) w base t ty e i z 1 bytes ht hi hz hsize hby hzs (by decide) v n xs hown ad m c news (by rw [hl, Nat.mul_one]) (hnews ad rfl) h1 h63 hbytes hbase
    exact ⟨v', w', hr, h2, h3⟩
theorem step_app_any {ops : Array Oper} {o : Oper} {a : Act} {K : Act → World → Prop} {Q : Exit → Act → World → Prop} {E : Prop} (hgd : o.guard = none) (s x : Operand) (t : TypeId)
    (ho : o.op = .call { callee := .builtin .append, args := #[s, x], argTypes := #[t, t] })
    (base : Nat) (e : TypeId) (i : TypeInfo) (z : Value) (bytes : Nat) (ht : P.underlying t = some (.slice e)) (hi : P.info? e = some i) (hz : i.zero = some z)
    (hsize : i.size = 1) (hby : i.bytes = bytes) (hzs : z.cells.size = 1)
    (v : Value) (n : Nat) (xs : List Value) (hs : a.eval s = v) (hown : w.ownsRow base e 1 v n xs)
    (A : Option Addr) (m c : Nat) (news : List Value) (hx : a.eval x = .slice A m c) (hl : news.length = m) (hA : A = none → m = 0) (hnews : ∀ ad, A = some ad → ∀ j u, news[j]? = some u → w.cell? (ad.add j) = some u) (h1 : ∀ u ∈ news, u.oneCell' = true)
    (h63 : n + m ≤ maxLen) (hbytes : (n + m) * bytes ≤ 140737488355328) (hbase : base ≤ w.heap.size)
    (h : ∀ v' w', w'.ownsRow base e 1 v' (n + m) (xs ++ news) → w.grownBy w' v.ownBlock → K (a.put o.dst v') w') :
    if Region.wanted o (yielded ops a.tmps) = true then Oper.wp P o a w K Q else E := by
  have hw : Region.wanted o (yielded ops a.tmps) = true := by simp [Region.wanted, hgd]
  rw [if_pos hw]
  obtain ⟨v', w', hr, h2, h3⟩ := run_app_any (P := P) w t o.type base e i z bytes ht hi hz hsize hby hzs v n xs hown A m c news hl hA hnews h1 h63 hbytes hbase
  unfold Oper.wp execOp
  simp only [ho, resolve, invoke, builtin, Sem.run_bind, Sem.run_pure, Result.andThen_ok, List.map_toArray, List.map_cons, List.map_nil, hs, hx, hr]
  exact h v' w' h2 h3
end
theorem bl_take (xs : List Bool) (k : Nat) : bl (xs.take k) = (bl xs).take k := by simp [bl, List.map_take]
def cuG (p q : Int) (xs : List Bool) (k : Int) : Bool := vcB p q xs && decide (0 ≤ k ∧ k ≤ xs.length)
def cuP (p q : Int) (xs : List Bool) (k : Int) : Int := if cuG p q xs k then p else 0
def cuQ (p q : Int) (xs : List Bool) (k : Int) : Int := if cuG p q xs k then q else 0
def cuL (p q : Int) (xs : List Bool) (k : Int) : List Bool := if cuG p q xs k then xs.take k.toNat else []
theorem cuL_len (p q : Int) (xs : List Bool) (k : Int) : (cuL p q xs k).length ≤ 1048576 := by
  unfold cuL; split
  · rename_i h
    unfold cuG at h
    rw [Bool.and_eq_true] at h
    have := (vcB_out h.1).2.2
    rw [List.length_take]; omega
  · simp
theorem cu_no {p q : Int} {xs : List Bool} {k : Int} (h : cuG p q xs k = false) : cuP p q xs k = 0 ∧ cuQ p q xs k = 0 ∧ cuL p q xs k = [] := by
  unfold cuP cuQ cuL; rw [h]; exact ⟨rfl, rfl, rfl⟩
theorem cu_yes {p q : Int} {xs : List Bool} {k : Int} (h : cuG p q xs k = true) : cuP p q xs k = p ∧ cuQ p q xs k = q ∧ cuL p q xs k = xs.take k.toNat := by
  unfold cuP cuQ cuL; rw [h]; exact ⟨rfl, rfl, rfl⟩
/-- The cells of a code in its box, and of the answer in its own. -/
def CuW (w V : World) (p q : Int) (v : Value) : Prop :=
  (V.cell? ⟨w.heap.size, 0, none⟩ = some (.int .i64 p) ∧ V.cell? ⟨w.heap.size, 1, none⟩ = some (.int .i64 q) ∧ V.cell? ⟨w.heap.size, 2, none⟩ = some v) ∧
  (V.cell? ⟨w.heap.size + 1, 0, none⟩ = some (.int .i64 0) ∧ V.cell? ⟨w.heap.size + 1, 1, none⟩ = some (.int .i64 0) ∧ V.cell? ⟨w.heap.size + 1, 2, none⟩ = some (.slice none 0 0)) ∧
  (V.frozen? ⟨w.heap.size + 1, 0, none⟩ = false ∧ V.frozen? ⟨w.heap.size + 1, 1, none⟩ = false ∧ V.frozen? ⟨w.heap.size + 1, 2, none⟩ = false) ∧ w.heap.size + 2 ≤ V.heap.size
theorem CuW.mono {w V V' : World} {p q : Int} {v : Value} (h : CuW w V p q v) (hc : ∀ b o, b < w.heap.size + 2 → V'.cell? ⟨b, o, none⟩ = V.cell? ⟨b, o, none⟩) (hf : ∀ b o, b < w.heap.size + 2 → V'.frozen? ⟨b, o, none⟩ = V.frozen? ⟨b, o, none⟩) (hz : V.heap.size ≤ V'.heap.size) : CuW w V' p q v := by
  obtain ⟨⟨a1, a2, a3⟩, ⟨b1, b2, b3⟩, ⟨f1, f2, f3⟩, z⟩ := h
  exact ⟨⟨(hc _ _ (by omega)).trans a1, (hc _ _ (by omega)).trans a2, (hc _ _ (by omega)).trans a3⟩, ⟨(hc _ _ (by omega)).trans b1, (hc _ _ (by omega)).trans b2, (hc _ _ (by omega)).trans b3⟩,
    ⟨(hf _ _ (by omega)).trans f1, (hf _ _ (by omega)).trans f2, (hf _ _ (by omega)).trans f3⟩, by omega⟩
theorem cu_step {w V w1 : World} {p q : Int} {v v' : Value} {L : List Bool} {kk : Nat} (h : CuW w (V.alloc (.cells #[] 4)) p q v) (hB : Below w.heap.size w V) (hL : L.length = kk)
    (hown : w1.ownsRow V.heap.size 4 1 v' (0 + kk) ([] ++ bl L)) (hgrow : ((V.alloc (.cells #[] 4)).drew).grownBy w1 (some V.heap.size)) (hz : w.heap.size + 2 ≤ V.heap.size) :
    ∃ Av cv, v' = .slice Av kk cv ∧ Own w1 V.heap.size (.slice Av kk cv) (bl L) ∧ CuW w w1 p q v ∧ Below w.heap.size w w1 := by
  have hO0 : Own w1 V.heap.size v' (bl L) := Own.row (show w1.ownsRow V.heap.size 4 1 v' kk (bl L) by simpa using hown)
  obtain ⟨Av, cv, hv', _, _, _⟩ := id hO0
  rw [bl_len, hL] at hv'
  subst hv'
  have hB1 : Below w.heap.size w ((V.alloc (.cells #[] 4)).drew) := below_drawn (hB.alloc hB.size _) 1
  refine ⟨Av, cv, rfl, hO0, h.mono (fun b o hb => ?_) (fun b o hb => ?_) ?_, hB1.grown hgrow (by have := hB1.size; exact this) (fun j hj => ?_)⟩
  · exact hgrow.cell_far ⟨b, o, none⟩ (by show b < _; simp; omega) (by simp; omega)
  · exact hgrow.frozen_far ⟨b, o, none⟩ (by show b < _; simp; omega) (by simp; omega)
  · have := hgrow.size; exact this
  · simp at hj; omega
theorem cu_far {w1 : World} {b o : Nat} {u x y z : Value} (h : w1.cell? ⟨b, o, none⟩ = some u) : (((w1.setCell ⟨b + 1, 0, none⟩ x).setCell ⟨b + 1, 1, none⟩ y).setCell ⟨b + 1, 2, none⟩ z).cell? ⟨b, o, none⟩ = some u := by
  rw [World.cell?_setCell_other _ _ _ _ (fun e => by simp only [Addr.mk.injEq] at e; omega), World.cell?_setCell_other _ _ _ _ (fun e => by simp only [Addr.mk.injEq] at e; omega), World.cell?_setCell_other _ _ _ _ (fun e => by simp only [Addr.mk.injEq] at e; omega)]
  exact h
theorem cu_end {w w1 : World} {p q x y : Int} {v u : Value} {L : List Bool} {lo : Nat} (hO : Own w1 lo u (bl L)) (hC : CuW w w1 p q v) (hB : Below w.heap.size w w1) (hlo : w.heap.size + 2 ≤ lo) :
    let W3 := ((w1.setCell ⟨w.heap.size + 1, 0, none⟩ (.int .i64 x)).setCell ⟨w.heap.size + 1, 1, none⟩ (.int .i64 y)).setCell ⟨w.heap.size + 1, 2, none⟩ u
    W3.cell? ⟨w.heap.size + 1, 0, none⟩ = some (.int .i64 x) ∧ W3.cell? ⟨w.heap.size + 1, 1, none⟩ = some (.int .i64 y) ∧ W3.cell? ⟨w.heap.size + 1, 2, none⟩ = some u ∧ Own W3 w.heap.size u (bl L) ∧ Below w.heap.size w W3 := by
  obtain ⟨_, ⟨r0, r1, r2⟩, _, _⟩ := hC
  refine ⟨?_, ?_, ?_, ?_, ?_⟩
  · rw [World.cell?_setCell_other _ _ _ _ (fun e => by simp only [Addr.mk.injEq] at e; omega), World.cell?_setCell_other _ _ _ _ (fun e => by simp only [Addr.mk.injEq] at e; omega)]
    exact World.cell?_setCell_same _ _ _ r0
  · rw [World.cell?_setCell_other _ _ _ _ (fun e => by simp only [Addr.mk.injEq] at e; omega)]
    exact World.cell?_setCell_same _ _ _ (u := .int .i64 0) (by rw [World.cell?_setCell_other _ _ _ _ (fun e => by simp only [Addr.mk.injEq] at e; omega)]; exact r1)
  · exact World.cell?_setCell_same _ _ _ (u := .slice none 0 0) (by rw [World.cell?_setCell_other _ _ _ _ (fun e => by simp only [Addr.mk.injEq] at e; omega), World.cell?_setCell_other _ _ _ _ (fun e => by simp only [Addr.mk.injEq] at e; omega)]; exact r2)
  · exact (((hO.setLess (a := ⟨w.heap.size + 1, 0, none⟩) (by show w.heap.size + 1 < lo; omega) _).setLess (a := ⟨w.heap.size + 1, 1, none⟩) (by show w.heap.size + 1 < lo; omega) _).setLess (a := ⟨w.heap.size + 1, 2, none⟩) (by show w.heap.size + 1 < lo; omega) _).less (by omega)
  · exact ((hB.setCell (p := ⟨w.heap.size + 1, 0, none⟩) (by show w.heap.size ≤ w.heap.size + 1; omega) _).setCell (p := ⟨w.heap.size + 1, 1, none⟩) (by show w.heap.size ≤ w.heap.size + 1; omega) _).setCell (p := ⟨w.heap.size + 1, 2, none⟩) (by show w.heap.size ≤ w.heap.size + 1; omega) _
set_option maxRecDepth 100000 in
set_option maxHeartbeats 4000000 in
theorem cuS_any (v : Value) (p q : Int) (xs : List Bool) (k : Int) (w : World) (h : Rd w w.heap.size v (bl xs)) (hm : xs.length ≤ 1048576) :
    Calls Try.prog 38 #[.agg #[.int .i64 p, .int .i64 q, v], .int .i64 k] w (RetCd (cuP p q xs k) (cuQ p q xs k) (cuL p q xs k) (cuG p q xs k) w) := by
  obtain ⟨i0, hi, hz0, hz1, hz2⟩ := info_parts infoB
  obtain ⟨A, c, hv, hc1, hc2, hcell⟩ := id h
  rw [bl_len] at hv hc1 hcell
  subst hv
  obtain ⟨W, hW⟩ : ∃ W, W = ((w.alloc (.cells #[.int .i64 p, .int .i64 q, .slice A xs.length c] 43)).alloc (.cells #[.int .i64 0, .int .i64 0, .slice none 0 0] 43)) := ⟨_, rfl⟩
  have hb0 : Below w.heap.size w W := by rw [hW]; exact ((Below.refl _ _).alloc (Nat.le_refl _) _).alloc (by simp) _
  have hz : W.heap.size = w.heap.size + 2 := by rw [hW]; simp
  have hC : CuW w W p q (.slice A xs.length c) := by rw [hW]; exact ⟨⟨by simp [go_sem], by simp [go_sem], by simp [go_sem]⟩, ⟨by simp [go_sem], by simp [go_sem], by simp [go_sem]⟩, ⟨by simp [go_sem], by simp [go_sem], by simp [go_sem]⟩, by simp⟩
  obtain ⟨a0, a1, a2⟩ := hC.1
  have HV := Lib.hid (vcP_any w.heap.size (.slice A xs.length c) p q xs W w.heap.size (h.below hb0) a0 a1 a2)
  have HCe := Lib.hid hcell
  have HC0 := Lib.hid hC
  have HB0 := Lib.hid hb0
  clear hcell hC hb0 a0 a1 a2
  go_enter Try.func38, Try.ntmps38
  go_wp2_with fail
  rw [← hW]
  clear hW
  refine HV.out.mono ?_
  rintro e V ⟨rfl, hV⟩
  have hbV : Below W.heap.size W V := by rw [← hV]; exact Below.refl _ _
  clear hV
  have HCV := Lib.hid (HC0.out.mono (fun b o hb => hbV.cell (p := ⟨b, o, none⟩) (by rw [hz]; exact hb)) (fun b o hb => hbV.frozen (p := ⟨b, o, none⟩) (by rw [hz]; exact hb)) hbV.size)
  have HB := Lib.hid (HB0.out.trans (hbV.mono HB0.out.size))
  clear hbV
  clear HC0 HB0 HV h
  obtain ⟨⟨a0, a1, a2⟩, ⟨r0, r1, r2⟩, ⟨e0, e1, e2⟩, hzV⟩ := HCV.out
  cases t1 : vcB p q xs with
  | false =>
    have HG := Lib.hid (show cuG p q xs k = false by unfold cuG; rw [t1]; rfl)
    clear t1
    go_wp2_with fail
    exact bodyPost_ret (v := .tuple #[.agg #[.int .i64 0, .int .i64 0, .slice none 0 0], .bool false]) (by simp [results, Try.results38, go_sem, r0, r1, r2]) rfl (by rw [(cu_no HG.out).1, (cu_no HG.out).2.1, (cu_no HG.out).2.2, HG.out]; exact retCd_no _ _ (((HB.out.setCell (p := ⟨w.heap.size + 1, 0, none⟩) (by simp) (.int .i64 0)).setCell (p := ⟨w.heap.size + 1, 1, none⟩) (by simp) (.int .i64 0)).setCell (p := ⟨w.heap.size + 1, 2, none⟩) (by simp) (.slice none 0 0)))
  | true =>
    by_cases hk : 0 ≤ k ∧ k ≤ xs.length
    · have hg : cuG p q xs k = true := by unfold cuG; rw [t1, decide_eq_true hk]; rfl
      obtain ⟨kk, rfl⟩ : ∃ kk : Nat, k = kk := ⟨k.toNat, by omega⟩
      have HG := Lib.hid hg
      obtain ⟨hk1, hk2⟩ := hk
      have hkk : kk ≤ xs.length := by omega
      have hkc : kk ≤ c := by omega
      obtain ⟨L, hL⟩ : ∃ L, xs.take kk = L := ⟨_, rfl⟩
      have HLn := Lib.hid (show L.length = kk by rw [← hL, List.length_take]; omega)
      have HN := Lib.hid (show ∀ ad, A = some ad → ∀ j u, (bl L)[j]? = some u → w.cell? (ad.add j) = some u from fun ad had j u hu => by
        have hj : j < kk := by have := (List.getElem?_eq_some_iff.1 hu).1; rw [bl_len, HLn.out] at this; exact this
        obtain ⟨b, off, hA, hbl, hcc⟩ := HCe.out (by omega)
        rw [hA] at had
        obtain rfl := Option.some.inj had
        rw [Go.WideShapes.add_plain]
        refine hcc j u ?_
        rw [← hL, bl_take, List.getElem?_take, if_pos hj] at hu
        exact hu)
      have HNV := Lib.hid (show ∀ ad, A = some ad → ∀ j u, (bl L)[j]? = some u → (V.alloc (.cells #[] 4)).cell? (ad.add j) = some u from fun ad had j u hu => by
        have hj : j < kk := by have := (List.getElem?_eq_some_iff.1 hu).1; rw [bl_len, HLn.out] at this; exact this
        have h1 := HN.out ad had j u hu
        obtain ⟨b, off, hA, hbl, _⟩ := HCe.out (by omega)
        rw [hA] at had
        obtain rfl := Option.some.inj had
        rw [Go.WideShapes.add_plain] at h1 ⊢
        exact (((HB.out.alloc HB.out.size (.cells #[] 4)).cell (p := ⟨b, off + j, none⟩) hbl)).trans h1)
      have HA := Lib.hid (show A = none → kk = 0 from fun hA => by
        by_cases h0 : kk = 0
        · exact h0
        · obtain ⟨b, off, hA2, _⟩ := HCe.out (by omega)
          rw [hA] at hA2; cases hA2)
      have HR := Lib.hid (show cuL p q xs kk = L by rw [(cu_yes hg).2.2, ← hL]; congr 1)
      clear t1 hg hL
      go_wp2_with (go_at_call 55; refine (in_yes _ _ _ _ hk1 hk2).mono ?_; rintro e w' ⟨rfl, rfl⟩)
      have hwr : IntKind.i64.wrap (kk : Int) = kk := by rw [IntKind.wrap_i64]; omega
      have hC1 : CuW w (V.alloc (.cells #[] 4)) p q (.slice A xs.length c) := HCV.out.mono (fun b o hb => ((Below.refl V.heap.size V).alloc (Nat.le_refl _) (.cells #[] 4)).cell (p := ⟨b, o, none⟩) (by show b < _; omega)) (fun b o hb => ((Below.refl V.heap.size V).alloc (Nat.le_refl _) (.cells #[] 4)).frozen (p := ⟨b, o, none⟩) (by show b < _; omega)) (by simp)
      have HC1 := Lib.hid hC1
      obtain ⟨⟨a3, a4, a5⟩, ⟨r3, r4, r5⟩, ⟨e3, e4, e5⟩, hzV1⟩ := hC1
      go_region_held3 (fun w' => w'.cell? ⟨w.heap.size, 0, none⟩ = some (.int .i64 p) ∧ w'.cell? ⟨w.heap.size, 1, none⟩ = some (.int .i64 q) ∧ w'.cell? ⟨w.heap.size, 2, none⟩ = some (.slice A xs.length c)) (first | exact ⟨a0, a1, a2⟩ | exact ⟨a3, a4, a5⟩ | exact ⟨a6, a7, a8⟩ | exact ⟨cu_far a6, cu_far a7, cu_far a8⟩) ((first | (refine step_app_any _ rfl _ _ 33 rfl V.heap.size 4 i0 (.bool false) 1 Try.underlying33 hi hz0 hz1 hz2 rfl _ 0 [] rfl (World.ownsRow_made V #[] 0 (Nat.le_refl _) (Nat.zero_le _) rfl) A kk c (bl L) rfl (by rw [bl_len]; exact HLn.out) HA.out (fun ad had j u hu => HNV.out ad had j u hu) (cellsB L) (by unfold maxLen; omega) (by omega) (by simp) ?_; intro v' w1 hown hgrow; obtain ⟨Av, cv, rfl, hO, hC2, hB2⟩ := cu_step HC1.out HB.out HLn.out hown hgrow hzV; have HO := Lib.hid hO; have HC2 := Lib.hid hC2; have HB2 := Lib.hid hB2; clear hown hgrow hO hC2 hB2; obtain ⟨⟨a6, a7, a8⟩, ⟨r6, r7, r8⟩, ⟨e6, e7, e8⟩, hzV2⟩ := HC2.out)))
      obtain ⟨f0, f1, f2, hO3, hB3⟩ := cu_end (x := p) (y := q) HO.out HC2.out HB2.out hzV
      clear a0 a1 a2 a3 a4 a5 a6 a7 a8 r0 r1 r2 r3 r4 r5 r6 r7 r8 e0 e1 e2 e3 e4 e5 e6 e7 e8 HO HC2 HB2
      generalize ((w1.setCell ⟨w.heap.size + 1, 0, none⟩ (.int .i64 p)).setCell ⟨w.heap.size + 1, 1, none⟩ (.int .i64 q)).setCell ⟨w.heap.size + 1, 2, none⟩ (.slice Av kk cv) = W3 at *
      go_wp2_with fail
      exact bodyPost_ret (v := .tuple #[.agg #[.int .i64 p, .int .i64 q, .slice Av kk cv], .bool true]) (by simp [results, Try.results38, go_sem, f0, f1, f2]) rfl (by rw [(cu_yes HG.out).1, (cu_yes HG.out).2.1, HR.out, HG.out]; exact ⟨_, rfl, hO3, hB3⟩)
    · have HG := Lib.hid (show cuG p q xs k = false by unfold cuG; rw [t1, decide_eq_false hk]; rfl)
      clear t1
      have hk' : k < 0 ∨ (xs.length : Int) < k := by omega
      clear hk
      go_wp2_with (go_at_call 55; refine (in_not _ _ _ _ hk').mono ?_; rintro e w' ⟨rfl, rfl⟩)
      skip
      all_goals skip
      all_goals
        first | done | go_wp2_with fail | skip
        exact bodyPost_ret (v := .tuple #[.agg #[.int .i64 0, .int .i64 0, .slice none 0 0], .bool false]) (by simp [results, Try.results38, go_sem, r0, r1, r2]) rfl (by rw [(cu_no HG.out).1, (cu_no HG.out).2.1, (cu_no HG.out).2.2, HG.out]; exact retCd_no _ _ (((HB.out.setCell (p := ⟨w.heap.size + 1, 0, none⟩) (by simp) (.int .i64 0)).setCell (p := ⟨w.heap.size + 1, 1, none⟩) (by simp) (.int .i64 0)).setCell (p := ⟨w.heap.size + 1, 2, none⟩) (by simp) (.slice none 0 0)))
set_option maxRecDepth 100000 in
set_option maxHeartbeats 4000000 in
theorem cuI_any (v : Value) (p q : Int) (xs : List Bool) (k : Int) (w : World) (h : Rd w w.heap.size v (bl xs)) (hm : xs.length ≤ 1048576) :
    Calls Try.prog 39 #[.agg #[.int .i64 p, .int .i64 q, v], .int .i64 k] w (RetCd (cuP p q xs k) (cuQ p q xs k) (cuL p q xs k) (cuG p q xs k) w) := by
  obtain ⟨i0, hi, hz0, hz1, hz2⟩ := info_parts infoB
  obtain ⟨A, c, hv, hc1, hc2, hcell⟩ := id h
  rw [bl_len] at hv hc1 hcell
  subst hv
  obtain ⟨W, hW⟩ : ∃ W, W = ((w.alloc (.cells #[.int .i64 p, .int .i64 q, .slice A xs.length c] 43)).alloc (.cells #[.int .i64 0, .int .i64 0, .slice none 0 0] 43)) := ⟨_, rfl⟩
  have hb0 : Below w.heap.size w W := by rw [hW]; exact ((Below.refl _ _).alloc (Nat.le_refl _) _).alloc (by simp) _
  have hz : W.heap.size = w.heap.size + 2 := by rw [hW]; simp
  have hC : CuW w W p q (.slice A xs.length c) := by rw [hW]; exact ⟨⟨by simp [go_sem], by simp [go_sem], by simp [go_sem]⟩, ⟨by simp [go_sem], by simp [go_sem], by simp [go_sem]⟩, ⟨by simp [go_sem], by simp [go_sem], by simp [go_sem]⟩, by simp⟩
  obtain ⟨a0, a1, a2⟩ := hC.1
  have HV := Lib.hid (vcI_any (.slice A xs.length c) p q xs W ((h.below hb0).more hb0.size))
  have HCe := Lib.hid hcell
  have HC0 := Lib.hid hC
  have HB0 := Lib.hid hb0
  clear hcell hC hb0 a0 a1 a2
  go_enter Try.func39, Try.ntmps39
  go_wp2_with fail
  rw [← hW]
  clear hW
  refine HV.out.mono ?_
  rintro e V ⟨rfl, hbV⟩
  skip
  skip
  have HCV := Lib.hid (HC0.out.mono (fun b o hb => hbV.cell (p := ⟨b, o, none⟩) (by rw [hz]; exact hb)) (fun b o hb => hbV.frozen (p := ⟨b, o, none⟩) (by rw [hz]; exact hb)) hbV.size)
  have HB := Lib.hid (HB0.out.trans (hbV.mono HB0.out.size))
  clear hbV
  clear HC0 HB0 HV h
  obtain ⟨⟨a0, a1, a2⟩, ⟨r0, r1, r2⟩, ⟨e0, e1, e2⟩, hzV⟩ := HCV.out
  cases t1 : vcB p q xs with
  | false =>
    have HG := Lib.hid (show cuG p q xs k = false by unfold cuG; rw [t1]; rfl)
    clear t1
    go_wp2_with fail
    exact bodyPost_ret (v := .tuple #[.agg #[.int .i64 0, .int .i64 0, .slice none 0 0], .bool false]) (by simp [results, Try.results39, go_sem, r0, r1, r2]) rfl (by rw [(cu_no HG.out).1, (cu_no HG.out).2.1, (cu_no HG.out).2.2, HG.out]; exact retCd_no _ _ (((HB.out.setCell (p := ⟨w.heap.size + 1, 0, none⟩) (by simp) (.int .i64 0)).setCell (p := ⟨w.heap.size + 1, 1, none⟩) (by simp) (.int .i64 0)).setCell (p := ⟨w.heap.size + 1, 2, none⟩) (by simp) (.slice none 0 0)))
  | true =>
    by_cases hk : 0 ≤ k ∧ k ≤ xs.length
    · have hg : cuG p q xs k = true := by unfold cuG; rw [t1, decide_eq_true hk]; rfl
      obtain ⟨kk, rfl⟩ : ∃ kk : Nat, k = kk := ⟨k.toNat, by omega⟩
      have HG := Lib.hid hg
      obtain ⟨hk1, hk2⟩ := hk
      have hkk : kk ≤ xs.length := by omega
      have hkc : kk ≤ c := by omega
      obtain ⟨L, hL⟩ : ∃ L, xs.take kk = L := ⟨_, rfl⟩
      have HLn := Lib.hid (show L.length = kk by rw [← hL, List.length_take]; omega)
      have HN := Lib.hid (show ∀ ad, A = some ad → ∀ j u, (bl L)[j]? = some u → w.cell? (ad.add j) = some u from fun ad had j u hu => by
        have hj : j < kk := by have := (List.getElem?_eq_some_iff.1 hu).1; rw [bl_len, HLn.out] at this; exact this
        obtain ⟨b, off, hA, hbl, hcc⟩ := HCe.out (by omega)
        rw [hA] at had
        obtain rfl := Option.some.inj had
        rw [Go.WideShapes.add_plain]
        refine hcc j u ?_
        rw [← hL, bl_take, List.getElem?_take, if_pos hj] at hu
        exact hu)
      have HNV := Lib.hid (show ∀ ad, A = some ad → ∀ j u, (bl L)[j]? = some u → (V.alloc (.cells #[] 4)).cell? (ad.add j) = some u from fun ad had j u hu => by
        have hj : j < kk := by have := (List.getElem?_eq_some_iff.1 hu).1; rw [bl_len, HLn.out] at this; exact this
        have h1 := HN.out ad had j u hu
        obtain ⟨b, off, hA, hbl, _⟩ := HCe.out (by omega)
        rw [hA] at had
        obtain rfl := Option.some.inj had
        rw [Go.WideShapes.add_plain] at h1 ⊢
        exact (((HB.out.alloc HB.out.size (.cells #[] 4)).cell (p := ⟨b, off + j, none⟩) hbl)).trans h1)
      have HA := Lib.hid (show A = none → kk = 0 from fun hA => by
        by_cases h0 : kk = 0
        · exact h0
        · obtain ⟨b, off, hA2, _⟩ := HCe.out (by omega)
          rw [hA] at hA2; cases hA2)
      have HR := Lib.hid (show cuL p q xs kk = L by rw [(cu_yes hg).2.2, ← hL]; congr 1)
      clear t1 hg hL
      go_wp2_with fail
      have hwr : IntKind.i64.wrap (kk : Int) = kk := by rw [IntKind.wrap_i64]; omega
      have hC1 : CuW w (V.alloc (.cells #[] 4)) p q (.slice A xs.length c) := HCV.out.mono (fun b o hb => ((Below.refl V.heap.size V).alloc (Nat.le_refl _) (.cells #[] 4)).cell (p := ⟨b, o, none⟩) (by show b < _; omega)) (fun b o hb => ((Below.refl V.heap.size V).alloc (Nat.le_refl _) (.cells #[] 4)).frozen (p := ⟨b, o, none⟩) (by show b < _; omega)) (by simp)
      have HC1 := Lib.hid hC1
      obtain ⟨⟨a3, a4, a5⟩, ⟨r3, r4, r5⟩, ⟨e3, e4, e5⟩, hzV1⟩ := hC1
      go_region_held3 (fun w' => w'.cell? ⟨w.heap.size, 0, none⟩ = some (.int .i64 p) ∧ w'.cell? ⟨w.heap.size, 1, none⟩ = some (.int .i64 q) ∧ w'.cell? ⟨w.heap.size, 2, none⟩ = some (.slice A xs.length c)) (first | exact ⟨a0, a1, a2⟩ | exact ⟨a3, a4, a5⟩ | exact ⟨a6, a7, a8⟩ | exact ⟨cu_far a6, cu_far a7, cu_far a8⟩) ((first | (refine step_app_any _ rfl _ _ 33 rfl V.heap.size 4 i0 (.bool false) 1 Try.underlying33 hi hz0 hz1 hz2 rfl _ 0 [] rfl (World.ownsRow_made V #[] 0 (Nat.le_refl _) (Nat.zero_le _) rfl) A kk c (bl L) rfl (by rw [bl_len]; exact HLn.out) HA.out (fun ad had j u hu => HNV.out ad had j u hu) (cellsB L) (by unfold maxLen; omega) (by omega) (by simp) ?_; intro v' w1 hown hgrow; obtain ⟨Av, cv, rfl, hO, hC2, hB2⟩ := cu_step HC1.out HB.out HLn.out hown hgrow hzV; have HO := Lib.hid hO; have HC2 := Lib.hid hC2; have HB2 := Lib.hid hB2; clear hown hgrow hO hC2 hB2; obtain ⟨⟨a6, a7, a8⟩, ⟨r6, r7, r8⟩, ⟨e6, e7, e8⟩, hzV2⟩ := HC2.out)))
      obtain ⟨f0, f1, f2, hO3, hB3⟩ := cu_end (x := p) (y := q) HO.out HC2.out HB2.out hzV
      clear a0 a1 a2 a3 a4 a5 a6 a7 a8 r0 r1 r2 r3 r4 r5 r6 r7 r8 e0 e1 e2 e3 e4 e5 e6 e7 e8 HO HC2 HB2
      generalize ((w1.setCell ⟨w.heap.size + 1, 0, none⟩ (.int .i64 p)).setCell ⟨w.heap.size + 1, 1, none⟩ (.int .i64 q)).setCell ⟨w.heap.size + 1, 2, none⟩ (.slice Av kk cv) = W3 at *
      go_wp2_with fail
      exact bodyPost_ret (v := .tuple #[.agg #[.int .i64 p, .int .i64 q, .slice Av kk cv], .bool true]) (by simp [results, Try.results39, go_sem, f0, f1, f2]) rfl (by rw [(cu_yes HG.out).1, (cu_yes HG.out).2.1, HR.out, HG.out]; exact ⟨_, rfl, hO3, hB3⟩)
    · have HG := Lib.hid (show cuG p q xs k = false by unfold cuG; rw [t1, decide_eq_false hk]; rfl)
      clear t1
      skip
      skip
      skip
      by_cases hk0 : k < 0
      all_goals (try (have hk3 : 0 ≤ k := by omega)); all_goals (try (have hk4 : (xs.length : Int) < k := by omega)); all_goals clear hk
      all_goals
        go_wp2_with fail
        exact bodyPost_ret (v := .tuple #[.agg #[.int .i64 0, .int .i64 0, .slice none 0 0], .bool false]) (by simp [results, Try.results39, go_sem, r0, r1, r2]) rfl (by rw [(cu_no HG.out).1, (cu_no HG.out).2.1, (cu_no HG.out).2.2, HG.out]; exact retCd_no _ _ (((HB.out.setCell (p := ⟨w.heap.size + 1, 0, none⟩) (by simp) (.int .i64 0)).setCell (p := ⟨w.heap.size + 1, 1, none⟩) (by simp) (.int .i64 0)).setCell (p := ⟨w.heap.size + 1, 2, none⟩) (by simp) (.slice none 0 0)))
end Go.Proofs.Ytdlginbmelbfgaa
