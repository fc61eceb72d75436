/-
  Contracts: clones, and lists less other ones, of the program.
-/
import Derived.Test.YthkklilfignmpaaAp
import Derived.Test.YthkklilfignmpaaBox
namespace Go.Proofs.Ythkklilfignmpaa
open Go.RowKit Fl
set_option linter.unusedVariables false

/-- One number of a list of the call's own is written. -/
theorem Own.put {w : World} {lo b off n c : Nat} {xs : List Value} (h : Own w lo (.slice (some ⟨b, off, none⟩) n c) xs) (k : Nat) (hk : k < n) (x : Value) :
    Own (w.setCell ⟨b, off + k, none⟩ x) lo (.slice (some ⟨b, off, none⟩) n c) (xs.set k x) := by
  obtain ⟨A, c', hv, h1, h2, h3⟩ := h
  simp only [Value.slice.injEq] at hv
  obtain ⟨rfl, rfl, rfl⟩ := hv
  obtain ⟨b', off', e, hlo, hb, hc, hf⟩ := h3 (by omega)
  cases e
  refine ⟨_, _, by simp, by simpa using h1, h2, fun hp => ⟨b, off, rfl, hlo, by simpa [World.setCell] using hb, fun i y hy => ?_, fun i hi => ?_⟩⟩
  · by_cases hik : i = k
    · subst hik
      have hlt : i < xs.length := hk
      rw [List.getElem?_set_self hlt] at hy
      cases hy
      exact World.cell?_setCell_same _ _ _ (hc i _ (List.getElem?_eq_getElem hlt))
    · rw [List.getElem?_set_ne (by omega)] at hy
      rw [World.cell?_setCell_other _ _ _ _ (fun e => by simp only [Addr.mk.injEq] at e; omega)]
      exact hc i y hy
  · rw [World.frozen?_setCell]; exact hf i (by simpa using hi)

theorem rset {α : Type} {f g : Nat → α} {n p : Nat} {x : α} (hp : p < n) (hx : g p = x) (h : ∀ i, i < n → i ≠ p → f i = g i) : ((List.range n).map f).set p x = (List.range n).map g := by
  apply List.ext_getElem?
  intro i
  rw [List.getElem?_set]
  by_cases hi : p = i
  · subst hi; simp [hp, hx]
  · rw [if_neg hi]
    by_cases hn : i < n
    · simp [hn, h i hn (fun e => hi e.symm)]
    · simp [hn]
set_option maxHeartbeats 1000000 in
theorem cloneF_any (a : Addr) (c : Nat) (xs : List Nat) (w : World) (h : Rd w w.heap.size (.slice (some a) xs.length c) (fl xs)) (hm : xs.length ≤ 1048576) :
    Calls Try.prog 161 #[.slice (some a) xs.length c] w (RetF1 xs w) := by
  obtain ⟨i0, hi, hz0, hz1, hz2⟩ := info_parts infoF
  obtain ⟨A, c', hv, hc1, hc2, hcell⟩ := id h
  rw [fl_len] at hv hc1 hcell
  have hcl : ∀ j u, (fl xs)[j]? = some u → (w.alloc (Obj.cells #[] 23)).cell? (a.add j) = some u := by
    intro j u hu
    have hj := (List.getElem?_eq_some_iff.1 hu).1
    rw [fl_len] at hj
    obtain ⟨b, off, e, hb, hcc⟩ := hcell (by omega)
    simp only [Value.slice.injEq] at hv
    obtain ⟨e1, _, _⟩ := hv
    rw [e] at e1
    cases e1
    rw [Go.WideShapes.add_plain]
    exact (((Below.refl _ _).alloc (Nat.le_refl _) _).cell (p := ⟨b, off + j, none⟩) hb).trans (hcc j u hu)
  have hown : (w.alloc (Obj.cells #[] 23)).ownsRow w.heap.size 23 1 (.slice (some ⟨w.heap.size, 0, none⟩) 0 0) 0 (fl []) := World.ownsRow_made w #[] 0 (Nat.le_refl _) (Nat.zero_le _) rfl
  have hb0 : Below w.heap.size w (w.alloc (Obj.cells #[] 23)) := (Below.refl _ _).alloc (Nat.le_refl _) _
  have hnil : ∀ (W : World), (binOp .eql 22 (.slice (some a) xs.length c) (.slice none 0 0)).run Try.prog W = .ok (.bool false) W := fun W => Lib.run_eql_slice_nil W _ _ (some a) _ _ _ _ Try.underlying22
  clear hv hc1 hcell
  go_enter Try.func161, Try.ntmps161
  go_wp2_with (at_builtin; refine wpList_append_own _ rfl _ _ 22 rfl w.heap.size 23 i0 (.float .f32 0) 1 4 Try.underlying22 hi hz0 hz1 hz2 rfl (by decide) _ _ _ rfl hown a xs.length c (fl xs) rfl (by rw [fl_len]; omega) hcl (cellsF xs) (by unfold maxLen; omega) (by omega) (by simp) ?_; intro v' w1 hown' hgrow _)
  go_ret
  refine ⟨_, rfl, ?_, hb0.grown hgrow (by simp) (fun j hj => (hown.lt j hj).1)⟩
  have := Own.row hown'
  simpa [fl] using this


/-- The list less another one, below k. -/
def dfA (xs ys : List Nat) (k i : Nat) : Nat := if i < k then ar .sub .f32 (xs.getD i 0) (ys.getD i 0) else xs.getD i 0
def dfK (xs ys : List Nat) (k : Nat) : List Nat := (List.range xs.length).map (dfA xs ys k)
def dfL (xs ys : List Nat) : List Nat := (List.range xs.length).map fun i => ar .sub .f32 (xs.getD i 0) (ys.getD i 0)
theorem dfL_len (xs ys : List Nat) : (dfL xs ys).length = xs.length := by simp [dfL]
theorem dfL_get (xs ys : List Nat) (k : Nat) (h1 : k < xs.length) (h2 : k < ys.length) : (dfL xs ys)[k]'(by rw [dfL_len]; exact h1) = ar .sub .f32 xs[k] ys[k] := by simp [dfL, h1, h2]
theorem dfK_len (xs ys : List Nat) (k : Nat) : (dfK xs ys k).length = xs.length := by simp [dfK]
theorem dfK_zero (xs ys : List Nat) : dfK xs ys 0 = xs := by
  apply List.ext_getElem?
  intro i
  unfold dfK dfA
  by_cases h : i < xs.length
  · simp [h]
  · simp [h]
theorem dfK_all (xs ys : List Nat) : dfK xs ys xs.length = dfL xs ys := by
  unfold dfK dfL
  apply List.map_congr_left
  intro i hi
  unfold dfA
  rw [if_pos (List.mem_range.1 hi)]
theorem dfK_at (xs ys : List Nat) (k : Nat) (h : k < xs.length) : (fl (dfK xs ys k))[k]? = some (.float .f32 xs[k]) := by
  have : dfA xs ys k k = xs[k] := by unfold dfA; rw [if_neg (by omega)]; simp [h]
  simp only [fl, dfK, List.getElem?_map, List.getElem?_range h, Option.map_some, this]
theorem dfK_step (xs ys : List Nat) (k : Nat) (h1 : k < xs.length) (h2 : k < ys.length) : (fl (dfK xs ys k)).set k (.float .f32 (ar .sub .f32 xs[k] ys[k])) = fl (dfK xs ys (k + 1)) := by
  rw [fl_set]
  congr 1
  unfold dfK
  refine rset h1 ?_ (fun i hi hne => ?_)
  · unfold dfA; rw [if_pos (by omega)]; simp [h1, h2]
  · unfold dfA
    by_cases h3 : i < k
    · rw [if_pos h3, if_pos (by omega)]
    · rw [if_neg h3, if_neg (by omega)]
def DfRel (w0 : World) (lo b off c : Nat) (xs ys : List Nat) (i : Value) (wr : World) : Prop :=
  ∃ k : Nat, k ≤ xs.length ∧ i = .int .i64 k ∧ Own wr lo (.slice (some ⟨b, off, none⟩) xs.length c) (fl (dfK xs ys k)) ∧ Below lo w0 wr
set_option maxRecDepth 100000 in
set_option maxHeartbeats 2000000 in
theorem dfI_any (va vb : Value) (xs ys : List Nat) (w : World) (ha : Rd w w.heap.size va (fl xs)) (hb : Rd w w.heap.size vb (fl ys)) (hl : ys.length = xs.length) (h1 : 1 ≤ xs.length) (hm : xs.length ≤ 1048576) (hfa : finA xs = true) (hfb : finA ys = true) :
    Calls Try.prog 118 #[va, vb] w (RetF1 (dfL xs ys) w) := by
  have RA := Lib.hid ha
  have RB := Lib.hid hb
  obtain ⟨A, c, ea, q1, q2, q3⟩ := id ha
  obtain ⟨A', c', eb, q4, q5, q6⟩ := id hb
  rw [fl_len] at ea q1 q3 eb q4 q6
  rw [hl] at eb
  subst ea eb
  obtain ⟨ba, oa, rfl, hba, hca⟩ := q3 (by omega)
  obtain ⟨bb, ob, rfl, hbb, hcb⟩ := q6 (by omega)
  have HC := Lib.hid (cloneF_any _ c xs w ha hm)
  have HCB := Lib.hid hcb
  have HL := Lib.hid hl
  have hsf : ∀ (a : Addr) (x : Nat) (w : World), (store a (.float .f32 x)).run Try.prog w = stored Try.prog w a (.float .f32 x) .plain := fun a x w => run_store _ w a _ _ rfl
  clear ha hb q3 q6 hca hcb hl
  go_enter Try.func118, Try.ntmps118
  go_wp2_with fail
  refine HC.out.mono ?_
  rintro e w1 ⟨v1, rfl, ho1, hb1⟩
  have HB1 := Lib.hid hb1
  obtain ⟨A2, c2, e2, r1, r2, r3⟩ := id ho1
  rw [fl_len] at e2 r1 r3
  obtain ⟨b2, o2, rfl, rlo, rbw, _⟩ := r3 (by omega)
  subst e2
  clear r3 hb1 HC
  have HO1 := Lib.hid (show Own w1 w.heap.size (.slice (some ⟨b2, o2, none⟩) xs.length c2) (fl (dfK xs ys 0)) by rw [dfK_zero]; exact ho1)
  clear ho1
  go_wp2_with fail
  go_loopw [12] (DfRel w1 w.heap.size b2 o2 c2 xs ys) (fun i _ => xs.length - (intOf i).toNat)
  case atStart => exact ⟨0, by omega, rfl, HO1.out, Below.refl _ _⟩
  case round =>
    obtain ⟨k, hk, rfl, ho, hbn⟩ := hrel
    by_cases hlt : k < xs.length
    · have hlt2 : k < ys.length := by have := HL.out; omega
      obtain ⟨hlo, hbw, hc, hf⟩ := ho.cells' (by omega)
      have hd1 := hc k _ (dfK_at xs ys k hlt)
      have hf1 := hf k hlt
      have HBB := Lib.hid (HB1.out.trans (hbn.mono (Nat.le_refl _)))
      have hd2 : wr.cell? ⟨bb, ob + k, none⟩ = some (.float .f32 ys[k]) := (HBB.out.cell (p := ⟨bb, ob + k, none⟩) hbb).trans (HCB.out k _ (fl_get ys k hlt2))
      have hbw2 : bb < wr.heap.size := by have := HBB.out.size; omega
      have hn := ho.put k hlt (.float .f32 (ar .sub .f32 xs[k] ys[k]))
      rw [dfK_step xs ys k hlt hlt2] at hn
      have HO := Lib.hid hn
      have HLO := Lib.hid hlo
      have HBN := Lib.hid hbn
      have HS := Lib.hid (dif_nums (finA_out hfa k hlt) (finA_out hfb k hlt2))
      have z1 : (k : Int) < (xs.length : Int) := by omega
      clear hn hc hf ho hlo hbn
      generalize xs[k] = x at *
      generalize ys[k] = y at *
      go_wp2_with (refine up_ar (op := .sub) rfl ?_; intro r n hr; have hre := is_eq hr HS.out; clear hr; subst hre)
      go_roundw
      case rel => exact ⟨k + 1, by omega, by go_num, HO.out.drewN _, below_drawn (HBN.out.setCell (p := ⟨b2, o2 + k, none⟩) HLO.out _) _⟩
      case measure => simp [intOf]; omega
    · obtain rfl : k = xs.length := by omega
      rw [dfK_all] at ho
      go_wp2_with fail
      go_ret
      exact ⟨_, rfl, ho, HB1.out.trans hbn⟩
end Go.Proofs.Ythkklilfignmpaa
