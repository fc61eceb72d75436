/-
  Contracts: the other numbers of a pair, of the program's side.
-/
import Derived.Test.YthkklilfignmpaaHi
namespace Go.Proofs.Ythkklilfignmpaa
open Go.RowKit Fl
set_option linter.unusedVariables false

set_option maxHeartbeats 1000000 in
theorem cloneF_any (a : Addr) (c : Nat) (xs : List Nat) (w : World) (h : Rd w w.heap.size (.slice (some a) xs.length c) (fl xs)) (hm : xs.length ≤ 1048576) :
    Calls Try.prog 161 #[.slice (some a) xs.length c] w (RetF1 xs w) := by
  obtain ⟨i0, hi, hz0, hz1, hz2⟩ := info_parts infoF
  obtain ⟨A, c', hv, hc1, hc2, hcell⟩ := id h
  rw [fl_len] at hv hc1 hcell
  have hcl : ∀ j u, (fl xs)[j]? = some u → (w.alloc (Obj.cells #[] 23)).cell? (a.add j) = some u := by
    intro j u hu
    have hj := (List.getElem?_eq_some_iff.1 hu).1
    rw [fl_len] at hj
    obtain ⟨b, off, e, hb, hcc⟩ := hcell (by omega)
    simp only [Value.slice.injEq] at hv
    obtain ⟨e1, _, _⟩ := hv
    rw [e] at e1
    cases e1
    rw [Go.WideShapes.add_plain]
    exact (((Below.refl _ _).alloc (Nat.le_refl _) _).cell (p := ⟨b, off + j, none⟩) hb).trans (hcc j u hu)
  have hown : (w.alloc (Obj.cells #[] 23)).ownsRow w.heap.size 23 1 (.slice (some ⟨w.heap.size, 0, none⟩) 0 0) 0 (fl []) := World.ownsRow_made w #[] 0 (Nat.le_refl _) (Nat.zero_le _) rfl
  have hb0 : Below w.heap.size w (w.alloc (Obj.cells #[] 23)) := (Below.refl _ _).alloc (Nat.le_refl _) _
  have hnil : ∀ (W : World), (binOp .eql 22 (.slice (some a) xs.length c) (.slice none 0 0)).run Try.prog W = .ok (.bool false) W := fun W => Lib.run_eql_slice_nil W _ _ (some a) _ _ _ _ Try.underlying22
  clear hv hc1 hcell
  go_enter Try.func161, Try.ntmps161
  go_wp2_with (at_builtin; refine wpList_append_own _ rfl _ _ 22 rfl w.heap.size 23 i0 (.float .f32 0) 1 4 Try.underlying22 hi hz0 hz1 hz2 rfl (by decide) _ _ _ rfl hown a xs.length c (fl xs) rfl (by rw [fl_len]; omega) hcl (cellsF xs) (by unfold maxLen; omega) (by omega) (by simp) ?_; intro v' w1 hown' hgrow _)
  go_ret
  refine ⟨_, rfl, ?_, hb0.grown hgrow (by simp) (fun j hj => (hown.lt j hj).1)⟩
  have := Own.row hown'
  simpa [fl] using this

/-- The first k and the last k numbers have changed places. -/
def rvA (xs : List Nat) (k i : Nat) : Nat := if i < k ∨ xs.length ≤ i + k then xs.getD (xs.length - 1 - i) 0 else xs.getD i 0
def rvK (xs : List Nat) (k : Nat) : List Nat := (List.range xs.length).map (rvA xs k)
theorem rvK_len (xs : List Nat) (k : Nat) : (rvK xs k).length = xs.length := by simp [rvK]
theorem rvK_zero (xs : List Nat) : rvK xs 0 = xs := by
  apply List.ext_getElem?
  intro i
  by_cases hi : i < xs.length
  · have : ¬ (i < 0 ∨ xs.length ≤ i + 0) := by omega
    simp [rvK, rvA, hi]
    intro hh; omega
  · simp [rvK, hi]
theorem rvK_at (xs : List Nat) (k i : Nat) (hi : i < xs.length) : (fl (rvK xs k))[i]? = some (.float .f32 (rvA xs k i)) := by simp [fl, rvK, hi]
theorem rvK_step (xs : List Nat) (k q : Nat) (hq : q = xs.length - 1 - k) (h : 2 * k + 1 < xs.length) : ((fl (rvK xs k)).set k (.float .f32 (xs.getD q 0))).set q (.float .f32 (xs.getD k 0)) = fl (rvK xs (k + 1)) := by
  rw [fl_set, fl_set]
  congr 1
  have e1 : (rvK xs k).set k (xs.getD q 0) = (List.range xs.length).map fun i => if i = k then xs.getD q 0 else rvA xs k i := by
    unfold rvK
    exact rset (by omega) (by simp) (fun i hi hne => by rw [if_neg hne])
  rw [e1]
  unfold rvK
  refine rset (by omega) ?_ (fun i hi hne => ?_)
  · unfold rvA
    rw [if_pos (by omega), show xs.length - 1 - q = k by omega]
  · by_cases hk : i = k
    · subst hk
      rw [if_pos rfl]
      unfold rvA
      rw [if_pos (by omega), hq]
    · rw [if_neg hk]
      unfold rvA
      by_cases h2 : i < k ∨ xs.length ≤ i + k
      · rw [if_pos h2, if_pos (by omega)]
      · rw [if_neg h2, if_neg (by omega)]
def rvF (xs : List Nat) : List Nat := (List.range xs.length).map fun i => xs.getD (xs.length - 1 - i) 0
theorem rvK_all (xs : List Nat) (k : Nat) (h : xs.length ≤ 2 * k + 1) : rvK xs k = rvF xs := by
  unfold rvK rvF
  apply List.map_congr_left
  intro i hi
  have hi' := List.mem_range.1 hi
  unfold rvA
  by_cases h2 : i < k ∨ xs.length ≤ i + k
  · rw [if_pos h2]
  · rw [if_neg h2, show xs.length - 1 - i = i by omega]
def RvRel (w0 : World) (lo b off c : Nat) (xs : List Nat) (i j : Value) (wr : World) : Prop :=
  ∃ k : Nat, 2 * k ≤ xs.length ∧ i = .int .i64 k ∧ j = .int .i64 ((xs.length : Int) - 1 - k) ∧ Own wr lo (.slice (some ⟨b, off, none⟩) xs.length c) (fl (rvK xs k)) ∧ Below lo w0 wr
def RetRv (lo b off c : Nat) (xs : List Nat) (w : World) (e : Ending) (w' : World) : Prop := e = .returned (.tuple #[]) ∧ Own w' lo (.slice (some ⟨b, off, none⟩) xs.length c) (fl (rvF xs)) ∧ Below lo w w'
set_option maxHeartbeats 2000000 in
theorem rvI_any (lo b off c : Nat) (xs : List Nat) (w : World) (h : Own w lo (.slice (some ⟨b, off, none⟩) xs.length c) (fl xs)) (h2 : 2 ≤ xs.length) (h8 : xs.length ≤ 8) :
    Calls Try.prog 172 #[.slice (some ⟨b, off, none⟩) xs.length c] w (RetRv lo b off c xs w) := by
  have hsf : ∀ (a : Addr) (x : Nat) (w : World), (store a (.float .f32 x)).run Try.prog w = stored Try.prog w a (.float .f32 x) .plain := fun a x w => run_store _ w a _ _ rfl
  go_enter Try.func172, Try.ntmps172
  go_wp2
  go_loopw [2, 3] (RvRel w lo b off c xs) (fun i _ _ => xs.length - (intOf i).toNat)
  case atStart => exact ⟨0, by omega, rfl, by simp, by rw [rvK_zero]; exact h, Below.refl _ _⟩
  case round =>
    clear h
    obtain ⟨k, hk, rfl, rfl, ho, hb⟩ := hrel
    by_cases hlt : 2 * k + 1 < xs.length
    · obtain ⟨q, hq⟩ : ∃ q : Nat, q = xs.length - 1 - k := ⟨_, rfl⟩
      have hqi : (xs.length : Int) - 1 - (k : Int) = (q : Int) := by omega
      obtain ⟨hlo, hbw, hc, hf⟩ := ho.cells' (by omega)
      have hd1 : wr.cell? ⟨b, off + k, none⟩ = some (.float .f32 (xs.getD k 0)) := by
        rw [hc k _ (rvK_at xs k k (by omega))]
        unfold rvA; rw [if_neg (by omega)]
      have hd2 : wr.cell? ⟨b, off + q, none⟩ = some (.float .f32 (xs.getD q 0)) := by
        rw [hc q _ (rvK_at xs k q (by omega))]
        unfold rvA; rw [if_neg (by omega)]
      have hf1 := hf k (by omega)
      have hf2 := hf q (by omega)
      have hn := ((ho.put k (by omega) (.float .f32 (xs.getD q 0))).put q (by omega) (.float .f32 (xs.getD k 0)))
      rw [rvK_step xs k q hq hlt] at hn
      have hbn : Below lo w ((wr.setCell ⟨b, off + k, none⟩ (.float .f32 (xs.getD q 0))).setCell ⟨b, off + q, none⟩ (.float .f32 (xs.getD k 0))) := (hb.setCell (p := ⟨b, off + k, none⟩) hlo _).setCell (p := ⟨b, off + q, none⟩) hlo _
      have HO := Lib.hid hn
      have HB := Lib.hid hbn
      have hkq : k < q := by omega
      have hql : q < xs.length := by omega
      have HK := Lib.hid (show 2 * (k + 1) ≤ xs.length ∧ (xs.length : Int) - 1 - ((k + 1 : Nat) : Int) = (q : Int) - 1 by omega)
      have z1 : (k : Int) < (q : Int) := by omega
      have z2 : (k : Int) < (xs.length : Int) := by omega
      have z3 : (q : Int) < (xs.length : Int) := by omega
      have hne : ¬ (off + q = off + k) := by omega
      clear hn hbn hc hf ho hb hq hlt hk
      generalize xs.getD k 0 = x at *
      generalize xs.getD q 0 = y at *
      go_wp2_with fail
      go_region
      all_goals
        clear hd1 hd2 hf1 hf2 hbw
        go_wp2
        go_roundw
        case rel => exact ⟨k + 1, HK.out.1, by go_num, by rw [HK.out.2], HO.out, HB.out.drew⟩
        case measure => simp [intOf]; omega
    · have HN := Lib.hid (rvK_all xs k (by omega))
      have hge : (xs.length : Int) - 1 - (k : Int) ≤ (k : Int) := by omega
      go_wp2
      go_end0
      exact ⟨rfl, by rw [← HN.out]; exact ho, hb⟩

def ngA (xs : List Nat) (k i : Nat) : Nat := if i % 2 = 1 ∧ i < k then ngF (xs.getD (xs.length - 1 - i) 0) else xs.getD (xs.length - 1 - i) 0
def ngK (xs : List Nat) (k : Nat) : List Nat := (List.range xs.length).map (ngA xs k)
theorem ngK_len (xs : List Nat) (k : Nat) : (ngK xs k).length = xs.length := by simp [ngK]
theorem ngK_one (xs : List Nat) : ngK xs 1 = rvF xs := by
  unfold ngK rvF
  apply List.map_congr_left
  intro i hi
  unfold ngA
  rw [if_neg (by omega)]
theorem ngK_at (xs : List Nat) (k : Nat) (h : k < xs.length) : (fl (ngK xs k))[k]? = some (.float .f32 (xs.getD (xs.length - 1 - k) 0)) := by
  have : ngA xs k k = xs.getD (xs.length - 1 - k) 0 := by unfold ngA; rw [if_neg (by omega)]
  simp only [fl, ngK, List.getElem?_map, List.getElem?_range h, Option.map_some, this]
theorem ngK_step (xs : List Nat) (k : Nat) (h : k < xs.length) (ho : k % 2 = 1) : (fl (ngK xs k)).set k (.float .f32 (Op.negFloat .f32 (xs.getD (xs.length - 1 - k) 0))) = fl (ngK xs (k + 2)) := by
  rw [fl_set]
  congr 1
  unfold ngK
  refine rset h ?_ (fun i hi hne => ?_)
  · unfold ngA; rw [if_pos (by omega)]; rfl
  · unfold ngA
    by_cases h2 : i % 2 = 1 ∧ i < k
    · rw [if_pos h2, if_pos (by omega)]
    · rw [if_neg h2, if_neg (by omega)]
theorem ngK_all (xs : List Nat) (k : Nat) (h : xs.length ≤ k) : ngK xs k = hiK xs xs.length := by
  unfold ngK hiK
  apply List.map_congr_left
  intro i hi
  have hi' := List.mem_range.1 hi
  unfold ngA hiA
  by_cases h2 : i % 2 = 1
  · rw [if_pos ⟨h2, by omega⟩, if_pos h2]
  · rw [if_neg (fun hh => h2 hh.1), if_neg h2]
def NgRel (w0 : World) (lo b off c : Nat) (xs : List Nat) (i : Value) (wr : World) : Prop :=
  ∃ k : Nat, k ≤ xs.length + 1 ∧ k % 2 = 1 ∧ i = .int .i64 k ∧ Own wr lo (.slice (some ⟨b, off, none⟩) xs.length c) (fl (ngK xs k)) ∧ Below lo w0 wr
set_option maxRecDepth 100000 in
set_option maxHeartbeats 2000000 in
theorem hioI_any (v : Value) (xs : List Nat) (w : World) (h : Rd w w.heap.size v (fl xs)) (hm : xs.length ≤ 1048576) (hx : ∀ x ∈ xs, x < 2 ^ 32) :
    Calls Try.prog 128 #[.agg #[v]] w (RetLF (hiR xs) (vpB xs) w) := by
  have hb2 : Below w.heap.size w (w.alloc (.cells #[v] 91)) := (Below.refl _ _).alloc (Nat.le_refl _) _
  have hcell : (w.alloc (.cells #[v] 91)).cell? ⟨w.heap.size, 0, none⟩ = some v := (cell_of_row _ _ _ _ _ _ (heap_alloc_new w _)).trans rfl
  have hz : w.heap.size < (w.alloc (.cells #[v] 91)).heap.size := by simp
  have hr := h.step hb2
  have HV := Lib.hid (vpI_any v xs _ hr hm hx)
  have HR := Lib.hid hr
  obtain ⟨A, c, hv, q1, q2, q3⟩ := id hr
  rw [fl_len] at hv q1 q3
  subst hv
  clear hx h hr
  have hsf : ∀ (a : Addr) (x : Nat) (w : World), (store a (.float .f32 x)).run Try.prog w = stored Try.prog w a (.float .f32 x) .plain := fun a x w => run_store _ w a _ _ rfl
  have hng : ∀ x, Op.unary .neg (.float .f32 x) = pure (.float .f32 (Op.negFloat .f32 x)) := fun _ => rfl
  cases hb : vpB xs with
  | true =>
    obtain ⟨k1, k2, k3, k4⟩ := vpB_len hb
    have HRR := Lib.hid (show hiR xs = hiK xs xs.length by unfold hiR; rw [hb]; rfl)
    rw [hb] at HV
    clear hb k4
    obtain ⟨b, off, rfl, hbl, hcc⟩ := q3 (by omega)
    clear q3 hcc
    go_enter Try.func128, Try.ntmps128
    go_wp2_with fail
    refine HV.out.mono ?_
    rintro e w1 ⟨rfl, hb3⟩
    have hc1 := (hb3.cell (p := ⟨w.heap.size, 0, none⟩) hz).trans hcell
    have HC := Lib.hid (cloneF_any _ c xs w1 (HR.out.step hb3) hm)
    have HB1 := Lib.hid (show Below w.heap.size w w1 from hb2.trans (hb3.mono hb2.size))
    clear hb3 hbl
    go_wp2_with fail
    refine HC.out.mono ?_
    rintro e w2 ⟨v2, rfl, ho2, hb4⟩
    have HB2 := Lib.hid (show Below w.heap.size w w2 from HB1.out.trans (hb4.mono HB1.out.size))
    have HZ := Lib.hid (show w.heap.size ≤ w1.heap.size from HB1.out.size)
    obtain ⟨A2, c2, hv2, r1, r2, r3⟩ := id ho2
    rw [fl_len] at hv2 r1 r3
    obtain ⟨bb, ob, rfl, rlo, rbw, _⟩ := r3 (by omega)
    subst hv2
    have HRV := Lib.hid (rvI_any w1.heap.size bb ob c2 xs w2 ho2 k1 k2)
    clear r3 ho2 hb4 hc1 HC
    go_wp2_with fail
    refine HRV.out.mono ?_
    rintro e w3 ⟨rfl, ho3, hb5⟩
    have HB3 := Lib.hid (show Below w.heap.size w w3 from HB2.out.trans (hb5.mono HZ.out))
    rw [← ngK_one] at ho3
    clear HRV hb5
    go_wp2_with fail
    go_loopw [5] (NgRel w3 w1.heap.size bb ob c2 xs) (fun i _ => xs.length - (intOf i).toNat)
    case atStart => exact ⟨1, by omega, rfl, rfl, ho3, Below.refl _ _⟩
    case round =>
      clear ho3
      obtain ⟨k, hk, hk2, rfl, ho, hbn⟩ := hrel
      by_cases hlt : k < xs.length
      · obtain ⟨hlo, hbw, hc, hf⟩ := ho.cells' (by omega)
        have hd1 := hc k _ (ngK_at xs k hlt)
        have hf1 := hf k hlt
        have hn := ho.put k hlt (.float .f32 (Op.negFloat .f32 (xs.getD (xs.length - 1 - k) 0)))
        rw [ngK_step xs k hlt hk2] at hn
        have HO := Lib.hid hn
        have HBN := Lib.hid (show Below w1.heap.size w3 (wr.setCell ⟨bb, ob + k, none⟩ (.float .f32 (Op.negFloat .f32 (xs.getD (xs.length - 1 - k) 0)))) from hbn.setCell (p := ⟨bb, ob + k, none⟩) hlo _)
        have HK := Lib.hid (show k + 2 ≤ xs.length + 1 ∧ (k + 2) % 2 = 1 by omega)
        have z1 : (k : Int) < (xs.length : Int) := by omega
        clear hn hc hf ho hbn hk2
        generalize xs.getD (xs.length - 1 - k) 0 = x at *
        go_wp2
        go_roundw
        case rel => exact ⟨k + 2, HK.out.1, HK.out.2, by go_num, HO.out, HBN.out⟩
        case measure => simp [intOf]; omega
      · have HN := Lib.hid (ngK_all xs k (by omega))
        have hge : xs.length ≤ k := by omega
        go_wp2
        go_ret2
        exact ⟨_, rfl, by rw [HRR.out, ← HN.out]; exact ho.less HZ.out, HB3.out.trans (hbn.mono HZ.out)⟩
  | false =>
    have HRR := Lib.hid (show hiR xs = [] by unfold hiR; rw [hb]; rfl)
    rw [hb] at HV
    clear hb q3
    go_enter Try.func128, Try.ntmps128
    go_wp2_with fail
    refine HV.out.mono ?_
    rintro e w1 ⟨rfl, hb3⟩
    go_wp2_with fail
    go_ret2
    exact ⟨_, rfl, by rw [HRR.out]; exact own_nilF _ _, hb2.trans (hb3.mono hb2.size)⟩
end Go.Proofs.Ythkklilfignmpaa
