/-
  Contracts: parts of rings and what they are split into, of the program's side.
-/
import Derived.Test.YthkklilfignmpaaTp
import Derived.Test.YthkklilfignmpaaHj
import Derived.Test.YthkklilfignmpaaLng
import Derived.Laws.MakeOwn
namespace Go.Proofs.Ythkklilfignmpaa
open Go.RowKit Fl
set_option linter.unusedVariables false

theorem run_mkN {P : Program} (t e : TypeId) (i : TypeInfo) (z : Value) (ht : P.underlying t = some (.slice e)) (hi : P.info? e = some i) (hz : i.zero = some z)
    (n : Nat) (hbytes : i.bytes * n ≤ 281474976710656) (h63 : n ≤ 9223372036854775807) (w : World) :
    (Instr.makeSlice t (.int .i64 (n : Int)) (.int .i64 (n : Int))).run P w = .ok (.slice (some ⟨w.heap.size, 0, none⟩) n n) (w.alloc (.cells (madeCells z.cells (n * i.size)) e)) := by
  have hb : (i.bytes : Int) * (n : Int) ≤ 281474976710656 := by
    have h : ((i.bytes * n : Nat) : Int) ≤ 281474976710656 := by omega
    rwa [Int.natCast_mul] at h
  have hr := run_make (P := P) w t e i z ht hi hz .i64 .i64 n n (by omega) (by omega) hb (by omega)
  simp only [Int.toNat_natCast] at hr
  exact hr
/-- The first k numbers of a part of a ring, and zeros. -/
def rpX (list : List Nat) (j m k : Nat) : List Nat := (List.range m).map fun i => if i < k then list.getD ((2 * j + i) % list.length) 0 else 0
theorem rpX_zero (list : List Nat) (j m : Nat) : rpX list j m 0 = List.replicate m 0 := by
  apply List.ext_getElem?
  intro i
  by_cases hi : i < m
  · simp [rpX, hi]
  · simp [rpX, hi]
theorem rpX_all (list : List Nat) (j m : Nat) : rpX list j m m = rpL list j m := by
  unfold rpX rpL
  apply List.map_congr_left
  intro i hi
  rw [if_pos (List.mem_range.1 hi)]
theorem rpX_len (list : List Nat) (j m k : Nat) : (rpX list j m k).length = m := by simp [rpX]
theorem rpX_set (list : List Nat) (j m k q : Nat) (hk : k < m) (hq : q = (2 * j + k) % list.length) : (fl (rpX list j m k)).set k (.float .f32 (list.getD q 0)) = fl (rpX list j m (k + 1)) := by
  rw [fl_set]
  congr 1
  unfold rpX
  refine rset hk ?_ (fun i hi hne => ?_)
  · rw [if_pos (by omega), hq]
  · by_cases h2 : i < k
    · rw [if_pos h2, if_pos (by omega)]
    · rw [if_neg h2, if_neg (by omega)]
def RpRel (w0 : World) (list : List Nat) (j m g : Nat) (i : Value) (wr : World) : Prop :=
  ∃ k : Nat, k ≤ m ∧ i = .int .i64 k ∧ wr.ownsRow w0.heap.size 23 1 (.slice (some ⟨g, 0, none⟩) m m) m (fl (rpX list j m k)) ∧ Below w0.heap.size w0 wr
set_option maxRecDepth 100000 in
set_option maxHeartbeats 2000000 in
theorem rpI_any (v : Value) (list : List Nat) (j m : Nat) (w : World) (h : Rd w w.heap.size v (fl list)) (h1 : 1 ≤ list.length) (h2 : list.length ≤ 128) (hj : 2 * j ≤ 128) (hm : m ≤ 8) :
    Calls Try.prog 136 #[v, .int .i64 (2 * (j : Int)), .int .i64 m] w (RetF1 (rpL list j m) w) := by
  obtain ⟨i0, hi, hz0, hz1, hz2⟩ := info_parts infoF
  obtain ⟨A, c, hv, hc1, hc2, hca⟩ := h
  rw [fl_len] at hv hc1 hca
  subst hv
  obtain ⟨b, off, rfl, hbl, hcc⟩ := hca (by omega)
  have HCC := Lib.hid hcc
  clear hca hcc hc1 hc2
  have hsf : ∀ (a : Addr) (x : Nat) (w : World), (store a (.float .f32 x)).run Try.prog w = stored Try.prog w a (.float .f32 x) .plain := fun a x w => run_store _ w a _ _ rfl
  go_enter Try.func136, Try.ntmps136
  go_wp2_with (refine wpList_make_full _ rfl _ _ 22 rfl w.heap.size 23 i0 (.float .f32 0) 1 Try.underlying22 hi hz0 hz1 .i64 .i64 _ _ m rfl rfl rfl rfl (by rw [hz2]; omega) (by unfold maxLen; omega) (Nat.le_refl _) ?_; intro w1 hown hgrow)
  have hb1 : Below w.heap.size w w1 := (Below.refl _ _).grown hgrow (Nat.le_refl _) (fun _ h => by cases h)
  have hown1 : w1.ownsRow w.heap.size 23 1 (.slice (some ⟨w.heap.size, 0, none⟩) m m) m (fl (rpX list j m 0)) := by
    rw [rpX_zero]
    have e : (madeCells (Value.cells (.float .f32 0)) (m * 1)).toList = fl (List.replicate m 0) := by
      rw [Nat.mul_one]
      show (madeCells #[Value.float .f32 0] m).toList = _
      rw [toList_madeCells_one]; simp [fl]
    rw [← e]; exact hown
  clear hown hgrow
  go_loopw [13] (RpRel w list j m w.heap.size) (fun i _ => m - (intOf i).toNat)
  case atStart => exact ⟨0, Nat.zero_le _, rfl, hown1, hb1⟩
  case round =>
    obtain ⟨k, hk, rfl, hown, hb⟩ := hrel
    clear hown1 hb1
    by_cases hlt : k < m
    · obtain ⟨q, hq⟩ : ∃ q : Nat, q = (2 * j + k) % list.length := ⟨_, rfl⟩
      have hql : q < list.length := by rw [hq]; exact Nat.mod_lt _ (by omega)
      have hqi : (2 * (j : Int) + (k : Int)).tmod (list.length : Int) = (q : Int) := by
        rw [show (2 * (j : Int) + (k : Int)) = ((2 * j + k : Nat) : Int) by omega, tmodN, hq]
      have hs2 : wr.cell? ⟨b, off + q, none⟩ = some (.float .f32 (list.getD q 0)) := by
        rw [(hb.cell (p := ⟨b, off + q, none⟩) hbl).trans (HCC.out q _ (fl_get list q hql))]
        simp [List.getD, hql]
      have hlen : (fl (rpX list j m k)).length = m := by rw [fl_len, rpX_len]
      obtain ⟨x0, hdst⟩ : ∃ x0, wr.cell? ⟨w.heap.size, k, none⟩ = some x0 :=
        ⟨(fl (rpX list j m k))[k]'(by omega), by rw [hown.cellAt k (by omega)]; exact List.getElem?_eq_getElem _⟩
      have hfz : wr.frozen? ⟨w.heap.size, k, none⟩ = false := hown.frozenAt k
      have hst := (hown.stored k (.float .f32 (list.getD q 0))).1
      rw [rpX_set list j m k q hlt hq] at hst
      have HO := Lib.hid hst
      have HB := Lib.hid (show Below w.heap.size w (wr.setCell ⟨w.heap.size, k, none⟩ (.float .f32 (list.getD q 0))) from hb.setCell (Nat.le_refl _) _)
      have z2 : (q : Int) < (list.length : Int) := by omega
      have hne : ¬ list = [] := by intro hh; rw [hh] at h1; simp at h1
      have hw2 : IntKind.i64.wrap (2 * (j : Int) + (k : Int)) = 2 * (j : Int) + (k : Int) := by rw [IntKind.wrap_i64]; omega
      clear hst hown hb hq hlen
      generalize list.getD q 0 = x at *
      go_wp2
      go_roundw
      case rel => exact ⟨k + 1, by omega, by go_num, HO.out, HB.out⟩
      case measure => simp [intOf]; omega
    · obtain rfl : k = m := by omega
      rw [rpX_all] at hown
      go_wp2
      go_ret
      exact ⟨_, rfl, Own.row hown, hb⟩

end Go.Proofs.Ythkklilfignmpaa
