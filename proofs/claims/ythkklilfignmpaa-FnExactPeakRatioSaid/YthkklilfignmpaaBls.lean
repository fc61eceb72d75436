/-
  Contracts: the law's own copies, comparisons and marks of lists of bools.
-/
import Derived.Test.YthkklilfignmpaaLi
import Derived.Test.YthkklilfignmpaaMem
import Derived.WalkKit
import Derived.OwnWalk
import Derived.Handy
import Derived.KernelRfl
import Derived.Lib.Hide
import Derived.Deep.QuietTactic
import Derived.BigQuiet
namespace Go.Proofs.Ythkklilfignmpaa
open Go.RowKit
set_option linter.unusedVariables false

def bl (xs : List Bool) : List Value := xs.map .bool
theorem bl_len (xs : List Bool) : (bl xs).length = xs.length := by simp [bl]
theorem bl_get (xs : List Bool) (k : Nat) (h : k < xs.length) : (bl xs)[k]? = some (.bool xs[k]) := by simp [bl, h]
theorem bl_set (xs : List Bool) (k : Nat) (x : Bool) : (bl xs).set k (.bool x) = bl (xs.set k x) := by simp [bl, List.map_set]

theorem infoB : (Try.prog.info? 4).map (fun i => (i.zero, i.size, i.bytes)) = some (some (.bool false), 1, 1) := by kernel_rfl
/-- What has been copied after k rounds. -/
def cpB (xs : List Bool) (k : Nat) : List Bool := xs.take k ++ List.replicate (xs.length - k) false
theorem cpB_zero (xs : List Bool) : cpB xs 0 = List.replicate xs.length false := by simp [cpB]
theorem cpB_all (xs : List Bool) : cpB xs xs.length = xs := by simp [cpB]
theorem cpB_succ (xs : List Bool) (k : Nat) (h : k < xs.length) : (cpB xs k).set k (xs[k]) = cpB xs (k + 1) := by
  unfold cpB
  apply List.ext_getElem?
  intro i
  rw [List.getElem?_set]
  by_cases h1 : k = i
  · subst h1
    have hl : k < (List.take k xs ++ List.replicate (xs.length - k) false).length := by simp; omega
    rw [if_pos rfl, if_pos hl, List.getElem?_append_left (by simp; omega), List.getElem?_take, if_pos (by omega), List.getElem?_eq_getElem h]
  · rw [if_neg h1]
    by_cases h2 : i < k
    · rw [List.getElem?_append_left (by simp; omega), List.getElem?_append_left (by simp; omega), List.getElem?_take, List.getElem?_take, if_pos (by omega), if_pos (by omega)]
    · rw [List.getElem?_append_right (by simp; omega), List.getElem?_append_right (by simp; omega)]
      simp only [List.length_take, List.getElem?_replicate]
      have e1 : min k xs.length = k := by omega
      have e2 : min (k + 1) xs.length = k + 1 := by omega
      rw [e1, e2]
      by_cases h3 : i < xs.length
      · rw [if_pos (by omega), if_pos (by omega)]
      · rw [if_neg (by omega), if_neg (by omega)]

/-- A new slice that reads as xs, all of it the call's own. -/
def MadeB (w : World) (xs : List Bool) (e : Ending) (w' : World) : Prop :=
  ∃ g, e = .returned (.slice (some ⟨g, 0, none⟩) xs.length xs.length) ∧ Own w' w.heap.size (.slice (some ⟨g, 0, none⟩) xs.length xs.length) (bl xs) ∧ Below w.heap.size w w'
def CpRelB (w : World) (xs : List Bool) (g : Nat) (i : Value) (wr : World) : Prop :=
  ∃ k : Nat, k ≤ xs.length ∧ i = .int .i64 k ∧ wr.ownsRow w.heap.size 4 1 (.slice (some ⟨g, 0, none⟩) xs.length xs.length) xs.length (bl (cpB xs k)) ∧ Below w.heap.size w wr

set_option maxHeartbeats 1000000 in
theorem toB_any (v : Value) (xs : List Bool) (w : World) (B : Nat) (h0 : Rd w B v (bl xs)) (hB : B ≤ w.heap.size) (hm : xs.length ≤ 1048576) :
    Calls Try.prog 141 #[v] w (MadeB w xs) := by
  obtain ⟨i0, hi, hz0, hz1, hz2⟩ := info_parts infoB
  have h := h0.more hB
  clear h0 hB
  have hR := Lib.hid h
  obtain ⟨A, c, hv, hc1, hc2, hcell⟩ := h
  rw [bl_len] at hv hc1 hcell
  subst hv
  have hC := Lib.hid hcell
  clear hcell
  go_enter Try.func141, Try.ntmps141
  go_wp2_with (refine wpList_make_full _ rfl _ _ 28 rfl w.heap.size 4 i0 (.bool false) 1 Try.underlying28 hi hz0 hz1 .i64 .i64 _ _ xs.length rfl rfl rfl rfl (by rw [hz2]; omega) (by unfold maxLen; omega) (Nat.le_refl _) ?_; intro w1 hown hgrow)
  have hb1 : Below w.heap.size w w1 := (Below.refl _ _).grown hgrow (Nat.le_refl _) (fun _ h => by cases h)
  have hown1 : w1.ownsRow w.heap.size 4 1 (.slice (some ⟨w.heap.size, 0, none⟩) xs.length xs.length) xs.length (bl (cpB xs 0)) := by
    rw [cpB_zero]
    have e : (madeCells (Value.cells (.bool false)) (xs.length * 1)).toList = bl (List.replicate xs.length false) := by
      rw [Nat.mul_one]
      show (madeCells #[Value.bool false] xs.length).toList = _
      rw [toList_madeCells_one]; simp [bl]
    rw [← e]; exact hown
  clear hown hgrow
  go_loopw [4] (CpRelB w xs w.heap.size) (fun i _ => xs.length - (intOf i).toNat)
  case atStart => exact ⟨0, Nat.zero_le _, rfl, hown1, hb1⟩
  case round =>
    obtain ⟨k, hk, rfl, hown, hb⟩ := hrel
    clear hown1 hb1
    by_cases hlt : k < xs.length
    · obtain ⟨b, off, rfl, hbl, hcc⟩ := hC.out (by omega)
      have hsrc : wr.cell? ⟨b, off + k, none⟩ = some (.bool xs[k]) := (hb.cell (p := ⟨b, off + k, none⟩) hbl).trans (hcc k _ (bl_get xs k hlt))
      have hlen : (bl (cpB xs k)).length = xs.length := by rw [hown.1]; omega
      obtain ⟨x0, hdst⟩ : ∃ x0, wr.cell? ⟨w.heap.size, k, none⟩ = some x0 :=
        ⟨(bl (cpB xs k))[k]'(by omega), by rw [hown.cellAt k (by omega)]; exact List.getElem?_eq_getElem _⟩
      have hfz : wr.frozen? ⟨w.heap.size, k, none⟩ = false := hown.frozenAt k
      obtain ⟨hst, hgw⟩ := hown.stored k (.bool xs[k])
      rw [bl_set, cpB_succ xs k hlt] at hst
      have hbb : Below w.heap.size w (wr.setCell ⟨w.heap.size, k, none⟩ (.bool xs[k])) := hb.setCell (Nat.le_refl _) _
      have HO := Lib.hid hst
      have HB := Lib.hid hbb
      clear hst hbb hgw hcc hown hb hlen hR hC
      go_wp2
      go_roundw
      case rel => exact ⟨k + 1, by omega, by go_num, HO.out, HB.out⟩
      case measure => simp [intOf]; omega
    · obtain rfl : k = xs.length := by omega
      rw [cpB_all] at hown
      go_wp2
      go_ret
      exact ⟨_, rfl, Own.row hown, hb⟩

def EqRelB (w : World) (n : Nat) (i : Value) (wr : World) : Prop := ∃ k m : Nat, k ≤ n ∧ i = .int .i64 k ∧ wr = w.drewN m
set_option maxHeartbeats 1000000 in
theorem eqB_any (va vb : Value) (xs : List Bool) (w : World) (B B' : Nat) (ha : Rd w B va (bl xs)) (hb : Rd w B' vb (bl xs)) (hm : xs.length ≤ 1048576) :
    Calls Try.prog 146 #[va, vb] w fun e w' => e = .returned (.bool true) ∧ ∃ n, w' = w.drewN n := by
  obtain ⟨A, c, hva, hc1, hc2, hca⟩ := ha
  obtain ⟨A', c', hvb, hc1', hc2', hcb⟩ := hb
  rw [bl_len] at hva hvb hc1 hc1' hca hcb
  subst hva hvb
  have hCa := Lib.hid hca
  have hCb := Lib.hid hcb
  clear hca hcb
  go_enter Try.func146, Try.ntmps146
  go_wp2
  go_loopw [5] (EqRelB w xs.length) (fun i _ => xs.length - (intOf i).toNat)
  case atStart => exact ⟨0, 0, Nat.zero_le _, rfl, rfl⟩
  case round =>
    obtain ⟨k, m, hk, rfl, rfl⟩ := hrel
    by_cases hlt : k < xs.length
    · obtain ⟨b, off, rfl, hbl, hcc⟩ := hCa.out (by omega)
      obtain ⟨b', off', rfl, hbl', hcc'⟩ := hCb.out (by omega)
      have h1 : w.cell? ⟨b, off + k, none⟩ = some (.bool xs[k]) := hcc k _ (bl_get xs k hlt)
      have h2 : w.cell? ⟨b', off' + k, none⟩ = some (.bool xs[k]) := hcc' k _ (bl_get xs k hlt)
      clear hcc hcc' hCa hCb
      generalize xs[k] = x at *
      go_wp2
      go_quiet (fail)
      go_wp2
      go_roundw
      case rel => exact ⟨k + 1, _, by omega, by go_num, rfl⟩
      case measure => simp [intOf]; omega
    · obtain rfl : k = xs.length := by omega
      go_wp2
      go_ret
      exact ⟨rfl, _, rfl⟩

/-- The marks from k on. -/
def mkB (k : Int) (i : Nat) : Value := .bool ((k + i) % 3 == 0)
def MkRelB (w : World) (b off n : Nat) (k0 : Int) (k i : Value) (wr : World) : Prop := ∃ j : Nat, j ≤ n ∧ i = .int .i64 j ∧ k = .int .i64 (k0 + j) ∧ wr = putK w b off (mkB k0) j
def HdRelB (w : World) (n : Nat) (k0 : Int) (k i : Value) : Prop := ∃ j : Nat, j ≤ n ∧ i = .int .i64 j ∧ k = .int .i64 (k0 + j)
end Go.Proofs.Ythkklilfignmpaa
