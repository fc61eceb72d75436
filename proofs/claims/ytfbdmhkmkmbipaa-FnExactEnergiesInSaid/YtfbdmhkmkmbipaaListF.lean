/-
  Contracts: the law's own copy of a list of 32-bit floats.
-/
import Derived.Test.YtfbdmhkmkmbipaaChecked
import Derived.Test.YtfbdmhkmkmbipaaRd
import Derived.WalkKit
import Derived.OwnWalk
import Derived.Handy
import Derived.KernelRfl
import Derived.Lib.Hide
namespace Go.Proofs.Ytfbdmhkmkmbipaa
open Go.RowKit
set_option linter.unusedVariables false

theorem infoF : (Try.prog.info? 23).map (fun i => (i.zero, i.size, i.bytes)) = some (some (.float .f32 0), 1, 4) := by kernel_rfl
/-- What has been copied after k rounds. -/
def cpF (xs : List Nat) (k : Nat) : List Nat := xs.take k ++ List.replicate (xs.length - k) 0
theorem cpF_zero (xs : List Nat) : cpF xs 0 = List.replicate xs.length 0 := by simp [cpF]
theorem cpF_all (xs : List Nat) : cpF xs xs.length = xs := by simp [cpF]
theorem cpF_succ (xs : List Nat) (k : Nat) (h : k < xs.length) : (cpF xs k).set k (xs[k]) = cpF xs (k + 1) := by
  unfold cpF
  apply List.ext_getElem?
  intro i
  rw [List.getElem?_set]
  by_cases h1 : k = i
  · subst h1
    have hl : k < (List.take k xs ++ List.replicate (xs.length - k) 0).length := by simp; omega
    rw [if_pos rfl, if_pos hl, List.getElem?_append_left (by simp; omega), List.getElem?_take, if_pos (by omega), List.getElem?_eq_getElem h]
  · rw [if_neg h1]
    by_cases h2 : i < k
    · rw [List.getElem?_append_left (by simp; omega), List.getElem?_append_left (by simp; omega), List.getElem?_take, List.getElem?_take, if_pos (by omega), if_pos (by omega)]
    · rw [List.getElem?_append_right (by simp; omega), List.getElem?_append_right (by simp; omega)]
      simp only [List.length_take, List.getElem?_replicate]
      have e1 : min k xs.length = k := by omega
      have e2 : min (k + 1) xs.length = k + 1 := by omega
      rw [e1, e2]
      by_cases h3 : i < xs.length
      · rw [if_pos (by omega), if_pos (by omega)]
      · rw [if_neg (by omega), if_neg (by omega)]
def fl (xs : List Nat) : List Value := xs.map (.float .f32)
theorem fl_set (xs : List Nat) (k x : Nat) : (fl xs).set k (.float .f32 x) = fl (xs.set k x) := by simp [fl, List.map_set]
theorem fl_len (xs : List Nat) : (fl xs).length = xs.length := by simp [fl]
theorem fl_get (xs : List Nat) (k : Nat) (h : k < xs.length) : (fl xs)[k]? = some (.float .f32 xs[k]) := by simp [fl, h]

/-- A new slice that reads as xs, all of it the call's own. -/
def MadeF (w : World) (xs : List Nat) (e : Ending) (w' : World) : Prop :=
  ∃ g, e = .returned (.slice (some ⟨g, 0, none⟩) xs.length xs.length) ∧ w'.ownsRow w.heap.size 23 1 (.slice (some ⟨g, 0, none⟩) xs.length xs.length) xs.length (fl xs) ∧ Below w.heap.size w w'
def CpRel (w : World) (xs : List Nat) (g : Nat) (i : Value) (wr : World) : Prop :=
  ∃ k : Nat, k ≤ xs.length ∧ i = .int .i64 k ∧ wr.ownsRow w.heap.size 23 1 (.slice (some ⟨g, 0, none⟩) xs.length xs.length) xs.length (fl (cpF xs k)) ∧ Below w.heap.size w wr

set_option maxHeartbeats 1000000 in
theorem toF_any (v : Value) (xs : List Nat) (w : World) (B : Nat) (h0 : Rd w B v (fl xs)) (hB : B ≤ w.heap.size) (hm : xs.length ≤ 1048576) :
    Calls Try.prog 18 #[v] w (MadeF w xs) := by
  obtain ⟨i0, hi, hz0, hz1, hz2⟩ := info_parts infoF
  have h := h0.more hB
  clear h0 hB
  have hR := Lib.hid h
  obtain ⟨A, c, hv, hc1, hc2, hcell⟩ := h
  rw [fl_len] at hv hc1 hcell
  subst hv
  have hC := Lib.hid hcell
  clear hcell
  have hsf : ∀ (a : Addr) (x : Nat) (w : World), (store a (.float .f32 x)).run Try.prog w = stored Try.prog w a (.float .f32 x) .plain := fun a x w => run_store _ w a _ _ rfl
  go_enter Try.func18, Try.ntmps18
  go_wp2_with (refine wpList_make_full _ rfl _ _ 22 rfl w.heap.size 23 i0 (.float .f32 0) 1 Try.underlying22 hi hz0 hz1 .i64 .i64 _ _ xs.length rfl rfl rfl rfl (by rw [hz2]; omega) (by unfold maxLen; omega) (Nat.le_refl _) ?_; intro w1 hown hgrow)
  have hb1 : Below w.heap.size w w1 := (Below.refl _ _).grown hgrow (Nat.le_refl _) (fun _ h => by cases h)
  have hown1 : w1.ownsRow w.heap.size 23 1 (.slice (some ⟨w.heap.size, 0, none⟩) xs.length xs.length) xs.length (fl (cpF xs 0)) := by
    rw [cpF_zero]
    have e : (madeCells (Value.cells (.float .f32 0)) (xs.length * 1)).toList = fl (List.replicate xs.length 0) := by
      rw [Nat.mul_one]
      show (madeCells #[Value.float .f32 0] xs.length).toList = _
      rw [toList_madeCells_one]; simp [fl]
    rw [← e]; exact hown
  clear hown hgrow
  go_loopw [4] (CpRel w xs w.heap.size) (fun i _ => xs.length - (intOf i).toNat)
  case atStart => exact ⟨0, Nat.zero_le _, rfl, hown1, hb1⟩
  case round =>
    obtain ⟨k, hk, rfl, hown, hb⟩ := hrel
    clear hown1 hb1
    by_cases hlt : k < xs.length
    · obtain ⟨b, off, rfl, hbl, hcc⟩ := hC.out (by omega)
      have hsrc : wr.cell? ⟨b, off + k, none⟩ = some (.float .f32 xs[k]) := (hb.cell (p := ⟨b, off + k, none⟩) hbl).trans (hcc k _ (fl_get xs k hlt))
      have hlen : (fl (cpF xs k)).length = xs.length := by rw [hown.1]; omega
      obtain ⟨x0, hdst⟩ : ∃ x0, wr.cell? ⟨w.heap.size, k, none⟩ = some x0 :=
        ⟨(fl (cpF xs k))[k]'(by omega), by rw [hown.cellAt k (by omega)]; exact List.getElem?_eq_getElem _⟩
      have hfz : wr.frozen? ⟨w.heap.size, k, none⟩ = false := hown.frozenAt k
      obtain ⟨hst, hgw⟩ := hown.stored k (.float .f32 xs[k])
      rw [fl_set, cpF_succ xs k hlt] at hst
      have hbb : Below w.heap.size w (wr.setCell ⟨w.heap.size, k, none⟩ (.float .f32 xs[k])) := hb.setCell (Nat.le_refl _) _
      have HO := Lib.hid hst
      have HB := Lib.hid hbb
      clear hst hbb hgw hcc hown hb hlen hR hC
      go_wp2
      go_roundw
      case rel => exact ⟨k + 1, by omega, by go_num, HO.out, HB.out⟩
      case measure => simp [intOf]; omega
    · obtain rfl : k = xs.length := by omega
      rw [cpF_all] at hown
      go_wp2
      go_ret
      exact ⟨_, rfl, hown, hb⟩
end Go.Proofs.Ytfbdmhkmkmbipaa
