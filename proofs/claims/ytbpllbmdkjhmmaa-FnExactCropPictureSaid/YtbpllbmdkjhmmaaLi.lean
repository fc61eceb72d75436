/-
  Contracts: the law's own copies, comparisons and marks of lists of int64.
-/
import Derived.Test.YtbpllbmdkjhmmaaChecked
import Derived.Test.YtbpllbmdkjhmmaaMem
import Derived.WalkKit
import Derived.OwnWalk
import Derived.Handy
import Derived.KernelRfl
import Derived.Lib.Hide
import Derived.Deep.QuietTactic
import Derived.BigQuiet
namespace Go.Proofs.Ytbpllbmdkjhmmaa
open Go.RowKit
set_option linter.unusedVariables false

theorem infoI : (Try.prog.info? 2).map (fun i => (i.zero, i.size, i.bytes)) = some (some (.int .i64 0), 1, 8) := by kernel_rfl
/-- What has been copied after k rounds. -/
def cpI (xs : List Int) (k : Nat) : List Int := xs.take k ++ List.replicate (xs.length - k) 0
theorem cpI_zero (xs : List Int) : cpI xs 0 = List.replicate xs.length 0 := by simp [cpI]
theorem cpI_all (xs : List Int) : cpI xs xs.length = xs := by simp [cpI]
theorem cpI_succ (xs : List Int) (k : Nat) (h : k < xs.length) : (cpI xs k).set k (xs[k]) = cpI xs (k + 1) := by
  unfold cpI
  apply List.ext_getElem?
  intro i
  rw [List.getElem?_set]
  by_cases h1 : k = i
  · subst h1
    have hl : k < (List.take k xs ++ List.replicate (xs.length - k) 0).length := by simp; omega
    rw [if_pos rfl, if_pos hl, List.getElem?_append_left (by simp; omega), List.getElem?_take, if_pos (by omega), List.getElem?_eq_getElem h]
  · rw [if_neg h1]
    by_cases h2 : i < k
    · rw [List.getElem?_append_left (by simp; omega), List.getElem?_append_left (by simp; omega), List.getElem?_take, List.getElem?_take, if_pos (by omega), if_pos (by omega)]
    · rw [List.getElem?_append_right (by simp; omega), List.getElem?_append_right (by simp; omega)]
      simp only [List.length_take, List.getElem?_replicate]
      have e1 : min k xs.length = k := by omega
      have e2 : min (k + 1) xs.length = k + 1 := by omega
      rw [e1, e2]
      by_cases h3 : i < xs.length
      · rw [if_pos (by omega), if_pos (by omega)]
      · rw [if_neg (by omega), if_neg (by omega)]

/-- A new slice that reads as xs, all of it the call's own. -/
def MadeI (w : World) (xs : List Int) (e : Ending) (w' : World) : Prop :=
  ∃ g, e = .returned (.slice (some ⟨g, 0, none⟩) xs.length xs.length) ∧ Own w' w.heap.size (.slice (some ⟨g, 0, none⟩) xs.length xs.length) (il xs) ∧ Below w.heap.size w w'
def CpRelI (w : World) (xs : List Int) (g : Nat) (i : Value) (wr : World) : Prop :=
  ∃ k : Nat, k ≤ xs.length ∧ i = .int .i64 k ∧ wr.ownsRow w.heap.size 2 1 (.slice (some ⟨g, 0, none⟩) xs.length xs.length) xs.length (il (cpI xs k)) ∧ Below w.heap.size w wr

set_option maxHeartbeats 1000000 in
theorem toI_any (v : Value) (xs : List Int) (w : World) (B : Nat) (h0 : Rd w B v (il xs)) (hB : B ≤ w.heap.size) (hm : xs.length ≤ 1048576) :
    Calls Try.prog 52 #[v] w (MadeI w xs) := by
  obtain ⟨i0, hi, hz0, hz1, hz2⟩ := info_parts infoI
  have h := h0.more hB
  clear h0 hB
  have hR := Lib.hid h
  obtain ⟨A, c, hv, hc1, hc2, hcell⟩ := h
  rw [il_len] at hv hc1 hcell
  subst hv
  have hC := Lib.hid hcell
  clear hcell
  go_enter Try.func52, Try.ntmps52
  go_wp2_with (refine wpList_make_full _ rfl _ _ 65 rfl w.heap.size 2 i0 (.int .i64 0) 1 Try.underlying65 hi hz0 hz1 .i64 .i64 _ _ xs.length rfl rfl rfl rfl (by rw [hz2]; omega) (by unfold maxLen; omega) (Nat.le_refl _) ?_; intro w1 hown hgrow)
  have hb1 : Below w.heap.size w w1 := (Below.refl _ _).grown hgrow (Nat.le_refl _) (fun _ h => by cases h)
  have hown1 : w1.ownsRow w.heap.size 2 1 (.slice (some ⟨w.heap.size, 0, none⟩) xs.length xs.length) xs.length (il (cpI xs 0)) := by
    rw [cpI_zero]
    have e : (madeCells (Value.cells (.int .i64 0)) (xs.length * 1)).toList = il (List.replicate xs.length 0) := by
      rw [Nat.mul_one]
      show (madeCells #[Value.int .i64 0] xs.length).toList = _
      rw [toList_madeCells_one]; simp [il]
    rw [← e]; exact hown
  clear hown hgrow
  go_loopw [4] (CpRelI w xs w.heap.size) (fun i _ => xs.length - (intOf i).toNat)
  case atStart => exact ⟨0, Nat.zero_le _, rfl, hown1, hb1⟩
  case round =>
    obtain ⟨k, hk, rfl, hown, hb⟩ := hrel
    clear hown1 hb1
    by_cases hlt : k < xs.length
    · obtain ⟨b, off, rfl, hbl, hcc⟩ := hC.out (by omega)
      have hsrc : wr.cell? ⟨b, off + k, none⟩ = some (.int .i64 xs[k]) := (hb.cell (p := ⟨b, off + k, none⟩) hbl).trans (hcc k _ (il_get xs k hlt))
      have hlen : (il (cpI xs k)).length = xs.length := by rw [hown.1]; omega
      obtain ⟨x0, hdst⟩ : ∃ x0, wr.cell? ⟨w.heap.size, k, none⟩ = some x0 :=
        ⟨(il (cpI xs k))[k]'(by omega), by rw [hown.cellAt k (by omega)]; exact List.getElem?_eq_getElem _⟩
      have hfz : wr.frozen? ⟨w.heap.size, k, none⟩ = false := hown.frozenAt k
      obtain ⟨hst, hgw⟩ := hown.stored k (.int .i64 xs[k])
      rw [il_set, cpI_succ xs k hlt] at hst
      have hbb : Below w.heap.size w (wr.setCell ⟨w.heap.size, k, none⟩ (.int .i64 xs[k])) := hb.setCell (Nat.le_refl _) _
      have HO := Lib.hid hst
      have HB := Lib.hid hbb
      clear hst hbb hgw hcc hown hb hlen hR hC
      go_wp2
      go_roundw
      case rel => exact ⟨k + 1, by omega, by go_num, HO.out, HB.out⟩
      case measure => simp [intOf]; omega
    · obtain rfl : k = xs.length := by omega
      rw [cpI_all] at hown
      go_wp2
      go_ret
      exact ⟨_, rfl, Own.row hown, hb⟩

def EqRelI (w : World) (n : Nat) (i : Value) (wr : World) : Prop := ∃ k m : Nat, k ≤ n ∧ i = .int .i64 k ∧ wr = w.drewN m
set_option maxHeartbeats 1000000 in
theorem eqI_any (va vb : Value) (xs : List Int) (w : World) (B B' : Nat) (ha : Rd w B va (il xs)) (hb : Rd w B' vb (il xs)) (hm : xs.length ≤ 1048576) :
    Calls Try.prog 54 #[va, vb] w fun e w' => e = .returned (.bool true) ∧ ∃ n, w' = w.drewN n := by
  obtain ⟨A, c, hva, hc1, hc2, hca⟩ := ha
  obtain ⟨A', c', hvb, hc1', hc2', hcb⟩ := hb
  rw [il_len] at hva hvb hc1 hc1' hca hcb
  subst hva hvb
  have hCa := Lib.hid hca
  have hCb := Lib.hid hcb
  clear hca hcb
  go_enter Try.func54, Try.ntmps54
  go_wp2
  go_loopw [5] (EqRelI w xs.length) (fun i _ => xs.length - (intOf i).toNat)
  case atStart => exact ⟨0, 0, Nat.zero_le _, rfl, rfl⟩
  case round =>
    obtain ⟨k, m, hk, rfl, rfl⟩ := hrel
    by_cases hlt : k < xs.length
    · obtain ⟨b, off, rfl, hbl, hcc⟩ := hCa.out (by omega)
      obtain ⟨b', off', rfl, hbl', hcc'⟩ := hCb.out (by omega)
      have h1 : w.cell? ⟨b, off + k, none⟩ = some (.int .i64 xs[k]) := hcc k _ (il_get xs k hlt)
      have h2 : w.cell? ⟨b', off' + k, none⟩ = some (.int .i64 xs[k]) := hcc' k _ (il_get xs k hlt)
      clear hcc hcc' hCa hCb
      generalize xs[k] = x at *
      go_wp2
      go_quiet (fail)
      go_wp2
      go_roundw
      case rel => exact ⟨k + 1, _, by omega, by go_num, rfl⟩
      case measure => simp [intOf]; omega
    · obtain rfl : k = xs.length := by omega
      go_wp2
      go_ret
      exact ⟨rfl, _, rfl⟩

/-- The marks from k on. -/
def mkI (k : Int) (i : Nat) : Value := .int .i64 (k + i)
def MkRel (w : World) (b off n : Nat) (k0 : Int) (k i : Value) (wr : World) : Prop := ∃ j : Nat, j ≤ n ∧ i = .int .i64 j ∧ k = .int .i64 (k0 + j) ∧ wr = putK w b off (mkI k0) j
set_option maxHeartbeats 1000000 in
theorem markI_any (v : Value) (xs : List Int) (k0 : Int) (w : World) (lo : Nat) (h : Own w lo v (il xs)) (hm : xs.length ≤ 1048576) (hk0 : 0 ≤ k0) (hk1 : k0 ≤ 1000000000) :
    Calls Try.prog 58 #[v, .int .i64 k0] w fun e w' => e = .returned (.int .i64 (k0 + xs.length)) ∧ w' = over w v (mkI k0) := by
  obtain ⟨A, c, hv, hc1, hc2, hcell⟩ := h
  rw [il_len] at hv hc1 hcell
  subst hv
  by_cases hp : 0 < xs.length
  · obtain ⟨b, off, rfl, hlo, hbw, hc, hf⟩ := hcell hp
    clear hcell
    have hC := Lib.hid hc
    have hF := Lib.hid hf
    clear hc hf
    go_enter Try.func58, Try.ntmps58
    go_wp2
    go_loopw [1, 5] (MkRel w b off xs.length k0) (fun _ i _ => xs.length - (intOf i).toNat)
    case atStart => exact ⟨0, Nat.zero_le _, rfl, by simp, rfl⟩
    case round =>
      obtain ⟨j, hj, rfl, rfl, rfl⟩ := hrel
      by_cases hlt : j < xs.length
      · have hdst : (putK w b off (mkI k0) j).cell? ⟨b, off + j, none⟩ = some (.int .i64 xs[j]) := by
          rw [putK_cell_out _ _ _ _ _ _ _ (.inr (.inr (Nat.le_refl _)))]; exact hC.out j _ (il_get xs j hlt)
        have hfz : (putK w b off (mkI k0) j).frozen? ⟨b, off + j, none⟩ = false := by rw [putK_frozen]; exact hF.out j hlt
        go_wp2
        go_roundw
        case rel => exact ⟨j + 1, by omega, by go_num, by go_num, rfl⟩
        case measure => simp [intOf]; omega
      · obtain rfl : j = xs.length := by omega
        go_wp2
        go_ret
        exact ⟨rfl, rfl⟩
  · have hz : xs.length = 0 := by omega
    rw [hz, over_nil]
    clear hcell hp hc1
    go_enter Try.func58, Try.ntmps58
    go_wp2
    refine wp_loop_rounds 1 ?_
    rw [rounds_succ]
    go_wp2
    go_ret
    exact ⟨by simp, rfl⟩

def HdRel (w : World) (n : Nat) (k0 : Int) (k i : Value) : Prop := ∃ j : Nat, j ≤ n ∧ i = .int .i64 j ∧ k = .int .i64 (k0 + j)
set_option maxHeartbeats 1000000 in
theorem heldI_any (v : Value) (n : Nat) (k0 : Int) (w : World) (B : Nat) (h : Rd w B v ((List.range n).map (mkI k0))) (hm : n ≤ 1048576) (hk0 : 0 ≤ k0) (hk1 : k0 ≤ 1000000000) :
    Calls Try.prog 65 #[v, .int .i64 k0] w fun e w' => e = .returned (.int .i64 (k0 + n)) ∧ w = w' := by
  obtain ⟨A, c, hv, hc1, hc2, hcell⟩ := h
  have hl : ((List.range n).map (mkI k0)).length = n := by simp
  rw [hl] at hv hc1 hcell
  subst hv
  clear hl
  by_cases hp : 0 < n
  · obtain ⟨b, off, rfl, hbw, hc⟩ := hcell hp
    clear hcell
    have hC := Lib.hid hc
    clear hc
    go_enter Try.func65, Try.ntmps65
    go_wp2
    go_loop [1, 5] (HdRel w n k0) (fun _ i => n - (intOf i).toNat)
    case atStart => exact ⟨0, Nat.zero_le _, rfl, by simp⟩
    case round =>
      obtain ⟨j, hj, rfl, rfl⟩ := hrel
      by_cases hlt : j < n
      · have hsrc : w.cell? ⟨b, off + j, none⟩ = some (.int .i64 (k0 + j)) := hC.out j _ (by simp [hlt, mkI])
        go_wp2
        go_round
        case rel => exact ⟨j + 1, by omega, by go_num, by go_num⟩
        case measure => simp [intOf]; omega
      · obtain rfl : j = n := by omega
        go_wp2
        go_ret
        exact ⟨rfl, rfl⟩
  · have hz : n = 0 := by omega
    subst hz
    clear hcell hp hc1
    go_enter Try.func65, Try.ntmps65
    go_wp2
    refine wp_loop_rounds 1 ?_
    rw [rounds_succ]
    go_wp2
    go_ret
    exact ⟨by simp, rfl⟩
end Go.Proofs.Ytbpllbmdkjhmmaa
