/-
  Contracts: the law's own copies, comparisons and marks of lists of bools.
-/
import Derived.Test.YtbpllbmdkjhmmaaLi
import Derived.Test.YtbpllbmdkjhmmaaMem
import Derived.WalkKit
import Derived.OwnWalk
import Derived.Handy
import Derived.KernelRfl
import Derived.Lib.Hide
import Derived.Deep.QuietTactic
import Derived.BigQuiet
namespace Go.Proofs.Ytbpllbmdkjhmmaa
open Go.RowKit
set_option linter.unusedVariables false

def bl (xs : List Bool) : List Value := xs.map .bool
theorem bl_len (xs : List Bool) : (bl xs).length = xs.length := by simp [bl]
theorem bl_get (xs : List Bool) (k : Nat) (h : k < xs.length) : (bl xs)[k]? = some (.bool xs[k]) := by simp [bl, h]
theorem bl_set (xs : List Bool) (k : Nat) (x : Bool) : (bl xs).set k (.bool x) = bl (xs.set k x) := by simp [bl, List.map_set]

theorem infoB : (Try.prog.info? 4).map (fun i => (i.zero, i.size, i.bytes)) = some (some (.bool false), 1, 1) := by kernel_rfl
/-- What has been copied after k rounds. -/
def cpB (xs : List Bool) (k : Nat) : List Bool := xs.take k ++ List.replicate (xs.length - k) false
theorem cpB_zero (xs : List Bool) : cpB xs 0 = List.replicate xs.length false := by simp [cpB]
theorem cpB_all (xs : List Bool) : cpB xs xs.length = xs := by simp [cpB]
theorem cpB_succ (xs : List Bool) (k : Nat) (h : k < xs.length) : (cpB xs k).set k (xs[k]) = cpB xs (k + 1) := by
  unfold cpB
  apply List.ext_getElem?
  intro i
  rw [List.getElem?_set]
  by_cases h1 : k = i
  · subst h1
    have hl : k < (List.take k xs ++ List.replicate (xs.length - k) false).length := by simp; omega
    rw [if_pos rfl, if_pos hl, List.getElem?_append_left (by simp; omega), List.getElem?_take, if_pos (by omega), List.getElem?_eq_getElem h]
  · rw [if_neg h1]
    by_cases h2 : i < k
    · rw [List.getElem?_append_left (by simp; omega), List.getElem?_append_left (by simp; omega), List.getElem?_take, List.getElem?_take, if_pos (by omega), if_pos (by omega)]
    · rw [List.getElem?_append_right (by simp; omega), List.getElem?_append_right (by simp; omega)]
      simp only [List.length_take, List.getElem?_replicate]
      have e1 : min k xs.length = k := by omega
      have e2 : min (k + 1) xs.length = k + 1 := by omega
      rw [e1, e2]
      by_cases h3 : i < xs.length
      · rw [if_pos (by omega), if_pos (by omega)]
      · rw [if_neg (by omega), if_neg (by omega)]

/-- A new slice that reads as xs, all of it the call's own. -/
def MadeB (w : World) (xs : List Bool) (e : Ending) (w' : World) : Prop :=
  ∃ g, e = .returned (.slice (some ⟨g, 0, none⟩) xs.length xs.length) ∧ Own w' w.heap.size (.slice (some ⟨g, 0, none⟩) xs.length xs.length) (bl xs) ∧ Below w.heap.size w w'
def CpRelB (w : World) (xs : List Bool) (g : Nat) (i : Value) (wr : World) : Prop :=
  ∃ k : Nat, k ≤ xs.length ∧ i = .int .i64 k ∧ wr.ownsRow w.heap.size 4 1 (.slice (some ⟨g, 0, none⟩) xs.length xs.length) xs.length (bl (cpB xs k)) ∧ Below w.heap.size w wr

def EqRelB (w : World) (n : Nat) (i : Value) (wr : World) : Prop := ∃ k m : Nat, k ≤ n ∧ i = .int .i64 k ∧ wr = w.drewN m
set_option maxHeartbeats 1000000 in
theorem eqB_any (va vb : Value) (xs : List Bool) (w : World) (B B' : Nat) (ha : Rd w B va (bl xs)) (hb : Rd w B' vb (bl xs)) (hm : xs.length ≤ 1048576) :
    Calls Try.prog 116 #[va, vb] w fun e w' => e = .returned (.bool true) ∧ ∃ n, w' = w.drewN n := by
  obtain ⟨A, c, hva, hc1, hc2, hca⟩ := ha
  obtain ⟨A', c', hvb, hc1', hc2', hcb⟩ := hb
  rw [bl_len] at hva hvb hc1 hc1' hca hcb
  subst hva hvb
  have hCa := Lib.hid hca
  have hCb := Lib.hid hcb
  clear hca hcb
  go_enter Try.func116, Try.ntmps116
  go_wp2
  go_loopw [5] (EqRelB w xs.length) (fun i _ => xs.length - (intOf i).toNat)
  case atStart => exact ⟨0, 0, Nat.zero_le _, rfl, rfl⟩
  case round =>
    obtain ⟨k, m, hk, rfl, rfl⟩ := hrel
    by_cases hlt : k < xs.length
    · obtain ⟨b, off, rfl, hbl, hcc⟩ := hCa.out (by omega)
      obtain ⟨b', off', rfl, hbl', hcc'⟩ := hCb.out (by omega)
      have h1 : w.cell? ⟨b, off + k, none⟩ = some (.bool xs[k]) := hcc k _ (bl_get xs k hlt)
      have h2 : w.cell? ⟨b', off' + k, none⟩ = some (.bool xs[k]) := hcc' k _ (bl_get xs k hlt)
      clear hcc hcc' hCa hCb
      generalize xs[k] = x at *
      go_wp2
      go_quiet (fail)
      go_wp2
      go_roundw
      case rel => exact ⟨k + 1, _, by omega, by go_num, rfl⟩
      case measure => simp [intOf]; omega
    · obtain rfl : k = xs.length := by omega
      go_wp2
      go_ret
      exact ⟨rfl, _, rfl⟩

/-- The marks from k on. -/
def mkB (k : Int) (i : Nat) : Value := .bool ((k + i) % 3 == 0)
def MkRelB (w : World) (b off n : Nat) (k0 : Int) (k i : Value) (wr : World) : Prop := ∃ j : Nat, j ≤ n ∧ i = .int .i64 j ∧ k = .int .i64 (k0 + j) ∧ wr = putK w b off (mkB k0) j
set_option maxHeartbeats 1000000 in
theorem markB_any (v : Value) (xs : List Bool) (k0 : Int) (w : World) (lo : Nat) (h : Own w lo v (bl xs)) (hm : xs.length ≤ 1048576) (hk0 : 0 ≤ k0) (hk1 : k0 ≤ 1000000000) :
    Calls Try.prog 117 #[v, .int .i64 k0] w fun e w' => e = .returned (.int .i64 (k0 + xs.length)) ∧ w' = over w v (mkB k0) := by
  obtain ⟨A, c, hv, hc1, hc2, hcell⟩ := h
  rw [bl_len] at hv hc1 hcell
  subst hv
  by_cases hp : 0 < xs.length
  · obtain ⟨b, off, rfl, hlo, hbw, hc, hf⟩ := hcell hp
    clear hcell
    have hC := Lib.hid hc
    have hF := Lib.hid hf
    clear hc hf
    go_enter Try.func117, Try.ntmps117
    go_wp2
    go_loopw [1, 5] (MkRelB w b off xs.length k0) (fun _ i _ => xs.length - (intOf i).toNat)
    case atStart => exact ⟨0, Nat.zero_le _, rfl, by simp, rfl⟩
    case round =>
      obtain ⟨j, hj, rfl, rfl, rfl⟩ := hrel
      by_cases hlt : j < xs.length
      · have hdst : (putK w b off (mkB k0) j).cell? ⟨b, off + j, none⟩ = some (.bool xs[j]) := by
          rw [putK_cell_out _ _ _ _ _ _ _ (.inr (.inr (Nat.le_refl _)))]; exact hC.out j _ (bl_get xs j hlt)
        have hfz : (putK w b off (mkB k0) j).frozen? ⟨b, off + j, none⟩ = false := by rw [putK_frozen]; exact hF.out j hlt
        go_wp2
        go_roundw
        case rel => exact ⟨j + 1, by omega, by go_num, by go_num, rfl⟩
        case measure => simp [intOf]; omega
      · obtain rfl : j = xs.length := by omega
        go_wp2
        go_ret
        exact ⟨rfl, rfl⟩
  · have hz : xs.length = 0 := by omega
    rw [hz, over_nil]
    clear hcell hp hc1
    go_enter Try.func117, Try.ntmps117
    go_wp2
    refine wp_loop_rounds 1 ?_
    rw [rounds_succ]
    go_wp2
    go_ret
    exact ⟨by simp, rfl⟩

def HdRelB (w : World) (n : Nat) (k0 : Int) (k i : Value) : Prop := ∃ j : Nat, j ≤ n ∧ i = .int .i64 j ∧ k = .int .i64 (k0 + j)
set_option maxHeartbeats 1000000 in
theorem heldB_any (v : Value) (n : Nat) (k0 : Int) (w : World) (B : Nat) (h : Rd w B v ((List.range n).map (mkB k0))) (hm : n ≤ 1048576) (hk0 : 0 ≤ k0) (hk1 : k0 ≤ 1000000000) :
    Calls Try.prog 118 #[v, .int .i64 k0] w fun e w' => e = .returned (.int .i64 (k0 + n)) ∧ w = w' := by
  obtain ⟨A, c, hv, hc1, hc2, hcell⟩ := h
  have hl : ((List.range n).map (mkB k0)).length = n := by simp
  rw [hl] at hv hc1 hcell
  subst hv
  clear hl
  by_cases hp : 0 < n
  · obtain ⟨b, off, rfl, hbw, hc⟩ := hcell hp
    clear hcell
    have hC := Lib.hid hc
    clear hc
    go_enter Try.func118, Try.ntmps118
    go_wp2
    go_loop [1, 5] (HdRelB w n k0) (fun _ i => n - (intOf i).toNat)
    case atStart => exact ⟨0, Nat.zero_le _, rfl, by simp⟩
    case round =>
      obtain ⟨j, hj, rfl, rfl⟩ := hrel
      by_cases hlt : j < n
      · have hsrc : w.cell? ⟨b, off + j, none⟩ = some (.bool ((k0 + j) % 3 == 0)) := hC.out j _ (by simp [hlt, mkB])
        go_wp2
        go_round
        case rel => exact ⟨j + 1, by omega, by go_num, by go_num⟩
        case measure => simp [intOf]; omega
      · obtain rfl : j = n := by omega
        go_wp2
        go_ret
        exact ⟨rfl, rfl⟩
  · have hz : n = 0 := by omega
    subst hz
    clear hcell hp hc1
    go_enter Try.func118, Try.ntmps118
    go_wp2
    refine wp_loop_rounds 1 ?_
    rw [rounds_succ]
    go_wp2
    go_ret
    exact ⟨by simp, rfl⟩
end Go.Proofs.Ytbpllbmdkjhmmaa
