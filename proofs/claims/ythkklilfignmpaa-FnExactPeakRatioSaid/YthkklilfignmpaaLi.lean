/-
  Contracts: the law's own copies, comparisons and marks of lists of int64.
-/
import Derived.Test.YthkklilfignmpaaChecked
import Derived.Test.YthkklilfignmpaaMem
import Derived.WalkKit
import Derived.OwnWalk
import Derived.Handy
import Derived.KernelRfl
import Derived.Lib.Hide
import Derived.Deep.QuietTactic
import Derived.BigQuiet
namespace Go.Proofs.Ythkklilfignmpaa
open Go.RowKit
set_option linter.unusedVariables false

theorem infoI : (Try.prog.info? 2).map (fun i => (i.zero, i.size, i.bytes)) = some (some (.int .i64 0), 1, 8) := by kernel_rfl
/-- What has been copied after k rounds. -/
def cpI (xs : List Int) (k : Nat) : List Int := xs.take k ++ List.replicate (xs.length - k) 0
theorem cpI_zero (xs : List Int) : cpI xs 0 = List.replicate xs.length 0 := by simp [cpI]
theorem cpI_all (xs : List Int) : cpI xs xs.length = xs := by simp [cpI]
theorem cpI_succ (xs : List Int) (k : Nat) (h : k < xs.length) : (cpI xs k).set k (xs[k]) = cpI xs (k + 1) := by
  unfold cpI
  apply List.ext_getElem?
  intro i
  rw [List.getElem?_set]
  by_cases h1 : k = i
  · subst h1
    have hl : k < (List.take k xs ++ List.replicate (xs.length - k) 0).length := by simp; omega
    rw [if_pos rfl, if_pos hl, List.getElem?_append_left (by simp; omega), List.getElem?_take, if_pos (by omega), List.getElem?_eq_getElem h]
  · rw [if_neg h1]
    by_cases h2 : i < k
    · rw [List.getElem?_append_left (by simp; omega), List.getElem?_append_left (by simp; omega), List.getElem?_take, List.getElem?_take, if_pos (by omega), if_pos (by omega)]
    · rw [List.getElem?_append_right (by simp; omega), List.getElem?_append_right (by simp; omega)]
      simp only [List.length_take, List.getElem?_replicate]
      have e1 : min k xs.length = k := by omega
      have e2 : min (k + 1) xs.length = k + 1 := by omega
      rw [e1, e2]
      by_cases h3 : i < xs.length
      · rw [if_pos (by omega), if_pos (by omega)]
      · rw [if_neg (by omega), if_neg (by omega)]

/-- A new slice that reads as xs, all of it the call's own. -/
def MadeI (w : World) (xs : List Int) (e : Ending) (w' : World) : Prop :=
  ∃ g, e = .returned (.slice (some ⟨g, 0, none⟩) xs.length xs.length) ∧ Own w' w.heap.size (.slice (some ⟨g, 0, none⟩) xs.length xs.length) (il xs) ∧ Below w.heap.size w w'
def CpRelI (w : World) (xs : List Int) (g : Nat) (i : Value) (wr : World) : Prop :=
  ∃ k : Nat, k ≤ xs.length ∧ i = .int .i64 k ∧ wr.ownsRow w.heap.size 2 1 (.slice (some ⟨g, 0, none⟩) xs.length xs.length) xs.length (il (cpI xs k)) ∧ Below w.heap.size w wr

def EqRelI (w : World) (n : Nat) (i : Value) (wr : World) : Prop := ∃ k m : Nat, k ≤ n ∧ i = .int .i64 k ∧ wr = w.drewN m
set_option maxHeartbeats 1000000 in
theorem eqI_any (va vb : Value) (xs : List Int) (w : World) (B B' : Nat) (ha : Rd w B va (il xs)) (hb : Rd w B' vb (il xs)) (hm : xs.length ≤ 1048576) :
    Calls Try.prog 36 #[va, vb] w fun e w' => e = .returned (.bool true) ∧ ∃ n, w' = w.drewN n := by
  obtain ⟨A, c, hva, hc1, hc2, hca⟩ := ha
  obtain ⟨A', c', hvb, hc1', hc2', hcb⟩ := hb
  rw [il_len] at hva hvb hc1 hc1' hca hcb
  subst hva hvb
  have hCa := Lib.hid hca
  have hCb := Lib.hid hcb
  clear hca hcb
  go_enter Try.func36, Try.ntmps36
  go_wp2
  go_loopw [5] (EqRelI w xs.length) (fun i _ => xs.length - (intOf i).toNat)
  case atStart => exact ⟨0, 0, Nat.zero_le _, rfl, rfl⟩
  case round =>
    obtain ⟨k, m, hk, rfl, rfl⟩ := hrel
    by_cases hlt : k < xs.length
    · obtain ⟨b, off, rfl, hbl, hcc⟩ := hCa.out (by omega)
      obtain ⟨b', off', rfl, hbl', hcc'⟩ := hCb.out (by omega)
      have h1 : w.cell? ⟨b, off + k, none⟩ = some (.int .i64 xs[k]) := hcc k _ (il_get xs k hlt)
      have h2 : w.cell? ⟨b', off' + k, none⟩ = some (.int .i64 xs[k]) := hcc' k _ (il_get xs k hlt)
      clear hcc hcc' hCa hCb
      generalize xs[k] = x at *
      go_wp2
      go_quiet (fail)
      go_wp2
      go_roundw
      case rel => exact ⟨k + 1, _, by omega, by go_num, rfl⟩
      case measure => simp [intOf]; omega
    · obtain rfl : k = xs.length := by omega
      go_wp2
      go_ret
      exact ⟨rfl, _, rfl⟩

/-- The marks from k on. -/
def mkI (k : Int) (i : Nat) : Value := .int .i64 (k + i)
def MkRel (w : World) (b off n : Nat) (k0 : Int) (k i : Value) (wr : World) : Prop := ∃ j : Nat, j ≤ n ∧ i = .int .i64 j ∧ k = .int .i64 (k0 + j) ∧ wr = putK w b off (mkI k0) j
set_option maxHeartbeats 1000000 in
theorem markI_any (v : Value) (xs : List Int) (k0 : Int) (w : World) (lo : Nat) (h : Own w lo v (il xs)) (hm : xs.length ≤ 1048576) (hk0 : 0 ≤ k0) (hk1 : k0 ≤ 1000000000) :
    Calls Try.prog 39 #[v, .int .i64 k0] w fun e w' => e = .returned (.int .i64 (k0 + xs.length)) ∧ w' = over w v (mkI k0) := by
  obtain ⟨A, c, hv, hc1, hc2, hcell⟩ := h
  rw [il_len] at hv hc1 hcell
  subst hv
  by_cases hp : 0 < xs.length
  · obtain ⟨b, off, rfl, hlo, hbw, hc, hf⟩ := hcell hp
    clear hcell
    have hC := Lib.hid hc
    have hF := Lib.hid hf
    clear hc hf
    go_enter Try.func39, Try.ntmps39
    go_wp2
    go_loopw [1, 5] (MkRel w b off xs.length k0) (fun _ i _ => xs.length - (intOf i).toNat)
    case atStart => exact ⟨0, Nat.zero_le _, rfl, by simp, rfl⟩
    case round =>
      obtain ⟨j, hj, rfl, rfl, rfl⟩ := hrel
      by_cases hlt : j < xs.length
      · have hdst : (putK w b off (mkI k0) j).cell? ⟨b, off + j, none⟩ = some (.int .i64 xs[j]) := by
          rw [putK_cell_out _ _ _ _ _ _ _ (.inr (.inr (Nat.le_refl _)))]; exact hC.out j _ (il_get xs j hlt)
        have hfz : (putK w b off (mkI k0) j).frozen? ⟨b, off + j, none⟩ = false := by rw [putK_frozen]; exact hF.out j hlt
        go_wp2
        go_roundw
        case rel => exact ⟨j + 1, by omega, by go_num, by go_num, rfl⟩
        case measure => simp [intOf]; omega
      · obtain rfl : j = xs.length := by omega
        go_wp2
        go_ret
        exact ⟨rfl, rfl⟩
  · have hz : xs.length = 0 := by omega
    rw [hz, over_nil]
    clear hcell hp hc1
    go_enter Try.func39, Try.ntmps39
    go_wp2
    refine wp_loop_rounds 1 ?_
    rw [rounds_succ]
    go_wp2
    go_ret
    exact ⟨by simp, rfl⟩

def HdRel (w : World) (n : Nat) (k0 : Int) (k i : Value) : Prop := ∃ j : Nat, j ≤ n ∧ i = .int .i64 j ∧ k = .int .i64 (k0 + j)
set_option maxHeartbeats 1000000 in
theorem heldI_any (v : Value) (n : Nat) (k0 : Int) (w : World) (B : Nat) (h : Rd w B v ((List.range n).map (mkI k0))) (hm : n ≤ 1048576) (hk0 : 0 ≤ k0) (hk1 : k0 ≤ 1000000000) :
    Calls Try.prog 40 #[v, .int .i64 k0] w fun e w' => e = .returned (.int .i64 (k0 + n)) ∧ w = w' := by
  obtain ⟨A, c, hv, hc1, hc2, hcell⟩ := h
  have hl : ((List.range n).map (mkI k0)).length = n := by simp
  rw [hl] at hv hc1 hcell
  subst hv
  clear hl
  by_cases hp : 0 < n
  · obtain ⟨b, off, rfl, hbw, hc⟩ := hcell hp
    clear hcell
    have hC := Lib.hid hc
    clear hc
    go_enter Try.func40, Try.ntmps40
    go_wp2
    go_loop [1, 5] (HdRel w n k0) (fun _ i => n - (intOf i).toNat)
    case atStart => exact ⟨0, Nat.zero_le _, rfl, by simp⟩
    case round =>
      obtain ⟨j, hj, rfl, rfl⟩ := hrel
      by_cases hlt : j < n
      · have hsrc : w.cell? ⟨b, off + j, none⟩ = some (.int .i64 (k0 + j)) := hC.out j _ (by simp [hlt, mkI])
        go_wp2
        go_round
        case rel => exact ⟨j + 1, by omega, by go_num, by go_num⟩
        case measure => simp [intOf]; omega
      · obtain rfl : j = n := by omega
        go_wp2
        go_ret
        exact ⟨rfl, rfl⟩
  · have hz : n = 0 := by omega
    subst hz
    clear hcell hp hc1
    go_enter Try.func40, Try.ntmps40
    go_wp2
    refine wp_loop_rounds 1 ?_
    rw [rounds_succ]
    go_wp2
    go_ret
    exact ⟨by simp, rfl⟩
end Go.Proofs.Ythkklilfignmpaa
