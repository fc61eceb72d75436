/-
  Contracts: the library's iterator over a list of floats from its end to its beginning.
-/
import Derived.Test.YtfbdmhkmkmbipaaDpk
import Derived.RangeFuncNested
import Derived.RangeFuncBound
import Derived.RangeFuncCalls
import Derived.RangeFuncLeaves
import Derived.Shelf.Abstract
import Derived.Shelf.RegionOpen
import Derived.WalkKit
import Derived.OwnWalkIn
import Derived.TacticsInMore
import Derived.LoopNIn
import Derived.LoopIn
namespace Go.Proofs.Ytfbdmhkmkmbipaa
open Go.RowKit Fl Go.Shelf
set_option linter.unusedVariables false
set_option maxRecDepth 100000
attribute [local go_sem] Oper.semAt_some

/-- The indexes of a list of n numbers. -/
abbrev Ixn (n : Nat) := { k : Nat // k < n }
def upB {n : Nat} (hn : 0 < n) (k : Nat) : List (Ixn n) := (List.range k).map fun j => ⟨n - 1 - j, by omega⟩
theorem upB_succ {n : Nat} (hn : 0 < n) (k : Nat) : upB hn (k + 1) = upB hn k ++ [⟨n - 1 - k, by omega⟩] := by simp [upB, List.range_succ]
theorem upB_len {n : Nat} (hn : 0 < n) (k : Nat) : (upB hn k).length = k := by simp [upB]
def encB (ws : List Nat) (x : Ixn ws.length) : Array Value := #[.int .i64 (x.1 : Int), .float .f32 (ws.getD x.1 0)]
def KpW (n₀ Bs : Nat) (w w' : World) : Prop := Below n₀ w w' ∧ w'.cell? ⟨Bs, 0, none⟩ = w.cell? ⟨Bs, 0, none⟩
theorem bwd_any (A : Option Addr) (m c : Nat) (w : World) : Calls Try.prog 123 #[.slice A m c] w fun e w' => e = .returned (.func (.func 145) #[] #[.pointer (some ⟨w.heap.size, 0, none⟩)]) ∧ w' = w.alloc (.cells #[.slice A m c] 22) := by
  go_enter Try.func123, Try.ntmps123
  go_wp2_with fail
  exact bodyPost_ret (v := .func (.func 145) #[] #[.pointer (some ⟨w.heap.size, 0, none⟩)]) (by simp [results, Try.results123, go_sem]) rfl ⟨rfl, rfl⟩
set_option maxHeartbeats 4000000 in
theorem bwd_stops (n : Nat) (hn : 1 ≤ n) (Bs n₀ b off c : Nat) (ws : List Nat) (h0 : 0 < ws.length) (h8 : ws.length ≤ 8) (hb : b < n₀) (w : World) (hBs : Bs < w.heap.size) (hn₀ : n₀ ≤ w.heap.size)
    (hv : w.cell? ⟨Bs, 0, none⟩ = some (.slice (some ⟨b, off, none⟩) ws.length c)) (hw : ∀ j, j < ws.length → w.cell? ⟨b, off + j, none⟩ = some (.float .f32 (ws.getD j 0))) :
    SeqStopsK Fence.wide n Try.prog 145 #[.pointer (some ⟨Bs, 0, none⟩)] (encB ws) (KpW n₀ Bs) (fun ys => ys = upB h0 ws.length) (fun _ => True) ws.length w := fun l J Jx W hW _ _ hY hJ0 => by
  have hv' := (hW.cell (p := ⟨Bs, 0, none⟩) hBs).trans hv
  have hw' : ∀ j, j < ws.length → W.cell? ⟨b, off + j, none⟩ = some (.float .f32 (ws.getD j 0)) := fun j hj => (hW.cell (p := ⟨b, off + j, none⟩) (Nat.lt_of_lt_of_le hb hn₀)).trans (hw j hj)
  clear hv hw hW hBs hn₀
  have hys : #[Value.func (.yield l) #[] #[]] ++ #[Value.pointer (some ⟨Bs, 0, none⟩)] = #[.func (.yield l) #[] #[], .pointer (some ⟨Bs, 0, none⟩)] := rfl
  rw [hys]
  refine callsIn_of_wp Try.func145 rfl trivial ?_ rfl
  simp only [Try.ntmps145, List.size_toArray, List.length_cons, List.length_nil, Nat.reduceAdd, Nat.reduceSub, Array.replicate_succ, Array.replicate_zero, List.push_toArray, List.append_toArray, List.nil_append, List.cons_append]
  gi_wp2
  gi_loopw [3] (fun i wr => ∃ k : Nat, k ≤ ws.length ∧ i = .int .i64 ((ws.length : Int) - 1 - k) ∧ J (upB h0 k) wr ∧ Below n₀ W wr ∧ wr.cell? ⟨Bs, 0, none⟩ = some (.slice (some ⟨b, off, none⟩) ws.length c))
    (fun i _ => (intOf i + 1).toNat)
  case atStart => exact ⟨0, Nat.zero_le _, by simp, hJ0, Below.refl _ _, hv'⟩
  case round =>
    obtain ⟨k, hk, rfl, hJs, hnx, hvr⟩ := hrel
    by_cases hlt : k < ws.length
    · obtain ⟨q, hq⟩ : ∃ q, q = ws.length - 1 - k := ⟨_, rfl⟩
      have hqn : q < ws.length := by omega
      have hx := (hnx.cell (p := ⟨b, off + q, none⟩) hb).trans (hw' q hqn)
      obtain ⟨fn, tmps, assign, body, hy, hR⟩ := hY _ ⟨q, hqn⟩ wr hJs (by rw [upB_len]; exact hlt)
      have hi : (ws.length : Int) - 1 - (k : Int) = (q : Int) := by omega
      have hge : (0 : Int) ≤ (q : Int) := by omega
      have hls : (q : Int) < (ws.length : Int) := by omega
      have HDN := Lib.hid (show ((q : Int) - 1) = (ws.length : Int) - 1 - ((k + 1 : Nat) : Int) by omega)
      have HS := Lib.hid (show upB h0 (k + 1) = upB h0 k ++ [⟨q, hqn⟩] by subst hq; exact upB_succ h0 k)
      rw [hi]
      clear hi hq
      simp only [encB, List.getD_eq_getElem?_getD] at hy
      simp only [List.getD_eq_getElem?_getD] at hx
      generalize ws[q]?.getD 0 = x at *
      gi_wp2
      refine hR.mono ?_
      rintro e W3 (⟨rfl, hJ3, hk3⟩ | ⟨rfl, hJx3⟩)
      · obtain ⟨hk4, hk5⟩ := hk3
        have hv3 := hk5.trans hvr
        have HV3 := Lib.hid hv3
        gi_wp2
        go_roundw
        case rel => exact ⟨k + 1, by omega, by first | rw [HDN.out] | (rw [← HDN.out]; go_num), by rw [HS.out]; exact hJ3, hnx.trans hk4, HV3.out⟩
        case measure => simp [intOf] <;> omega
      · gi_wp2
        refine bodyPost_ret (results_none rfl _ _ _) rfl ?_
        exact ⟨⟨_, rfl⟩, .inr ⟨_, trivial, hJx3⟩⟩
    · obtain rfl : k = ws.length := by omega
      have hi : ((ws.length : Int) - 1 - (ws.length : Int)) = -1 := by omega
      rw [hi]
      gi_wp2
      go_end0
      exact ⟨⟨_, rfl⟩, .inl ⟨_, rfl, hJs⟩⟩
end Go.Proofs.Ytfbdmhkmkmbipaa
