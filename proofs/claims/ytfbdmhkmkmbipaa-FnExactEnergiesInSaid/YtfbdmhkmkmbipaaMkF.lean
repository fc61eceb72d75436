/-
  Contracts: the law's own marks of lists of 32-bit floats.
-/
import Derived.Test.YtfbdmhkmkmbipaaFin
import Derived.Test.YtfbdmhkmkmbipaaMem
namespace Go.Proofs.Ytfbdmhkmkmbipaa
open Go.RowKit Fl
set_option linter.unusedVariables false

theorem foi_not (n : Int) : isN .f32 (floatOfInt .f32 n) = false := by
  unfold floatOfInt FloatKind.nearest isN
  exact read_write _ _ rfl
theorem foi_neq (n : Int) : (FloatKind.f32.format.order (floatOfInt .f32 n) (floatOfInt .f32 n) != some .eq) = false := by
  rw [neq_self, foi_not]
/-- The marks from k on. -/
def mkF (k : Int) (i : Nat) : Value := .float .f32 (floatOfInt .f32 (k + i))
def MkRelF (w : World) (b off n : Nat) (k0 : Int) (k i : Value) (wr : World) : Prop := ∃ j : Nat, j ≤ n ∧ i = .int .i64 j ∧ k = .int .i64 (k0 + j) ∧ wr = putK w b off (mkF k0) j
set_option maxHeartbeats 1000000 in
theorem markF_any (v : Value) (xs : List Nat) (k0 : Int) (w : World) (lo : Nat) (h : Own w lo v (fl xs)) (hm : xs.length ≤ 1048576) (hk0 : 0 ≤ k0) (hk1 : k0 ≤ 1000000000) :
    Calls Try.prog 23 #[v, .int .i64 k0] w fun e w' => e = .returned (.int .i64 (k0 + xs.length)) ∧ w' = over w v (mkF k0) := by
  obtain ⟨A, c, hv, hc1, hc2, hcell⟩ := h
  rw [fl_len] at hv hc1 hcell
  subst hv
  have hsf : ∀ (a : Addr) (x : Nat) (w : World), (store a (.float .f32 x)).run Try.prog w = stored Try.prog w a (.float .f32 x) .plain := fun a x w => run_store _ w a _ _ rfl
  by_cases hp : 0 < xs.length
  · obtain ⟨b, off, rfl, hlo, hbw, hc, hf⟩ := hcell hp
    clear hcell
    have hC := Lib.hid hc
    have hF := Lib.hid hf
    clear hc hf
    go_enter Try.func23, Try.ntmps23
    go_wp2
    go_loopw [1, 5] (MkRelF w b off xs.length k0) (fun _ i _ => xs.length - (intOf i).toNat)
    case atStart => exact ⟨0, Nat.zero_le _, rfl, by simp, rfl⟩
    case round =>
      obtain ⟨j, hj, rfl, rfl, rfl⟩ := hrel
      by_cases hlt : j < xs.length
      · have hdst : (putK w b off (mkF k0) j).cell? ⟨b, off + j, none⟩ = some (.float .f32 xs[j]) := by
          rw [putK_cell_out _ _ _ _ _ _ _ (.inr (.inr (Nat.le_refl _)))]; exact hC.out j _ (fl_get xs j hlt)
        have hfz : (putK w b off (mkF k0) j).frozen? ⟨b, off + j, none⟩ = false := by rw [putK_frozen]; exact hF.out j hlt
        go_wp2
        go_roundw
        case rel => exact ⟨j + 1, by omega, by go_num, by go_num, rfl⟩
        case measure => simp [intOf]; omega
      · obtain rfl : j = xs.length := by omega
        go_wp2
        go_ret
        exact ⟨rfl, rfl⟩
  · have hz : xs.length = 0 := by omega
    rw [hz, over_nil]
    clear hcell hp hc1
    go_enter Try.func23, Try.ntmps23
    go_wp2
    refine wp_loop_rounds 1 ?_
    rw [rounds_succ]
    go_wp2
    go_ret
    exact ⟨by simp, rfl⟩
def HdRelF (n : Nat) (k0 : Int) (k i : Value) : Prop := ∃ j : Nat, j ≤ n ∧ i = .int .i64 j ∧ k = .int .i64 (k0 + j)
set_option maxHeartbeats 1000000 in
theorem heldF_any (v : Value) (n : Nat) (k0 : Int) (w : World) (B : Nat) (h : Rd w B v ((List.range n).map (mkF k0))) (hm : n ≤ 1048576) (hk0 : 0 ≤ k0) (hk1 : k0 ≤ 1000000000) :
    Calls Try.prog 24 #[v, .int .i64 k0] w fun e w' => e = .returned (.int .i64 (k0 + n)) ∧ w = w' := by
  obtain ⟨A, c, hv, hc1, hc2, hcell⟩ := h
  have hl : ((List.range n).map (mkF k0)).length = n := by simp
  rw [hl] at hv hc1 hcell
  subst hv
  clear hl
  by_cases hp : 0 < n
  · obtain ⟨b, off, rfl, hbw, hc⟩ := hcell hp
    clear hcell
    have hC := Lib.hid hc
    clear hc
    go_enter Try.func24, Try.ntmps24
    go_wp2
    go_loop [1, 5] (HdRelF n k0) (fun _ i => n - (intOf i).toNat)
    case atStart => exact ⟨0, Nat.zero_le _, rfl, by simp⟩
    case round =>
      obtain ⟨j, hj, rfl, rfl⟩ := hrel
      by_cases hlt : j < n
      · have hsrc : w.cell? ⟨b, off + j, none⟩ = some (.float .f32 (floatOfInt .f32 (k0 + j))) := hC.out j _ (by simp [hlt, mkF])
        have hne := foi_neq (k0 + j)
        go_wp2
        go_round
        case rel => exact ⟨j + 1, by omega, by go_num, by go_num⟩
        case measure => simp [intOf]; omega
      · obtain rfl : j = n := by omega
        go_wp2
        go_ret
        exact ⟨rfl, rfl⟩
  · have hz : n = 0 := by omega
    subst hz
    clear hcell hp hc1
    go_enter Try.func24, Try.ntmps24
    go_wp2
    refine wp_loop_rounds 1 ?_
    rw [rounds_succ]
    go_wp2
    go_ret
    exact ⟨by simp, rfl⟩
end Go.Proofs.Ytfbdmhkmkmbipaa
