/-
  Contracts: the law's own comparison of lists of 32-bit floats.
-/
import Derived.Test.YtfbdmhkmkmbipaaListF
import Derived.Test.YtfbdmhkmkmbipaaCallA
import Derived.Deep.RegionWith
namespace Go.Proofs.Ytfbdmhkmkmbipaa
open Go.RowKit Fl
set_option linter.unusedVariables false

/-- Both lists are worth the same. -/
def Worth (xs ys : List Nat) : Prop := xs.map (cn .f32) = ys.map (cn .f32)
theorem Worth.refl (xs : List Nat) : Worth xs xs := rfl
theorem Worth.len {xs ys : List Nat} (h : Worth xs ys) : xs.length = ys.length := by
  have := congrArg List.length h; simpa using this
theorem Worth.at {xs ys : List Nat} (h : Worth xs ys) (k : Nat) (h1 : k < xs.length) (h2 : k < ys.length) : cn .f32 xs[k] = cn .f32 ys[k] := by
  have := congrArg (fun l => l[k]?) h
  simpa [h1, h2] using this
def EqRel (w : World) (n : Nat) (i : Value) (wr : World) : Prop := ∃ k m : Nat, k ≤ n ∧ i = .int .i64 k ∧ wr = w.drewN m

set_option maxRecDepth 100000 in
set_option maxHeartbeats 4000000 in
theorem eqF_any (va vb : Value) (xs ys : List Nat) (w : World) (B : Nat) (ha : Rd w B va (fl xs)) (hb : Rd w B vb (fl ys)) (hxy : Worth xs ys) (hm : xs.length ≤ 1048576) :
    Calls Try.prog 20 #[va, vb] w fun e w' => e = .returned (.bool true) ∧ ∃ n, w' = w.drewN n := by
  obtain ⟨A, c, hva, hc1, hc2, hca⟩ := ha
  obtain ⟨A', c', hvb, hc1', hc2', hcb⟩ := hb
  have hl := hxy.len
  have hWW := Lib.hid hxy
  rw [fl_len] at hva hvb hc1 hc1' hca hcb
  rw [← hl] at hvb hcb
  subst hva hvb
  have hCa := Lib.hid hca
  have hCb := Lib.hid hcb
  have hL := Lib.hid hl
  clear hca hcb hxy hl
  go_enter Try.func20, Try.ntmps20
  go_wp2
  go_loopw [5] (EqRel w xs.length) (fun i _ => xs.length - (intOf i).toNat)
  case atStart => exact ⟨0, 0, Nat.zero_le _, rfl, rfl⟩
  case round =>
    obtain ⟨k, m, hk, rfl, rfl⟩ := hrel
    by_cases hlt : k < xs.length
    · obtain ⟨b, off, rfl, hbl, hcc⟩ := hCa.out (by omega)
      obtain ⟨b', off', rfl, hbl', hcc'⟩ := hCb.out (by omega)
      have hk2 : k < ys.length := by have := hL.out; omega
      have hsrc : ∀ q, (w.drewN q).cell? ⟨b, off + k, none⟩ = some (.float .f32 xs[k]) := fun q => hcc k _ (fl_get xs k hlt)
      have hsrc' : ∀ q, (w.drewN q).cell? ⟨b', off' + k, none⟩ = some (.float .f32 ys[k]) := fun q => hcc' k _ (fl_get ys k hk2)
      have hw := Lib.hid (hWW.out.at k hlt hk2)
      have h1 : w.cell? ⟨b, off + k, none⟩ = some (.float .f32 xs[k]) := hcc k _ (fl_get xs k hlt)
      have h2 : w.cell? ⟨b', off' + k, none⟩ = some (.float .f32 ys[k]) := hcc' k _ (fl_get ys k hk2)
      clear hcc hcc' hCa hCb hWW hL
      generalize xs[k] = x at *
      generalize ys[k] = y at *
      go_wp2
      go_region_with (first | (refine up_wide (by rw [Try.underlying23]; rfl) Try.underlying72 ?_; intro r n hr) | (go_at_call 55; refine (same_wi _ _ _ (by assumption) (by assumption) hw.out).mono ?_; rintro e w' ⟨rfl, n, rfl⟩))
      all_goals
        go_wp2
        go_roundw
        case rel => exact ⟨k + 1, _, by omega, by go_num, rfl⟩
        case measure => simp [intOf]; omega
    · obtain rfl : k = xs.length := by omega
      go_wp2
      go_ret
      exact ⟨rfl, _, rfl⟩
end Go.Proofs.Ytfbdmhkmkmbipaa
