/-
  Contracts: whether a pixel is coarse, and absolute values, by the model.
-/
import Derived.Test.YtfbdmhkmkmbipaaFiK
import Derived.Test.YtfbdmhkmkmbipaaAbs
import Derived.Deep.QuietTactic
import Derived.BigQuiet
namespace Go.Proofs.Ytfbdmhkmkmbipaa
open Go.RowKit Fl
set_option linter.unusedVariables false
set_option maxRecDepth 100000

set_option maxHeartbeats 4000000 in
theorem csS_any (g : Nat) (p q : Int) (L k : Nat) (w : World) (hp : 1 ≤ p ∧ p ≤ 16) (hq : 1 ≤ q ∧ q ≤ 16) (hL : L ≤ 4) (hk : k ≤ 256) (h0 : w.cell? ⟨g, 0, none⟩ = some (.int .i64 p)) (h1 : w.cell? ⟨g, 1, none⟩ = some (.int .i64 q)) :
    Calls Try.prog 107 #[.pointer (some ⟨g, 0, none⟩), .int .i64 (L : Int), .int .i64 (k : Int)] w fun e w' => e = .returned (.bool (csB p q L k)) ∧ ∃ n, w' = w.drewN n := by
  obtain ⟨P, rfl⟩ : ∃ P : Nat, p = (P : Int) := ⟨p.toNat, by omega⟩
  have HR := Lib.hid (fun a => (hvS_any (P : Int) q L (w.drewN a) hp hq (by omega)).mono (R' := fun e w'' => e = .returned (.tuple #[.int .i64 (hvI L P), .int .i64 (hvI L q)]) ∧ ∃ q, w'' = w.drewN q) fun e w' ⟨he, hw⟩ => ⟨he, a, hw.symm⟩)
  have hu := hvI_bd hp L
  have hv := hvI_bd hq L
  unfold csB cseB
  rw [Int.toNat_natCast]
  have hpz : ¬ (P : Int) = 0 := by omega
  have hpzN : ¬ P = 0 := by omega
  have hrem : (k : Int).tmod (P : Int) = ((k % P : Nat) : Int) := by rw [Int.tmod_eq_emod_of_nonneg (by omega)]; simp
  have hquo : (k : Int).tdiv (P : Int) = ((k / P : Nat) : Int) := by rw [Int.tdiv_eq_ediv_of_nonneg (by omega)]; simp
  have hql : k / P ≤ k := Nat.div_le_self _ _
  have hrl : k % P ≤ k := Nat.mod_le _ _
  generalize k % P = a at *
  generalize k / P = b at *
  generalize hvI L (P : Int) = u at *
  generalize hvI L q = v at *
  have hyw : IntKind.i64.wrap (b : Int) = (b : Int) := by rw [IntKind.wrap_i64]; omega
  by_cases ha : (a : Int) < u
  · rw [decide_eq_true ha, Bool.true_and]
    by_cases hb : (b : Int) < v
    · rw [decide_eq_true hb]
      have hd : decide ((b : Int) < v) = true := decide_eq_true hb
      go_enter Try.func107, Try.ntmps107
      go_wp2_with fail
      go_quiet (exact HR.out _)
      go_wp2_with fail
      go_ret
      first | exact ⟨rfl, _, rfl⟩ | exact ⟨by rw [← hd]; rfl, _, rfl⟩
    · rw [decide_eq_false hb]
      have hd : decide ((b : Int) < v) = false := decide_eq_false hb
      have hb' : v ≤ (b : Int) := by omega
      go_enter Try.func107, Try.ntmps107
      go_wp2_with fail
      go_quiet (exact HR.out _)
      go_wp2_with fail
      go_ret
      first | exact ⟨rfl, _, rfl⟩ | exact ⟨by rw [← hd]; rfl, _, rfl⟩
  · rw [decide_eq_false ha, Bool.false_and]
    have hd : decide ((a : Int) < u) = false := decide_eq_false ha
    have ha' : u ≤ (a : Int) := by omega
    go_enter Try.func107, Try.ntmps107
    go_wp2_with fail
    go_quiet (exact HR.out _)
    go_wp2_with fail
    go_ret
    first | exact ⟨rfl, _, rfl⟩ | exact ⟨by rw [← hd]; rfl, _, rfl⟩
set_option maxHeartbeats 400000 in
theorem siz2_any (x : Nat) (w : World) (hx : x < 2 ^ 32) (hf : finB .f32 x = true) : Calls Try.prog 108 #[.float .f32 x] w fun e w' => e = .returned (.float .f32 (x % 2 ^ 31)) ∧ ∃ n, w' = w.drewN n := by
  have hn : isN .f32 (x % 2 ^ 31) = false := by
    rw [isN_mod32]
    unfold finB at hf
    unfold isN
    cases hq : FloatKind.f32.format.read x <;> rw [hq] at hf <;> simp_all [Ieee.Datum.isNaN]
  cases hle : leB x 0 with
  | true =>
    have HA := Lib.hid (neg_abs x hx hf hle)
    have HN := Lib.hid hn
    have hle' : (FloatKind.f32.format.order x 0 == some .lt || FloatKind.f32.format.order x 0 == some .eq) = true := hle
    clear hle hf hn
    go_enter Try.func108, Try.ntmps108
    go_wp2_with (refine up_ar rfl ?_; intro r n hr)
    go_ret
    refine ⟨?_, _, rfl⟩
    rw [← is_eq (show Is .f32 r (x % 2 ^ 31) by rw [← HA.out]; exact hr) HN.out]
    rfl
  | false =>
    have HA := Lib.hid (pos_abs x hx hf hle)
    have hle' : (FloatKind.f32.format.order x 0 == some .lt || FloatKind.f32.format.order x 0 == some .eq) = false := hle
    clear hle hf hn
    go_enter Try.func108, Try.ntmps108
    go_wp2_with fail
    go_ret
    exact ⟨by rw [HA.out]; rfl, 0, rfl⟩
end Go.Proofs.Ytfbdmhkmkmbipaa
