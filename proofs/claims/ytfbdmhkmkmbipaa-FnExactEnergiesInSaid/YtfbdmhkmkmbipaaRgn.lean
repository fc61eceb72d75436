/-
  Contracts: where bands are, by the model.
-/
import Derived.Test.YtfbdmhkmkmbipaaPv
namespace Go.Proofs.Ytfbdmhkmkmbipaa
open Go.RowKit Fl
set_option linter.unusedVariables false

/-- A side that is halved k times, rounded up. -/
def hvI : Nat → Int → Int
  | 0, x => x
  | k + 1, x => (hvI k x + 1) / 2
theorem hvI_bd {x : Int} (h : 1 ≤ x ∧ x ≤ 16) : ∀ k, 1 ≤ hvI k x ∧ hvI k x ≤ 16
  | 0 => h
  | k + 1 => by have := hvI_bd h k; show 1 ≤ (hvI k x + 1) / 2 ∧ (hvI k x + 1) / 2 ≤ 16; omega
def HvRel (p q : Int) (n : Nat) (a b i : Value) : Prop := ∃ k : Nat, k ≤ n ∧ i = .int .i64 k ∧ a = .int .i64 (hvI k p) ∧ b = .int .i64 (hvI k q)
set_option maxHeartbeats 1000000 in
theorem hvS_any (p q : Int) (n : Nat) (w : World) (hp : 1 ≤ p ∧ p ≤ 16) (hq : 1 ≤ q ∧ q ≤ 16) (hn : n ≤ 4) :
    Calls Try.prog 136 #[.int .i64 p, .int .i64 q, .int .i64 n] w fun e w' => e = .returned (.tuple #[.int .i64 (hvI n p), .int .i64 (hvI n q)]) ∧ w = w' := by
  go_enter Try.func136, Try.ntmps136
  go_wp2_with fail
  go_loop [0, 1, 8] (HvRel p q n) (fun _ _ i => n - (intOf i).toNat)
  case atStart => exact ⟨0, Nat.zero_le _, rfl, rfl, rfl⟩
  case round =>
    obtain ⟨k, hk, rfl, rfl, rfl⟩ := hrel
    have h1 := hvI_bd hp k
    have h2 := hvI_bd hq k
    by_cases hlt : k < n
    · go_wp2_with fail
      go_round
      case rel => exact ⟨k + 1, by omega, by go_num, rfl, rfl⟩
      case measure => simp [intOf]; omega
    · obtain rfl : k = n := by omega
      go_wp2_with fail
      go_ret2
      exact ⟨rfl, rfl⟩
def lvB (l : Int) : Bool := decide (1 ≤ l ∧ l ≤ 4)
theorem lvS_any (l : Int) (w : World) : Calls Try.prog 95 #[.int .i64 l] w fun e w' => e = .returned (.bool (lvB l)) ∧ w = w' := by
  have HI := Lib.hid (fun w => inB_any l 1 4 w)
  go_enter Try.func95, Try.ntmps95
  go_wp2_with fail
  refine (HI.out _).mono ?_
  rintro e w1 ⟨rfl, rfl⟩
  go_wp2_with fail
  go_ret
  exact ⟨by simp [lvB], rfl⟩
def rgX (l : Nat) (b p q : Int) : Int := if b = 1 ∨ b = 3 then hvI (l + 1) p else 0
def rgY (l : Nat) (b p q : Int) : Int := if b = 2 ∨ b = 3 then hvI (l + 1) q else 0
def rgW (l : Nat) (b p q : Int) : Int := if b = 1 ∨ b = 3 then hvI l p - hvI (l + 1) p else hvI (l + 1) p
def rgH (l : Nat) (b p q : Int) : Int := if b = 2 ∨ b = 3 then hvI l q - hvI (l + 1) q else hvI (l + 1) q
set_option maxHeartbeats 2000000 in
theorem rgS_any (p q : Int) (l : Nat) (b : Int) (w : World) (hp : 1 ≤ p ∧ p ≤ 16) (hq : 1 ≤ q ∧ q ≤ 16) (hl : l ≤ 3) (hb : 0 ≤ b ∧ b ≤ 3) :
    Calls Try.prog 131 #[.int .i64 p, .int .i64 q, .int .i64 ((l : Int) + 1), .int .i64 b] w fun e w' => e = .returned (.tuple #[.int .i64 (rgX l b p q), .int .i64 (rgY l b p q), .int .i64 (rgW l b p q), .int .i64 (rgH l b p q)]) ∧ w = w' := by
  have h1 := hvI_bd hp l
  have h2 := hvI_bd hq l
  have h3 := hvI_bd hp (l + 1)
  have h4 := hvI_bd hq (l + 1)
  have HA := Lib.hid (fun w => hvS_any p q l w hp hq (by omega))
  have HB := Lib.hid (fun w => (show Calls Try.prog 136 #[.int .i64 (hvI l p), .int .i64 (hvI l q), .int .i64 1] w fun e w' => e = .returned (.tuple #[.int .i64 (hvI (l + 1) p), .int .i64 (hvI (l + 1) q)]) ∧ w = w' from hvS_any (hvI l p) (hvI l q) 1 w h1 h2 (by omega)))
  obtain rfl | rfl | rfl | rfl : b = 0 ∨ b = 1 ∨ b = 2 ∨ b = 3 := by omega
  all_goals
    simp only [rgX, rgY, rgW, rgH, show ((0 : Int) = 1) = False by simp, show ((0 : Int) = 3) = False by simp, show ((0 : Int) = 2) = False by simp, show ((1 : Int) = 3) = False by simp, show ((1 : Int) = 2) = False by simp, show ((2 : Int) = 1) = False by simp, show ((2 : Int) = 3) = False by simp, show ((3 : Int) = 1) = False by simp, show ((3 : Int) = 2) = False by simp, or_self, or_false, or_true, if_true, if_false, eq_self]
    go_enter Try.func131, Try.ntmps131
    go_wp2_with fail
    refine (HA.out _).mono ?_
    rintro e w1 ⟨rfl, rfl⟩
    go_wp2_with fail
    refine (HB.out _).mono ?_
    rintro e w2 ⟨rfl, rfl⟩
    go_wp2_with fail
    exact bodyPost_ret (by simp [results, Try.results131, go_sem]) rfl ⟨rfl, rfl⟩
def rgB (p q l b : Int) : Bool := ssB p q && lvB l && decide (0 ≤ b ∧ b ≤ 3)
def rgV (f : Nat → Int → Int → Int → Int) (p q l b : Int) : Int := if rgB p q l b then f (l - 1).toNat b p q else 0
def RetRg (p q l b : Int) (w : World) (e : Ending) (w' : World) : Prop := e = .returned (.tuple #[.int .i64 (rgV rgX p q l b), .int .i64 (rgV rgY p q l b), .int .i64 (rgV rgW p q l b), .int .i64 (rgV rgH p q l b), .bool (rgB p q l b)]) ∧ Below w.heap.size w w'
theorem retRg_no {p q l b : Int} {w w' : World} (h : rgB p q l b = false) (hb : Below w.heap.size w w') : RetRg p q l b w (.returned (.tuple #[.int .i64 0, .int .i64 0, .int .i64 0, .int .i64 0, .bool false])) w' := by
  unfold RetRg rgV; rw [h]; exact ⟨rfl, hb⟩
theorem retRg_yes {p q b : Int} {l : Nat} {w w' : World} (h : rgB p q ((l : Int) + 1) b = true) (hb : Below w.heap.size w w') : RetRg p q ((l : Int) + 1) b w (.returned (.tuple #[.int .i64 (rgX l b p q), .int .i64 (rgY l b p q), .int .i64 (rgW l b p q), .int .i64 (rgH l b p q), .bool true])) w' := by
  unfold RetRg rgV; rw [h, show ((l : Int) + 1 - 1).toNat = l by omega]; exact ⟨rfl, hb⟩
end Go.Proofs.Ytfbdmhkmkmbipaa
