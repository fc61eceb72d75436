/-
  Contracts: IsName of both sides, for every text.
-/
import Derived.Test.YthkklilfignmpaaChecked
import Derived.Test.YthkklilfignmpaaLow
import Derived.WalkKit
import Derived.Handy
import Derived.Lib.Hide
import Derived.Laws.RangeAny
namespace Go.Proofs.Ythkklilfignmpaa
open Go.RowKit
set_option linter.unusedVariables false

def nm (c : UInt8) : Bool := decide (97 ≤ (c.toNat : Int) ∧ (c.toNat : Int) ≤ 122)
def nmAll (s : ByteArray) (k : Nat) : Prop := ∀ i (h : i < s.size), i < k → nm s[i] = true
/-- A name: 1 to 8 letters. -/
def nmF (s : ByteArray) : Bool := decide (1 ≤ s.size ∧ s.size ≤ 8 ∧ ∀ i (h : i < s.size), nm s[i] = true)
theorem nmF_yes {s : ByteArray} (h1 : 1 ≤ s.size) (h2 : s.size ≤ 8) (h : nmAll s s.size) : nmF s = true := decide_eq_true ⟨h1, h2, fun i hi => h i hi hi⟩
theorem nmF_no {s : ByteArray} {k : Nat} (hk : k < s.size) (h : nm s[k] = false) : nmF s = false := decide_eq_false fun ⟨_, _, hh⟩ => by rw [hh k hk] at h; cases h
theorem nmF_short {s : ByteArray} (h : s.size < 1 ∨ 8 < s.size) : nmF s = false := decide_eq_false fun ⟨_, _, _⟩ => by omega
theorem nmAll_succ {s : ByteArray} {k : Nat} (hk : k < s.size) (h : nmAll s k) (hn : nm s[k] = true) : nmAll s (k + 1) := by
  intro i hi hlt
  by_cases he : i = k
  · subst he; exact hn
  · exact h i hi (by omega)

set_option maxHeartbeats 400000 in
theorem nmI_any (s : ByteArray) (w : World) (hs : s.size ≤ maxLen) :
    Calls Try.prog 91 #[.string s] w fun e w' => e = .returned (.bool (nmF s)) ∧ Below w.heap.size w w' := by
  unfold maxLen at hs
  by_cases h0 : s.size < 1
  · have HN := Lib.hid (nmF_short (s := s) (.inl h0))
    go_enter Try.func91, Try.ntmps91
    go_wp2
    go_ret
    rw [HN.out]
    exact ⟨rfl, Below.refl _ _⟩
  · by_cases h8 : 8 < s.size
    · have HN := Lib.hid (nmF_short (s := s) (.inr h8))
      have h00 : 1 ≤ s.size := by omega
      clear h0
      go_enter Try.func91, Try.ntmps91
      go_wp2
      go_ret
      rw [HN.out]
      exact ⟨rfl, Below.refl _ _⟩
    · have h00 : 1 ≤ s.size := by omega
      have h88 : s.size ≤ 8 := by omega
      clear h0 h8
      go_enter Try.func91, Try.ntmps91
      go_wp2
      go_loopw [4] (fun v wr => ∃ k : Nat, k ≤ s.size ∧ nmAll s k ∧ wr = w.iter s k) (fun _ wr => s.size - wr.iterPos w.heap.size)
      case atStart => exact ⟨0, Nat.zero_le _, fun i _ h => by omega, rfl⟩
      case round =>
        obtain ⟨k, hk, ha, rfl⟩ := hrel
        have HA := Lib.hid ha
        clear ha
        by_cases hlt : k < s.size
        · by_cases h128 : s[k].toNat < 128
          · have hnx := fun ty => run_next_ascii (P := Try.prog) w s k ty hlt h128
            cases hn : nm s[k] with
            | true =>
              obtain ⟨h1, h2⟩ := of_decide_eq_true hn
              have HN := Lib.hid hn
              clear hn
              go_wp2
              go_roundw
              case rel => exact ⟨k + 1, by omega, nmAll_succ hlt HA.out HN.out, rfl⟩
              case measure => simp; omega
            | false =>
              have h12 : (s[k].toNat : Int) < 97 ∨ 122 < (s[k].toNat : Int) := by
                have := of_decide_eq_false hn; omega
              have HN := Lib.hid (nmF_no hlt hn)
              clear hn
              rcases h12 with h1 | h1
              · go_wp2
                go_ret
                rw [HN.out]
                exact ⟨rfl, (Below.refl _ _).alloc (Nat.le_refl _) _⟩
              · have h2 : 97 ≤ (s[k].toNat : Int) := by omega
                go_wp2
                go_ret
                rw [HN.out]
                exact ⟨rfl, (Below.refl _ _).alloc (Nat.le_refl _) _⟩
          · have hnx := fun ty => run_next_any (P := Try.prog) w s k ty hlt
            obtain ⟨hd1, hd2⟩ := decode_high s k hlt (by omega)
            have HN := Lib.hid (nmF_no hlt (show nm s[k] = false from decide_eq_false (by omega)))
            have h1 : 122 < ((Utf8.decode s k).1 : Int) := by omega
            have h2 : 97 ≤ ((Utf8.decode s k).1 : Int) := by omega
            clear hd1
            go_wp2
            go_ret
            rw [HN.out]
            exact ⟨rfl, (Below.refl _ _).alloc (Nat.le_refl _) _⟩
        · have hkk : k = s.size := by omega
          subst hkk
          have hnx := fun ty => run_next_end (P := Try.prog) w s s.size ty (by omega)
          have HN := Lib.hid (nmF_yes h00 h88 HA.out)
          go_wp2
          go_ret
          rw [HN.out]
          exact ⟨rfl, (Below.refl _ _).alloc (Nat.le_refl _) _⟩
end Go.Proofs.Ythkklilfignmpaa
