/-
  Contracts: LiftLevels of both sides, at all arguments.
-/
import Derived.Test.YteogogcjndfkoabLvS
namespace Go.Proofs.Yteogogcjndfkoab
open Go.RowKit
set_option linter.unusedVariables false

theorem lvI_any (kind : Int) (A : Option Addr) (c : Nat) (xs : List Int) (l : Int) (w : World) (h : Rd w w.heap.size (.slice A xs.length c) (il xs)) (hm : xs.length ≤ 1048576) :
    Calls Try.prog 35 #[.int .i64 kind, .slice A xs.length c, .int .i64 l] w (RetSSB (lvR kind xs l) (lvB kind xs l) w) := by
  cases hb : lvB kind xs l with
  | false => rw [lvR_no hb]; exact lvI_no kind A c xs l w h hm hb
  | true =>
    have hl := of_decide_eq_true (lvB_out hb).2.2
    have ha := areB_len (lvB_out hb).2.1
    obtain ⟨L, rfl⟩ : ∃ L : Nat, l = L := ⟨l.toNat, by omega⟩
    rw [lvR_yes hb, Int.toNat_natCast]
    cases A with
    | none =>
      obtain ⟨A', c', hv, _, _, hc⟩ := h
      obtain ⟨b, off, e, _⟩ := hc (by rw [il_len]; omega)
      subst e
      simp at hv
    | some a => exact lvI_yes kind a c xs L w h hm hb
theorem lvS_any (kind : Int) (A : Option Addr) (c : Nat) (xs : List Int) (l : Int) (w : World) (h : Rd w w.heap.size (.slice A xs.length c) (il xs)) (hm : xs.length ≤ 1048576) :
    Calls Try.prog 33 #[.int .i64 kind, .slice A xs.length c, .int .i64 l] w (RetSSB (lvR kind xs l) (lvB kind xs l) w) := by
  cases hb : lvB kind xs l with
  | false => rw [lvR_no hb]; exact lvS_no kind A c xs l w h hm hb
  | true =>
    have hl := of_decide_eq_true (lvB_out hb).2.2
    have ha := areB_len (lvB_out hb).2.1
    obtain ⟨L, rfl⟩ : ∃ L : Nat, l = L := ⟨l.toNat, by omega⟩
    rw [lvR_yes hb, Int.toNat_natCast]
    cases A with
    | none =>
      obtain ⟨A', c', hv, _, _, hc⟩ := h
      obtain ⟨b, off, e, _⟩ := hc (by rw [il_len]; omega)
      subst e
      simp at hv
    | some a => exact lvS_yes kind a c xs L w h hm hb
end Go.Proofs.Yteogogcjndfkoab
