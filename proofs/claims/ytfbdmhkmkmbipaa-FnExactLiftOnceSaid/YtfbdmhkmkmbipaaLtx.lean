/-
  LiftOnce of both sides: the lists' very bits (what is finite is no not-a-number).
-/
import Derived.Test.YtfbdmhkmkmbipaaLtI
import Derived.Test.YtfbdmhkmkmbipaaLtS
namespace Go.Proofs.Ytfbdmhkmkmbipaa
open Go.RowKit Fl
set_option linter.unusedVariables false
set_option maxRecDepth 100000
open Sf (vsB vsI_any vsP_any RetBB)

def RetL3 (ws : List Nat) (s : Nat) (xs : List Nat) (w : World) (e : Ending) (w' : World) : Prop :=
  ∃ v u, e = .returned (.tuple #[v, u, .bool (loB ws s xs)]) ∧ Own w' w.heap.size v (fl (loEr ws s xs)) ∧ Own w' w.heap.size u (fl (loOr ws s xs)) ∧ Apart u v ∧ Below w.heap.size w w'
def RetL4 (L M : List Nat) (b : Bool) (w : World) (e : Ending) (w' : World) : Prop :=
  ∃ v u, e = .returned (.tuple #[v, u, .bool b]) ∧ Own w' w.heap.size v (fl L) ∧ Own w' w.heap.size u (fl M) ∧ Apart u v ∧ Below w.heap.size w w'
theorem retL4 {ws xs : List Nat} {s : Nat} {w : World} {e : Ending} {w' : World} (h : RetL3 ws s xs w e w') : RetL4 (loEr ws s xs) (loOr ws s xs) (loB ws s xs) w e w' := h
theorem lor_len2 (ws : List Nat) (s : Nat) (xs : List Nat) : (loEr ws s xs).length ≤ 1048576 ∧ (loOr ws s xs).length ≤ 1048576 := by
  unfold loEr loOr
  cases h : loB ws s xs
  · simp only [Bool.false_eq_true, if_false]; exact ⟨Nat.zero_le _, Nat.zero_le _⟩
  · obtain ⟨a, b⟩ := lo_lens ws s xs
    unfold loB at h
    simp only [Bool.and_eq_true] at h
    have := (isL_out h.1.2).1.2
    simp only [if_true]
    omega
theorem isL_fin_eq {a b : List Nat} (h : IsL a b) (hf : finA b = true) : a = b := by
  have ha : finA a = true := (isLs_fin (isL_isLs h)).trans hf
  refine List.ext_getElem h.1 fun i h1 h2 => ?_
  have q := (h.2 i).1
  rw [List.getD_eq_getElem?_getD, List.getElem?_eq_getElem h1, List.getD_eq_getElem?_getD, List.getElem?_eq_getElem h2] at q
  simp only [Option.getD_some] at q
  rw [← q]
  exact ((is_fin (finA_out ha i h1) (isL_lt h _ (List.getElem_mem h1))).1).symm
theorem lor_fin (ws : List Nat) (s : Nat) (xs : List Nat) : finA (loEr ws s xs) = true ∧ finA (loOr ws s xs) = true := by
  unfold loEr loOr
  cases h : loB ws s xs
  · simp only [Bool.false_eq_true, if_false]; exact ⟨by decide, by decide⟩
  · unfold loB at h
    simp only [Bool.and_eq_true] at h
    exact ⟨h.2.1, h.2.2⟩
theorem retL3 {ws xs : List Nat} {s : Nat} {w w' : World} {e : Ending} (h : RetL2 ws s xs w e w') : RetL3 ws s xs w e w' := by
  obtain ⟨v, u, cE, cO, he, o1, i1, o2, i2, ap, hb⟩ := h
  obtain rfl := isL_fin_eq i1 (lor_fin ws s xs).1
  obtain rfl := isL_fin_eq i2 (lor_fin ws s xs).2
  exact ⟨v, u, he, o1, o2, ap, hb⟩
theorem lxI_any (s : Nat) (ws xs : List Nat) (vw vx : Value) (w : World) (hrw : Rd w w.heap.size vw (fl ws)) (hrx : Rd w w.heap.size vx (fl xs)) (hmw : ws.length ≤ 1048576) (hmx : xs.length ≤ 1048576) (hwx : ∀ x ∈ ws, x < 2 ^ 32) (hx : ∀ x ∈ xs, x < 2 ^ 32) (hs : s < 2 ^ 32) :
    Calls Try.prog 19 #[.agg #[vw, .float .f32 s], vx] w (RetL3 ws s xs w) :=
  (ltI_any s ws xs vw vx w hrw hrx hmw hmx hwx hx hs).mono fun _ _ h => retL3 h
theorem lxS_any (s : Nat) (ws xs : List Nat) (vw vx : Value) (w : World) (hrw : Rd w w.heap.size vw (fl ws)) (hrx : Rd w w.heap.size vx (fl xs)) (hmw : ws.length ≤ 1048576) (hmx : xs.length ≤ 1048576) (hwx : ∀ x ∈ ws, x < 2 ^ 32) (hx : ∀ x ∈ xs, x < 2 ^ 32) (hs : s < 2 ^ 32) :
    Calls Try.prog 16 #[.agg #[vw, .float .f32 s], vx] w (RetL3 ws s xs w) :=
  (ltS_any s ws xs vw vx w hrw hrx hmw hmx hwx hx hs).mono fun _ _ h => retL3 h
end Go.Proofs.Ytfbdmhkmkmbipaa
