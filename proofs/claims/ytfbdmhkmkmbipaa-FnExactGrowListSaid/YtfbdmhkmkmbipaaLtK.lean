/-
  What lifting once answers (no walk in it).
-/
import Derived.Test.YtfbdmhkmkmbipaaLoK
import Derived.Test.YtfbdmhkmkmbipaaVs
namespace Go.Proofs.Ytfbdmhkmkmbipaa
open Go.RowKit Fl
set_option linter.unusedVariables false
set_option maxRecDepth 100000
open Sf (vsB vsI_any vsP_any RetBB)

def loB (ws : List Nat) (s : Nat) (xs : List Nat) : Bool := vsB ws s && isL xs && (finA (loE ws s xs) && finA (loO ws s xs))
def loEr (ws : List Nat) (s : Nat) (xs : List Nat) : List Nat := if loB ws s xs then loE ws s xs else []
def loOr (ws : List Nat) (s : Nat) (xs : List Nat) : List Nat := if loB ws s xs then loO ws s xs else []
def RetL2 (ws : List Nat) (s : Nat) (xs : List Nat) (w : World) (e : Ending) (w' : World) : Prop :=
  ∃ v u cE cO, e = .returned (.tuple #[v, u, .bool (loB ws s xs)]) ∧ Own w' w.heap.size v (fl cE) ∧ IsL cE (loEr ws s xs) ∧ Own w' w.heap.size u (fl cO) ∧ IsL cO (loOr ws s xs) ∧ Apart u v ∧ Below w.heap.size w w'
theorem own_nilL (w : World) (lo : Nat) : Own w lo (.slice none 0 0) (fl []) := ⟨none, 0, rfl, Nat.le_refl _, Nat.zero_le _, fun h => absurd h (by simp [fl])⟩
theorem isL_nil : IsL [] [] := ⟨rfl, fun i => by simpa using is_lit (by decide)⟩
theorem retL2_no {ws xs : List Nat} {s : Nat} {w w' : World} (h : loB ws s xs = false) (hb : Below w.heap.size w w') : RetL2 ws s xs w (.returned (.tuple #[.slice none 0 0, .slice none 0 0, .bool false])) w' := by
  refine ⟨.slice none 0 0, .slice none 0 0, [], [], by rw [h], own_nilL _ _, ?_, own_nilL _ _, ?_, ?_, hb⟩
  · unfold loEr; rw [h]; exact isL_nil
  · unfold loOr; rw [h]; exact isL_nil
  · intro a n c b m d e1 e2; injection e1 with e1; injection e1
theorem retL2_yes {ws xs cE cO : List Nat} {s : Nat} {v u : Value} {w w' : World} (h : loB ws s xs = true) (o1 : Own w' w.heap.size v (fl cE)) (i1 : IsL cE (loE ws s xs)) (o2 : Own w' w.heap.size u (fl cO)) (i2 : IsL cO (loO ws s xs)) (ap : Apart u v) (hb : Below w.heap.size w w') : RetL2 ws s xs w (.returned (.tuple #[v, u, .bool true])) w' := by
  refine ⟨v, u, cE, cO, by rw [h], o1, ?_, o2, ?_, ap, hb⟩
  · unfold loEr; rw [h]; exact i1
  · unfold loOr; rw [h]; exact i2
theorem vsB_out {ws : List Nat} {s : Nat} (h : vsB ws s = true) : (1 ≤ ws.length ∧ ws.length ≤ 8) ∧ finA ws = true ∧ finB .f32 s = true := by
  unfold vsB at h
  simp only [Bool.and_eq_true, decide_eq_true_eq] at h
  exact ⟨h.1.1.1, h.1.1.2, h.1.2⟩
theorem isL_out {xs : List Nat} (h : isL xs = true) : (1 ≤ xs.length ∧ xs.length ≤ 128) ∧ finA xs = true := by
  unfold isL at h
  simp only [Bool.and_eq_true, decide_eq_true_eq] at h
  exact h
theorem lo_lens (ws : List Nat) (s : Nat) (xs : List Nat) : (loE ws s xs).length = (xs.length + 1) / 2 ∧ (loO ws s xs).length = xs.length / 2 := by
  unfold loE loO
  constructor <;> split
  · rw [evN_len]
  · rw [scL_len, (wgK_len _ _ _ _).1, evN_len]
  · rw [odN_len]
  · rw [scL_len, (wgK_len _ _ _ _).2, odN_len]
theorem isLo_len {a b : List Nat} (h : IsL a b) : a.length = b.length := h.1
theorem lor_len (ws : List Nat) (s : Nat) (xs : List Nat) : (loEr ws s xs).length ≤ xs.length + 1 ∧ (loOr ws s xs).length ≤ xs.length := by
  unfold loEr loOr
  obtain ⟨a, b⟩ := lo_lens ws s xs
  constructor <;> split
  · omega
  · exact Nat.zero_le _
  · omega
  · exact Nat.zero_le _
end Go.Proofs.Ytfbdmhkmkmbipaa
