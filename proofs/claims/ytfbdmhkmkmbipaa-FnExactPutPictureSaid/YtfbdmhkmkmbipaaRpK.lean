/-
  The roughest place (no walk in it).
-/
import Derived.Test.YtfbdmhkmkmbipaaFiK
namespace Go.Proofs.Ytfbdmhkmkmbipaa
open Go.RowKit Fl
set_option linter.unusedVariables false
set_option maxRecDepth 100000

def rgS (f : Nat → Nat) (a i : Nat) : Nat := if gt32 (f i) (f a) then i else a
def rgK (f : Nat → Nat) : List Nat → Nat
  | [] => 0
  | a :: t => t.foldl (rgS f) a
theorem rgK_one (f : Nat → Nat) (i : Nat) : rgK f [i] = i := rfl
theorem rgK_app (f : Nat → Nat) {M : List Nat} (h : M ≠ []) (i : Nat) : rgK f (M ++ [i]) = rgS f (rgK f M) i := by
  cases M with
  | nil => exact absurd rfl h
  | cons a t => simp [rgK, List.foldl_append]
def rgP (f : Nat → Nat) (M : List Nat) (j : Nat) : Nat := (M.take j).foldl (rgS f) (M.getD 0 0)
theorem rgP_succ (f : Nat → Nat) {M : List Nat} {j : Nat} (h : j < M.length) : rgP f M (j + 1) = rgS f (rgP f M j) M[j] := by
  unfold rgP
  rw [List.take_succ_eq_append_getElem h, List.foldl_append]
  rfl
theorem rgP_all (f : Nat → Nat) {M : List Nat} (h : M ≠ []) : rgP f M M.length = rgK f M := by
  cases M with
  | nil => exact absurd rfl h
  | cons a t =>
    unfold rgP rgK
    rw [List.take_length]
    simp [rgS]
theorem rgP_lt (f : Nat → Nat) {M : List Nat} {n : Nat} (h : M ≠ []) (hM : ∀ i ∈ M, i < n) : ∀ j, j ≤ M.length → rgP f M j < n
  | 0, _ => by
    have hl : 0 < M.length := List.length_pos_iff.2 h
    have : rgP f M 0 = M[0] := by simp [rgP, hl]
    rw [this]; exact hM _ (List.getElem_mem hl)
  | j + 1, hj => by
    rw [rgP_succ f (by omega)]
    unfold rgS
    split
    · exact hM _ (List.getElem_mem _)
    · exact rgP_lt f h hM j (by omega)
def rpF (xs : List Nat) (i : Nat) : Nat := xs.getD i 0 % 2 ^ 31
def rpL (p q l : Int) : List Nat := fiN (csB p q l.toNat) (p * q).toNat
def rpB (p q : Int) (xs : List Nat) (l : Int) : Bool := vpcB p q xs && lvB l && !(rpL p q l).isEmpty
def rpA (p q : Int) (xs : List Nat) (l : Int) : Nat := rgK (rpF xs) (rpL p q l)
def rpX (p q : Int) (xs : List Nat) (l : Int) : Int := if rpB p q xs l then ((rpA p q xs l % p.toNat : Nat) : Int) else 0
def rpY (p q : Int) (xs : List Nat) (l : Int) : Int := if rpB p q xs l then ((rpA p q xs l / p.toNat : Nat) : Int) else 0
def rpC (p q : Int) (xs : List Nat) (l : Int) : Nat := if rpB p q xs l then rpF xs (rpA p q xs l) else 0
def RetQ4 (X Y : Int) (c : Nat) (b : Bool) (w : World) (e : Ending) (w' : World) : Prop := e = .returned (.tuple #[.int .i64 X, .int .i64 Y, .float .f32 c, .bool b]) ∧ Below w.heap.size w w'
def RetRp (p q : Int) (xs : List Nat) (l : Int) (w : World) : Ending → World → Prop := RetQ4 (rpX p q xs l) (rpY p q xs l) (rpC p q xs l) (rpB p q xs l) w
theorem retRp_no {p q : Int} {xs : List Nat} {l : Int} {w w' : World} (h : rpB p q xs l = false) (hb : Below w.heap.size w w') : RetRp p q xs l w (.returned (.tuple #[.int .i64 0, .int .i64 0, .float .f32 0, .bool false])) w' := by
  unfold RetRp rpX rpY rpC; rw [h]; exact ⟨rfl, hb⟩
theorem retRp_yes {p q : Int} {xs : List Nat} {l : Int} {w w' : World} (h : rpB p q xs l = true) (hb : Below w.heap.size w w') : RetRp p q xs l w (.returned (.tuple #[.int .i64 ((rpA p q xs l % p.toNat : Nat) : Int), .int .i64 ((rpA p q xs l / p.toNat : Nat) : Int), .float .f32 (rpF xs (rpA p q xs l)), .bool true])) w' := by
  unfold RetRp rpX rpY rpC; rw [h]; exact ⟨rfl, hb⟩
theorem getD_finR {xs : List Nat} (h : finA xs = true) (i : Nat) : finB .f32 (xs.getD i 0) = true := by
  by_cases hi : i < xs.length
  · rw [List.getD_eq_getElem?_getD, List.getElem?_eq_getElem hi]; exact finA_out h i hi
  · rw [List.getD_eq_getElem?_getD, List.getElem?_eq_none (by omega)]; decide
theorem getD_ltR {xs : List Nat} (h : ∀ x ∈ xs, x < 2 ^ 32) (i : Nat) : xs.getD i 0 < 2 ^ 32 := by
  by_cases hi : i < xs.length
  · rw [List.getD_eq_getElem?_getD, List.getElem?_eq_getElem hi]; exact h _ (List.getElem_mem hi)
  · rw [List.getD_eq_getElem?_getD, List.getElem?_eq_none (by omega)]; decide
/-- What the model has found behind the pixels M. -/
def rmI (f : Nat → Nat) (M : List Nat) : Int := if M.isEmpty then -1 else (rgK f M : Int)
def rmC (f : Nat → Nat) (M : List Nat) : Nat := if M.isEmpty then 0 else f (rgK f M)
end Go.Proofs.Ytfbdmhkmkmbipaa
