/-
  Contracts: tables of points, of both sides.
-/
import Derived.Test.YthkklilfignmpaaLst
import Derived.Test.YthkklilfignmpaaFloHu
import Derived.Deep.QuietTactic
import Derived.BigQuiet
namespace Go.Proofs.Ythkklilfignmpaa
open Go.RowKit Fl
set_option linter.unusedVariables false

def prevB (bs : List Int) (i : Nat) : Int := if i = 0 then -1 else bs.getD (i - 1) 0
def TbAt (bs : List Int) (ms : List Nat) (i : Nat) : Bool := decide (prevB bs i < bs.getD i 0) && lsB (ms.getD i 0)
def TbTo (bs : List Int) (ms : List Nat) (k : Nat) : Prop := ∀ i, i < k → TbAt bs ms i = true
def tbA (bs : List Int) (ms : List Nat) : Bool := decide (∀ i, i < bs.length → TbAt bs ms i = true)
def lnB (bs : List Int) (ms : List Nat) : Bool := decide (1 ≤ bs.length ∧ bs.length ≤ 64 ∧ ms.length = bs.length)
def tbB (bs : List Int) (ms : List Nat) : Bool := lnB bs ms && tbA bs ms
theorem prevB_succ (bs : List Int) (k : Nat) : prevB bs (k + 1) = bs.getD k 0 := by unfold prevB; rw [if_neg (by omega)]; rfl
theorem tbTo_succ {bs : List Int} {ms : List Nat} {k : Nat} (h : TbTo bs ms k) (h1 : TbAt bs ms k = true) : TbTo bs ms (k + 1) := by
  intro i hi
  by_cases he : i = k
  · rw [he]; exact h1
  · exact h i (by omega)
theorem tbAt_out {bs : List Int} {ms : List Nat} {i : Nat} (h : TbAt bs ms i = true) : prevB bs i < bs.getD i 0 ∧ lsB (ms.getD i 0) = true := by
  unfold TbAt at h; rw [Bool.and_eq_true, decide_eq_true_eq] at h; exact h
theorem prevB_ge {bs : List Int} {ms : List Nat} {k : Nat} (h : TbTo bs ms k) : ∀ i, i ≤ k → -1 ≤ prevB bs i := by
  intro i
  induction i with
  | zero => intro _; unfold prevB; rw [if_pos rfl]; omega
  | succ i ih =>
    intro hi
    rw [prevB_succ]
    have := ih (by omega)
    have := (tbAt_out (h i (by omega))).1
    omega
theorem tb_lt {bs : List Int} {ms : List Nat} {k : Nat} (h : TbTo bs ms k) (a d : Nat) (hd : a + d + 1 < k) : bs.getD a 0 < bs.getD (a + d + 1) 0 := by
  induction d with
  | zero => have := (tbAt_out (h (a + 1) (by omega))).1; rw [prevB_succ] at this; exact this
  | succ d ih =>
    have h1 := ih (by omega)
    have := (tbAt_out (h (a + d + 1 + 1) (by omega))).1
    rw [prevB_succ] at this
    rw [show a + (d + 1) + 1 = a + d + 1 + 1 by omega]
    omega
theorem tbA_yes {bs : List Int} {ms : List Nat} (h : TbTo bs ms bs.length) : tbA bs ms = true := decide_eq_true fun i hi => h i hi
theorem tbA_no {bs : List Int} {ms : List Nat} {k : Nat} (hk : k < bs.length) (h : TbAt bs ms k = false) : tbA bs ms = false := decide_eq_false fun hh => by rw [hh k hk] at h; cases h
theorem tbA_out {bs : List Int} {ms : List Nat} (h : tbA bs ms = true) : TbTo bs ms bs.length := fun i hi => of_decide_eq_true h i hi
theorem tbB_out {bs : List Int} {ms : List Nat} (h : tbB bs ms = true) : 1 ≤ bs.length ∧ bs.length ≤ 64 ∧ ms.length = bs.length ∧ TbTo bs ms bs.length := by
  unfold tbB lnB at h; rw [Bool.and_eq_true, decide_eq_true_eq] at h
  exact ⟨h.1.1, h.1.2.1, h.1.2.2, tbA_out h.2⟩
theorem il_getD (xs : List Int) (k : Nat) (h : k < xs.length) : (il xs)[k]? = some (.int .i64 (xs.getD k 0)) := by rw [il_get xs k h]; simp [List.getD, List.getElem?_eq_getElem h]
theorem fl_getD (xs : List Nat) (k : Nat) (h : k < xs.length) : (fl xs)[k]? = some (.float .f32 (xs.getD k 0)) := by rw [fl_get xs k h]; simp [List.getD, List.getElem?_eq_getElem h]
theorem getD_lt {xs : List Nat} (hx : ∀ x ∈ xs, x < 2 ^ 32) (k : Nat) (h : k < xs.length) : xs.getD k 0 < 2 ^ 32 := by
  rw [show xs.getD k 0 = xs[k] by simp [List.getD, List.getElem?_eq_getElem h]]; exact hx _ (List.getElem_mem h)
def TbRel (w : World) (bs : List Int) (ms : List Nat) (n : Nat) (b i : Value) (wr : World) : Prop := ∃ k m : Nat, k ≤ n ∧ i = .int .i64 k ∧ b = .int .i64 (prevB bs k) ∧ TbTo bs ms k ∧ wr = w.drewN m
def TbRelS (w : World) (bs : List Int) (ms : List Nat) (n : Nat) (i : Value) (wr : World) : Prop := ∃ k m : Nat, k ≤ n ∧ i = .int .i64 k ∧ TbTo bs ms k ∧ wr = w.drewN m
end Go.Proofs.Ythkklilfignmpaa
