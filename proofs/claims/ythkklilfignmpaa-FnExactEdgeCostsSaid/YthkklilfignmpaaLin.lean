/-
  Contracts: lines, their ends, and what two lines and a step must be, of both sides.
-/
import Derived.Test.YthkklilfignmpaaGrd
import Derived.Test.YthkklilfignmpaaAbs
import Derived.Test.YthkklilfignmpaaLst
import Derived.Laws.CopyOwn
namespace Go.Proofs.Ythkklilfignmpaa
open Go.RowKit Fl
set_option linter.unusedVariables false

def liB (n : Nat) : Bool := decide (n = 1 ∨ n = 3 ∨ n = 7 ∨ n = 15 ∨ n = 31 ∨ n = 63)
def lnG (xs : List Nat) : Bool := liB xs.length && finA xs
theorem liB_out {n : Nat} (h : liB n = true) : n = 1 ∨ n = 3 ∨ n = 7 ∨ n = 15 ∨ n = 31 ∨ n = 63 := of_decide_eq_true h
theorem liB_bd {n : Nat} (h : liB n = true) : 1 ≤ n ∧ n ≤ 63 := by rcases liB_out h with rfl | rfl | rfl | rfl | rfl | rfl <;> omega
theorem li_and : ∀ n : Fin 64, 1 ≤ n.val → (bits .and .i64 (n.val : Int) ((n.val : Int) + 1) == 0) = liB n.val := by decide
theorem lnG_len {xs : List Nat} (h : lnG xs = true) : liB xs.length = true ∧ finA xs = true := by unfold lnG at h; rwa [Bool.and_eq_true] at h
theorem run_mkL {P : Program} (t e : TypeId) (i : TypeInfo) (z : Value) (ht : P.underlying t = some (.slice e)) (hi : P.info? e = some i) (hz : i.zero = some z)
    (n : Nat) (hbytes : i.bytes * n ≤ 281474976710656) (h63 : n ≤ 9223372036854775807) (m : Int) (hmn : m = (n : Int)) (w : World) :
    (Instr.makeSlice t (.int .i64 m) (.int .i64 m)).run P w = .ok (.slice (some ⟨w.heap.size, 0, none⟩) n n) (w.alloc (.cells (madeCells z.cells (n * i.size)) e)) := by
  subst hmn
  have hb : (i.bytes : Int) * (n : Int) ≤ 281474976710656 := by
    have h : ((i.bytes * n : Nat) : Int) ≤ 281474976710656 := by omega
    rwa [Int.natCast_mul] at h
  have hr := run_make (P := P) w t e i z ht hi hz .i64 .i64 n n (by omega) (by omega) hb (by omega)
  simpa using hr
def exL (xs : List Nat) : List Nat := 0 :: (xs ++ [0])
theorem exL_len (xs : List Nat) : (exL xs).length = xs.length + 2 := by simp [exL]
theorem exL_getD (xs : List Nat) (j : Nat) : (exL xs).getD j 0 = (0 :: xs).getD j 0 := by
  rcases j with _ | i
  · rfl
  · show (xs ++ [0]).getD i 0 = xs.getD i 0
    by_cases hi : i < xs.length
    · simp [List.getD, List.getElem?_append, hi]
    · by_cases he : i = xs.length
      · subst he; simp [List.getD]
      · have h1 : (xs ++ [0])[i]? = none := List.getElem?_eq_none (by simp; omega)
        simp [List.getD, h1, List.getElem?_eq_none (show xs.length ≤ i by omega)]
theorem own_block {w : World} {g lo : Nat} {L : List Nat} {t : TypeId} (h : w.heap[g]? = some (.cells (fl L).toArray t (0, 0))) (hg : lo ≤ g) (hm : L.length ≤ 1048576) : Own w lo (.slice (some ⟨g, 0, none⟩) L.length L.length) (fl L) := by
  refine ⟨_, L.length, by rw [fl_len], by rw [fl_len]; exact Nat.le_refl _, by unfold maxLen; omega, fun _ => ⟨g, 0, rfl, hg, lt_of_block h, fun i x hx => ?_, fun i hi => ?_⟩⟩
  · rw [Nat.zero_add, cell_of_row w g i _ _ _ h]; simpa using hx
  · rw [Nat.zero_add]; exact frozen_of_row w g i _ _ h
/-- Both slices lie in one block. -/
def RetEn (xs : List Nat) (w : World) (e : Ending) (w' : World) : Prop :=
  ∃ g, e = .returned (.tuple #[.slice (some ⟨g, 0, none⟩) (xs.length + 2) (xs.length + 2), .slice (some ⟨g, 1, none⟩) xs.length xs.length]) ∧ w.heap.size ≤ g ∧ Own w' w.heap.size (.slice (some ⟨g, 0, none⟩) (xs.length + 2) (xs.length + 2)) (fl (exL xs)) ∧ Below w.heap.size w w'
def prB (us fs : List Nat) (s : Nat) : Bool := lnG us && lnG fs && decide (us.length = fs.length) && psB s
end Go.Proofs.Ythkklilfignmpaa
