/-
  Contracts: means of squares, of the program; misses, of both sides.
-/
import Derived.Test.YthkklilfignmpaaDf
import Derived.Test.YthkklilfignmpaaIff
import Derived.Test.YthkklilfignmpaaLng
import Derived.Test.YthkklilfignmpaaFloQn
namespace Go.Proofs.Ythkklilfignmpaa
open Go.RowKit Fl
set_option linter.unusedVariables false

theorem is_int32 (n : Int) : Is .f32 (floatOfInt .f32 n) (floatOfInt .f32 n) := by
  refine ⟨cn_of_not ?_, wf_lt (floatOfInt_wf .f32 n)⟩
  unfold floatOfInt FloatKind.nearest isN
  exact read_write _ _ rfl
def msX (xs : List Nat) : Nat := ar .quo .f32 (enF xs) (floatOfInt .f32 (xs.length : Int))
theorem is_lt {r c : Nat} (h : Is .f32 r c) : c < 2 ^ 32 := by
  rw [← h.1]
  unfold cn
  split
  · decide
  · exact h.2
theorem msX_fin {xs : List Nat} {r : Nat} (hr : Is .f32 r (enF xs)) (h1 : 1 ≤ xs.length) (h2 : xs.length ≤ 256) : finB .f32 (msX xs) = enO xs := quo_fin _ _ (is_lt hr) h1 h2
theorem msI_any (v : Value) (xs : List Nat) (w : World) (B : Nat) (h : Rd w B v (fl xs)) (h1 : 1 ≤ xs.length) (hm : xs.length ≤ 256) (hen : ∃ r, Is .f32 r (enF xs)) :
    Calls Try.prog 117 #[v] w (RetFB (fnV (msX xs)) (finB .f32 (msX xs)) w) := by
  obtain ⟨r0, hr0⟩ := hen
  have HM := Lib.hid (msX_fin hr0 h1 hm)
  have HE := Lib.hid (enI_any v xs w B h (by omega))
  obtain ⟨A, c, ev, _, _, _⟩ := h
  rw [fl_len] at ev
  subst ev
  cases he : enO xs with
  | true =>
    have HT := Lib.hid he
    have HV := Lib.hid (enV_yes he)
    clear he
    go_enter Try.func117, Try.ntmps117
    go_wp2_with (first | (go_at_call 160; refine HE.out.mono ?_; rintro e w' ⟨r, n, rfl, hr, rfl⟩; rw [HT.out]; rw [HV.out] at hr) | (refine up_ar2 (op := .quo) rfl hr (is_int32 _) ?_; intro rq nq hq))
    go_ret2
    unfold fnV
    rw [HM.out, HT.out]
    exact ⟨_, _, rfl, hq, rfl⟩
  | false =>
    have HT := Lib.hid he
    clear he
    go_enter Try.func117, Try.ntmps117
    go_wp2_with (go_at_call 160; refine HE.out.mono ?_; rintro e w' ⟨r, n, rfl, hr, rfl⟩; rw [HT.out])
    go_ret2
    unfold fnV
    rw [HM.out, HT.out]
    exact ⟨_, _, rfl, is_nought, rfl⟩
def MiRel (w : World) (xs ys : List Nat) (s i : Value) (wr : World) : Prop := ∃ k m r : Nat, k ≤ xs.length ∧ i = .int .i64 k ∧ s = .float .f32 r ∧ Is .f32 r (dotK (dfL xs ys) (dfL xs ys) k) ∧ wr = w.drewN m
end Go.Proofs.Ythkklilfignmpaa
