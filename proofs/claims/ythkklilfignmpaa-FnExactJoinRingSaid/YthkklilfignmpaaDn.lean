/-
  Contract: DotNumbers of the program's side.
-/
import Derived.Test.YthkklilfignmpaaDt
namespace Go.Proofs.Ythkklilfignmpaa
open Go.RowKit Fl
set_option linter.unusedVariables false
theorem dotN_any (va vb : Value) (xs ys : List Nat) (w : World) (B : Nat) (ha : Rd w B va (fl xs)) (hb : Rd w B vb (fl ys)) (hl : ys.length = xs.length) (hm : xs.length ≤ 256) :
    Calls Try.prog 183 #[va, vb] w (RetFB (dotK xs ys xs.length) true w) := by
  have HD := Lib.hid (dotI_any va vb xs ys w B ha hb hl hm)
  clear hl hm
  obtain ⟨A, c, hva, q1, q2, q3⟩ := ha
  obtain ⟨A', c', hvb, q4, q5, q6⟩ := hb
  clear q1 q2 q3 q4 q5 q6
  rw [fl_len] at hva hvb
  subst hva hvb
  go_enter Try.func183, Try.ntmps183
  generalize dotK xs ys xs.length = d at *
  go_wp2_with fail
  refine HD.out.mono ?_
  rintro e w1 ⟨r, n, rfl, hr, rfl⟩
  go_wp2_with fail
  go_ret2
  exact ⟨_, _, rfl, hr, rfl⟩
end Go.Proofs.Ythkklilfignmpaa
