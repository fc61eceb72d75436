/-
  Contracts: energies of lists, of both sides.
-/
import Derived.Test.YtmokgmmjnfnbfaaFin
import Derived.Test.YtmokgmmjnfnbfaaFloSine
import Derived.Deep.RegionWith
namespace Go.Proofs.Ytmokgmmjnfnbfaa
open Go.RowKit Fl
set_option linter.unusedVariables false

section
variable {P : Program} {o : Oper} {a : Act} {w : World} {K : Act → World → Prop} {Q : Exit → Act → World → Prop}
theorem up_arl {op : BinOp} {t : TypeId} {k : FloatKind} {x y cx : Nat} (hop : arOp op = true) (h1 : Is k x cx)
    (h : ∀ r n, Is k r (ar op k cx y) → K (a.put o.dst (.float k r)) (w.drewN n)) :
    o.upon P a K Q ((Sem.run P (binOp op t (.float k x) (.float k y)) w).andThen fun v w' => .ok (.value v) w') :=
  up_ar hop fun r n hr => h r n (by rw [← ar_is_l h1]; exact hr)
end
def RetF32 (c : Nat) (w : World) (e : Ending) (w' : World) : Prop := ∃ r n, e = .returned (.float .f32 r) ∧ Is .f32 r c ∧ w' = w.drewN n
/-- Returns a float that is worth c, and whether it is one. -/
def RetFB (c : Nat) (b : Bool) (w : World) (e : Ending) (w' : World) : Prop := ∃ r n, e = .returned (.tuple #[.float .f32 r, .bool b]) ∧ Is .f32 r c ∧ w' = w.drewN n
theorem numS_any (r c : Nat) (w : World) (hr : Is .f32 r c) : Calls Try.prog 90 #[.float .f32 r] w (RetFB (if finB .f32 c then c else 0) (finB .f32 c) w) := by
  have HF := Lib.hid (show finB .f32 r = finB .f32 c from fin_is hr)
  have HC := Lib.hid (fun w => specFin_any r w hr.2)
  cases hf : finB .f32 c with
  | true =>
    have HT := Lib.hid hf
    rw [if_pos rfl]
    clear hf
    go_enter Try.func90, Try.ntmps90
    go_wp2_with (go_at_call 105; refine (HC.out _).mono ?_; rintro e w' ⟨rfl, n, rfl⟩; rw [HF.out, HT.out])
    go_ret2
    exact ⟨_, _, rfl, hr, rfl⟩
  | false =>
    have HT := Lib.hid hf
    rw [if_neg (by simp)]
    clear hf
    go_enter Try.func90, Try.ntmps90
    go_wp2_with (go_at_call 105; refine (HC.out _).mono ?_; rintro e w' ⟨rfl, n, rfl⟩; rw [HF.out, HT.out])
    go_ret2
    exact ⟨_, _, rfl, is_lit (by decide), rfl⟩
end Go.Proofs.Ytmokgmmjnfnbfaa
