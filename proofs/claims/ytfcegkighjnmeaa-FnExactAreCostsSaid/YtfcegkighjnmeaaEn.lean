/-
  Contracts: energies of lists, of both sides.
-/
import Derived.Test.YtfcegkighjnmeaaFin
import Derived.Test.YtfcegkighjnmeaaFloSine
import Derived.Deep.RegionWith
namespace Go.Proofs.Ytfcegkighjnmeaa
open Go.RowKit Fl
set_option linter.unusedVariables false

section
variable {P : Program} {o : Oper} {a : Act} {w : World} {K : Act → World → Prop} {Q : Exit → Act → World → Prop}
theorem up_arl {op : BinOp} {t : TypeId} {k : FloatKind} {x y cx : Nat} (hop : arOp op = true) (h1 : Is k x cx)
    (h : ∀ r n, Is k r (ar op k cx y) → K (a.put o.dst (.float k r)) (w.drewN n)) :
    o.upon P a K Q ((Sem.run P (binOp op t (.float k x) (.float k y)) w).andThen fun v w' => .ok (.value v) w') :=
  up_ar hop fun r n hr => h r n (by rw [← ar_is_l h1]; exact hr)
end
def RetF32 (c : Nat) (w : World) (e : Ending) (w' : World) : Prop := ∃ r n, e = .returned (.float .f32 r) ∧ Is .f32 r c ∧ w' = w.drewN n
/-- Returns a float that is worth c, and whether it is one. -/
def RetFB (c : Nat) (b : Bool) (w : World) (e : Ending) (w' : World) : Prop := ∃ r n, e = .returned (.tuple #[.float .f32 r, .bool b]) ∧ Is .f32 r c ∧ w' = w.drewN n
end Go.Proofs.Ytfcegkighjnmeaa
