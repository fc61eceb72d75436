/-
  Regions whose order is open, the first operation of which (it takes a place's value) is awaited by the tail alone (no program in it).
-/
import Derived.Test.YthkklilfignmpaaSft
namespace Go.Proofs.Ythkklilfignmpaa.Sf
open Go.RowKit Fl
set_option linter.unusedVariables false
section
variable {P : Program} {Q : Exit → Act → World → Prop}
theorem wp_softM {id : Nat} {o : Oper} {l : List Oper} {a : Act} {w : World} (fs ft : List Bool) (kd : Nat → Nat) (vals : Nat → Value) (v : Value) (hm : P.follows .mixedOrders = true)
    (hsel : Region.noSelect (o :: l).toArray = true) (hfree : Region.free .any (o :: l).toArray (Array.replicate (o :: l).toArray.size false) 0 = true) (hrd : (Region.ready .any (o :: l).toArray (Array.replicate (o :: l).toArray.size false)).contains 0 = true)
    (hB : softB .any (o :: l).toArray kd (idx 0 (o :: l) ft) (idx 0 (o :: l) fs) ((Array.replicate (o :: l).toArray.size false).setIfInBounds 0 true) = true)
    (hf : (o :: l).toArray.size = (idx 0 (o :: l) fs).length + (idx 0 (o :: l) ft).length + 1)
    (hQ : ∀ c a w, Q (.panic c) (a.put o.dst v) w → Q (.panic c) a w) (hy : Yields P (o :: l).toArray o v a)
    (h : wpLx P (o :: l).toArray (fun w' => ∃ n, w' = w.drewN n) kd vals (fun a' => ∀ w', (∃ n, w' = w.drewN n) → wpList P (o :: l).toArray Q (tl (o :: l) ft) a' w') 0 (o :: l) fs (a.put o.dst v)) : (Code.region id (o :: l).toArray true).wp P Q a w := by
  have key : ∀ n, n = (idx 0 (o :: l) fs).length + (idx 0 (o :: l) ft).length + 1 → wpAny P .any (o :: l).toArray Q n (Array.replicate (o :: l).toArray.size false) a (w.drewN 1) := by
    rintro _ rfl
    exact wpAny_take (oi := o) (by simp) hsel hfree hrd hQ hy (wpAny_lx vals hB rfl ⟨1, rfl⟩ h)
  exact wp_region_any hm (key _ hf)
end
end Go.Proofs.Ythkklilfignmpaa.Sf
