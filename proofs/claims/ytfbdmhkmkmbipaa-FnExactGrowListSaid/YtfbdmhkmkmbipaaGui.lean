/-
  Contracts: what evens tell of odds and odds of evens, for lists of int64, by the program.
-/
import Derived.Test.YtfbdmhkmkmbipaaGue
import Derived.Deep.RegionWith
namespace Go.Proofs.Ytfbdmhkmkmbipaa
open Go.RowKit
set_option linter.unusedVariables false

theorem Rd.new {w : World} {B : Nat} {v : Value} {vs : List Value} (h : Rd w B v vs) (hB : B ≤ w.heap.size) (o : Obj) : Rd (w.alloc o) B v vs := h.below ((Below.refl _ _).alloc hB o)
def RetIB (x : Int) (w : World) (e : Ending) (w' : World) : Prop := e = .returned (.int .i64 x) ∧ Below w.heap.size w w'
end Go.Proofs.Ytfbdmhkmkmbipaa
