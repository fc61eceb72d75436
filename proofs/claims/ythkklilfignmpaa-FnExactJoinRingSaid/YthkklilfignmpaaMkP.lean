/-
  Contracts: the two given pairs of both sides.
-/
import Derived.Test.YthkklilfignmpaaPai
namespace Go.Proofs.Ythkklilfignmpaa
open Go.RowKit Fl
set_option linter.unusedVariables false
def haarW : List Nat := [1060439283, 1060439283]
def fourW : List Nat := [1056392938, 1062610415, 1046840824, 3187966958]
end Go.Proofs.Ythkklilfignmpaa
