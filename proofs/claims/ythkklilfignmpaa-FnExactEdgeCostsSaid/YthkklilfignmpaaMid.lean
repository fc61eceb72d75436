/-
  Contracts: halves of sums of two numbers of a list.
-/
import Derived.Test.YthkklilfignmpaaGrl
namespace Go.Proofs.Ythkklilfignmpaa
open Go.RowKit Fl
set_option linter.unusedVariables false

end Go.Proofs.Ythkklilfignmpaa
