/-
  Contracts: absolute values, of both sides; numbers that are at least nothing, or greater.
-/
import Derived.Test.YtmokgmmjnfnbfaaCallA
import Derived.Test.YtmokgmmjnfnbfaaFloShr
import Derived.Test.YtmokgmmjnfnbfaaFin
import Derived.Deep.RegionWith
namespace Go.Proofs.Ytmokgmmjnfnbfaa
open Go.RowKit Fl
set_option linter.unusedVariables false

end Go.Proofs.Ytmokgmmjnfnbfaa
