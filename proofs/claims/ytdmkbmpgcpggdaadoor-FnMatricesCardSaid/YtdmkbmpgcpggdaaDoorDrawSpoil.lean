/-
  What is drawn: a text that is spoilt.
-/
import Derived.Test.YtdmkbmpgcpggdaaDoorDrawSpoilA
import Derived.Test.YtdmkbmpgcpggdaaDoorDrawSpoilB
namespace Go.Proofs.YtdmkbmpgcpggdaaDoor
open Go.RowKit
set_option linter.unusedVariables false

end Go.Proofs.YtdmkbmpgcpggdaaDoor
