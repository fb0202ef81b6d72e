/-
  What is drawn: a text that is spoilt (a byte more).
-/
import Derived.Test.YtdmkbmpgcpggdaaDoorDrawSpoilM
namespace Go.Proofs.YtdmkbmpgcpggdaaDoor
open Go.RowKit
set_option linter.unusedVariables false

end Go.Proofs.YtdmkbmpgcpggdaaDoor
