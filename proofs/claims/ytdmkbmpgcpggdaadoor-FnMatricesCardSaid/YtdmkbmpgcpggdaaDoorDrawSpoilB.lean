/-
  What is drawn: a text that is spoilt (a byte turned).
-/
import Derived.Test.YtdmkbmpgcpggdaaDoorDrawSpoilM
namespace Go.Proofs.YtdmkbmpgcpggdaaDoor
open Go.RowKit
set_option linter.unusedVariables false

end Go.Proofs.YtdmkbmpgcpggdaaDoor
