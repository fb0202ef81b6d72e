/-
  The exact laws on rows of numbers.
-/
import Derived.Test.YtdmkbmpgcpggdaaDoorVecS
namespace Go.Proofs.YtdmkbmpgcpggdaaDoor
open Go.RowKit
set_option linter.unusedVariables false

end Go.Proofs.YtdmkbmpgcpggdaaDoor
