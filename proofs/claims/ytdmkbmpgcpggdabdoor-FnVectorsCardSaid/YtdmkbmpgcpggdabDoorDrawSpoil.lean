/-
  What is drawn: a text that is spoilt.
-/
import Derived.Test.YtdmkbmpgcpggdabDoorDrawSpoilA
import Derived.Test.YtdmkbmpgcpggdabDoorDrawSpoilB
namespace Go.Proofs.YtdmkbmpgcpggdabDoor
open Go.RowKit
set_option linter.unusedVariables false

end Go.Proofs.YtdmkbmpgcpggdabDoor
