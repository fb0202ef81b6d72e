/-
  What is drawn: a text that is spoilt (a byte more).
-/
import Derived.Test.YtdmkbmpgcpggdabDoorDrawSpoilM
namespace Go.Proofs.YtdmkbmpgcpggdabDoor
open Go.RowKit
set_option linter.unusedVariables false

end Go.Proofs.YtdmkbmpgcpggdabDoor
