/-
  The contracts of spec.Var and impl.Var.
-/
import Derived.Test.YtdmkbmpgcpggdabDoorProg
import Derived.Test.YtdmkbmpgcpggdabDoorBytes
import Derived.Test.YtdmkbmpgcpggdabDoorVarM
import Derived.Test.YtdmkbmpgcpggdabDoorPut
import Derived.Test.YtdmkbmpgcpggdabDoorFixed
import Derived.Lib.Hide
import Derived.WalkSpells
import Derived.WalkLawsBesides
namespace Go.Proofs.YtdmkbmpgcpggdabDoor
open Go.RowKit
set_option linter.unusedVariables false

/-- What Var tells. -/
def varI (n : Int) : ByteArray := if 0 ≤ n ∧ n ≤ 562949953421311 then ⟨(varL n.toNat).toArray⟩ else ByteArray.empty
end Go.Proofs.YtdmkbmpgcpggdabDoor
