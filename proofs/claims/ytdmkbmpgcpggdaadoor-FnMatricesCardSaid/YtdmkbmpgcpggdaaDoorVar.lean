/-
  The contracts of spec.Var and impl.Var.
-/
import Derived.Test.YtdmkbmpgcpggdaaDoorProg
import Derived.Test.YtdmkbmpgcpggdaaDoorBytes
import Derived.Test.YtdmkbmpgcpggdaaDoorVarM
import Derived.Test.YtdmkbmpgcpggdaaDoorPut
import Derived.Test.YtdmkbmpgcpggdaaDoorFixed
import Derived.Lib.Hide
import Derived.WalkSpells
import Derived.WalkLawsBesides
namespace Go.Proofs.YtdmkbmpgcpggdaaDoor
open Go.RowKit
set_option linter.unusedVariables false

/-- What Var tells. -/
def varI (n : Int) : ByteArray := if 0 ≤ n ∧ n ≤ 562949953421311 then ⟨(varL n.toNat).toArray⟩ else ByteArray.empty
end Go.Proofs.YtdmkbmpgcpggdaaDoor
