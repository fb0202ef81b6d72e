/-
  The contracts of spec.Var and impl.Var.
-/
import Derived.Test.YtgnckkpfipclaaaDoorProg
import Derived.Test.YtgnckkpfipclaaaDoorBytes
import Derived.Test.YtgnckkpfipclaaaDoorVarM
import Derived.Test.YtgnckkpfipclaaaDoorPut
import Derived.Test.YtgnckkpfipclaaaDoorFixed
import Derived.Lib.Hide
import Derived.WalkSpells
import Derived.WalkLawsBesides
namespace Go.Proofs.YtgnckkpfipclaaaDoor
open Go.RowKit
set_option linter.unusedVariables false

/-- What Var tells. -/
def varI (n : Int) : ByteArray := if 0 ≤ n ∧ n ≤ 562949953421311 then ⟨(varL n.toNat).toArray⟩ else ByteArray.empty
end Go.Proofs.YtgnckkpfipclaaaDoor
