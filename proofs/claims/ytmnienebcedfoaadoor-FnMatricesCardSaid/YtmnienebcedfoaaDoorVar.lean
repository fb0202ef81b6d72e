/-
  The contracts of spec.Var and impl.Var.
-/
import Derived.Test.YtmnienebcedfoaaDoorProg
import Derived.Test.YtmnienebcedfoaaDoorBytes
import Derived.Test.YtmnienebcedfoaaDoorVarM
import Derived.Test.YtmnienebcedfoaaDoorPut
import Derived.Test.YtmnienebcedfoaaDoorFixed
import Derived.Lib.Hide
import Derived.WalkSpells
import Derived.WalkLawsBesides
namespace Go.Proofs.YtmnienebcedfoaaDoor
open Go.RowKit
set_option linter.unusedVariables false

/-- What Var tells. -/
def varI (n : Int) : ByteArray := if 0 ≤ n ∧ n ≤ 562949953421311 then ⟨(varL n.toNat).toArray⟩ else ByteArray.empty
end Go.Proofs.YtmnienebcedfoaaDoor
