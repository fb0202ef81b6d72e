/-
  The contracts of spec.Var and impl.Var.
-/
import Derived.Test.YtbjiomnhdeehpaaDoorProg
import Derived.Test.YtbjiomnhdeehpaaDoorBytes
import Derived.Test.YtbjiomnhdeehpaaDoorVarM
import Derived.Test.YtbjiomnhdeehpaaDoorPut
import Derived.Test.YtbjiomnhdeehpaaDoorFixed
import Derived.Lib.Hide
import Derived.WalkSpells
import Derived.WalkLawsBesides
namespace Go.Proofs.YtbjiomnhdeehpaaDoor
open Go.RowKit
set_option linter.unusedVariables false

/-- What Var tells. -/
def varI (n : Int) : ByteArray := if 0 ≤ n ∧ n ≤ 562949953421311 then ⟨(varL n.toNat).toArray⟩ else ByteArray.empty
end Go.Proofs.YtbjiomnhdeehpaaDoor
