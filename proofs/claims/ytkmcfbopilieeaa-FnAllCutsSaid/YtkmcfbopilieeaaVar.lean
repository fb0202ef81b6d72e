/-
  The contracts of spec.Var and impl.Var.
-/
import Derived.Test.YtkmcfbopilieeaaProg
import Derived.Test.YtkmcfbopilieeaaBytes
import Derived.Test.YtkmcfbopilieeaaVarM
import Derived.Test.YtkmcfbopilieeaaPut
import Derived.Test.YtkmcfbopilieeaaFixed
import Derived.Lib.Hide
import Derived.WalkSpells
import Derived.WalkLawsBesides
namespace Go.Proofs.Ytkmcfbopilieeaa
open Go.RowKit
set_option linter.unusedVariables false

/-- What Var tells. -/
def varI (n : Int) : ByteArray := if 0 ≤ n ∧ n ≤ 562949953421311 then ⟨(varL n.toNat).toArray⟩ else ByteArray.empty
end Go.Proofs.Ytkmcfbopilieeaa
