/-
  The contracts of spec.Var and impl.Var.
-/
import Derived.Test.YtikjhpljaanakaaProg
import Derived.Test.YtikjhpljaanakaaBytes
import Derived.Test.YtikjhpljaanakaaVarM
import Derived.Test.YtikjhpljaanakaaPut
import Derived.Test.YtikjhpljaanakaaFixed
import Derived.Lib.Hide
import Derived.WalkSpells
import Derived.WalkLawsBesides
namespace Go.Proofs.Ytikjhpljaanakaa
open Go.RowKit
set_option linter.unusedVariables false

/-- What Var tells. -/
def varI (n : Int) : ByteArray := if 0 ≤ n ∧ n ≤ 562949953421311 then ⟨(varL n.toNat).toArray⟩ else ByteArray.empty
end Go.Proofs.Ytikjhpljaanakaa
