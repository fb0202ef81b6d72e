/-
  The contracts of spec.Var and impl.Var.
-/
import Derived.Test.YtdoofapjhgahgaaProg
import Derived.Test.YtdoofapjhgahgaaBytes
import Derived.Test.YtdoofapjhgahgaaVarM
import Derived.Test.YtdoofapjhgahgaaPut
import Derived.Test.YtdoofapjhgahgaaFixed
import Derived.Lib.Hide
import Derived.WalkSpells
import Derived.WalkLawsBesides
namespace Go.Proofs.Ytdoofapjhgahgaa
open Go.RowKit
set_option linter.unusedVariables false

/-- What Var tells. -/
def varI (n : Int) : ByteArray := if 0 ≤ n ∧ n ≤ 562949953421311 then ⟨(varL n.toNat).toArray⟩ else ByteArray.empty
end Go.Proofs.Ytdoofapjhgahgaa
