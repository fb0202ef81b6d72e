/-
  The contracts of spec.Var and impl.Var.
-/
import Derived.Test.YthficfeiomddmaaDoorProg
import Derived.Test.YthficfeiomddmaaDoorBytes
import Derived.Test.YthficfeiomddmaaDoorVarM
import Derived.Test.YthficfeiomddmaaDoorPut
import Derived.Test.YthficfeiomddmaaDoorFixed
import Derived.Lib.Hide
import Derived.WalkSpells
import Derived.WalkLawsBesides
namespace Go.Proofs.YthficfeiomddmaaDoor
open Go.RowKit
set_option linter.unusedVariables false

/-- What Var tells. -/
def varI (n : Int) : ByteArray := if 0 ≤ n ∧ n ≤ 562949953421311 then ⟨(varL n.toNat).toArray⟩ else ByteArray.empty
end Go.Proofs.YthficfeiomddmaaDoor
