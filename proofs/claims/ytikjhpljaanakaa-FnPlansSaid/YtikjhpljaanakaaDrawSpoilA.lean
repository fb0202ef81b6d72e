/-
  What is drawn: a text that is spoilt (a byte more).
-/
import Derived.Test.YtikjhpljaanakaaDrawSpoilM
namespace Go.Proofs.Ytikjhpljaanakaa
open Go.RowKit
set_option linter.unusedVariables false

end Go.Proofs.Ytikjhpljaanakaa
