/-
  What is drawn: a text that is spoilt.
-/
import Derived.Test.YtikjhpljaanakaaDrawSpoilA
import Derived.Test.YtikjhpljaanakaaDrawSpoilB
namespace Go.Proofs.Ytikjhpljaanakaa
open Go.RowKit
set_option linter.unusedVariables false

end Go.Proofs.Ytikjhpljaanakaa
