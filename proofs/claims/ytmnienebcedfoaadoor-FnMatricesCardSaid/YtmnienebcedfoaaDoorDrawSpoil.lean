/-
  What is drawn: a text that is spoilt.
-/
import Derived.Test.YtmnienebcedfoaaDoorDrawSpoilA
import Derived.Test.YtmnienebcedfoaaDoorDrawSpoilB
namespace Go.Proofs.YtmnienebcedfoaaDoor
open Go.RowKit
set_option linter.unusedVariables false

end Go.Proofs.YtmnienebcedfoaaDoor
