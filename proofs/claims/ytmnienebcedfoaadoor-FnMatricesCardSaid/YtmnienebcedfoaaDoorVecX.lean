/-
  The exact laws on rows of numbers.
-/
import Derived.Test.YtmnienebcedfoaaDoorVecS
namespace Go.Proofs.YtmnienebcedfoaaDoor
open Go.RowKit
set_option linter.unusedVariables false

end Go.Proofs.YtmnienebcedfoaaDoor
