/-
  The exact laws on rows of numbers.
-/
import Derived.Test.YtbjiomnhdeehpaaDoorVecS
namespace Go.Proofs.YtbjiomnhdeehpaaDoor
open Go.RowKit
set_option linter.unusedVariables false

end Go.Proofs.YtbjiomnhdeehpaaDoor
