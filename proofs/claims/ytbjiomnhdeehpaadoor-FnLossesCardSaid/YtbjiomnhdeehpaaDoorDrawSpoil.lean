/-
  What is drawn: a text that is spoilt.
-/
import Derived.Test.YtbjiomnhdeehpaaDoorDrawSpoilA
import Derived.Test.YtbjiomnhdeehpaaDoorDrawSpoilB
namespace Go.Proofs.YtbjiomnhdeehpaaDoor
open Go.RowKit
set_option linter.unusedVariables false

end Go.Proofs.YtbjiomnhdeehpaaDoor
