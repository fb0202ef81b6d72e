/-
  What is drawn: a text that is spoilt (a byte turned).
-/
import Derived.Test.YtbjiomnhdeehpaaDoorDrawSpoilM
namespace Go.Proofs.YtbjiomnhdeehpaaDoor
open Go.RowKit
set_option linter.unusedVariables false

end Go.Proofs.YtbjiomnhdeehpaaDoor
