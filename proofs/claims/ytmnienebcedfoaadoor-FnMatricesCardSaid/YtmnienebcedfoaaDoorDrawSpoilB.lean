/-
  What is drawn: a text that is spoilt (a byte turned).
-/
import Derived.Test.YtmnienebcedfoaaDoorDrawSpoilM
namespace Go.Proofs.YtmnienebcedfoaaDoor
open Go.RowKit
set_option linter.unusedVariables false

end Go.Proofs.YtmnienebcedfoaaDoor
