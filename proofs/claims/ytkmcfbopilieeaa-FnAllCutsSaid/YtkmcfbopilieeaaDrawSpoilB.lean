/-
  What is drawn: a text that is spoilt (a byte turned).
-/
import Derived.Test.YtkmcfbopilieeaaDrawSpoilM
namespace Go.Proofs.Ytkmcfbopilieeaa
open Go.RowKit
set_option linter.unusedVariables false

end Go.Proofs.Ytkmcfbopilieeaa
