/-
  What is drawn: a text that is spoilt (a byte more).
-/
import Derived.Test.YtkmcfbopilieeaaDrawSpoilM
namespace Go.Proofs.Ytkmcfbopilieeaa
open Go.RowKit
set_option linter.unusedVariables false

end Go.Proofs.Ytkmcfbopilieeaa
