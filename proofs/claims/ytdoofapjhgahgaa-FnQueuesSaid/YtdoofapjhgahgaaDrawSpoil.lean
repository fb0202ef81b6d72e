/-
  What is drawn: a text that is spoilt.
-/
import Derived.Test.YtdoofapjhgahgaaDrawSpoilA
import Derived.Test.YtdoofapjhgahgaaDrawSpoilB
namespace Go.Proofs.Ytdoofapjhgahgaa
open Go.RowKit
set_option linter.unusedVariables false

end Go.Proofs.Ytdoofapjhgahgaa
