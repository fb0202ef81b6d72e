/-
  What is drawn: a text that is spoilt (a byte more).
-/
import Derived.Test.YtdoofapjhgahgaaDrawSpoilM
namespace Go.Proofs.Ytdoofapjhgahgaa
open Go.RowKit
set_option linter.unusedVariables false

end Go.Proofs.Ytdoofapjhgahgaa
