/-
  The exact laws on rows of numbers.
-/
import Derived.Test.YtdoofapjhgahgaaVecS
namespace Go.Proofs.Ytdoofapjhgahgaa
open Go.RowKit
set_option linter.unusedVariables false

end Go.Proofs.Ytdoofapjhgahgaa
