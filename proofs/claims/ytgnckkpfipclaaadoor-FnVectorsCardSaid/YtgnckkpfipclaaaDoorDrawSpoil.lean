/-
  What is drawn: a text that is spoilt.
-/
import Derived.Test.YtgnckkpfipclaaaDoorDrawSpoilA
import Derived.Test.YtgnckkpfipclaaaDoorDrawSpoilB
namespace Go.Proofs.YtgnckkpfipclaaaDoor
open Go.RowKit
set_option linter.unusedVariables false

end Go.Proofs.YtgnckkpfipclaaaDoor
