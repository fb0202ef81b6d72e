/-
  What is drawn: a text that is spoilt (a byte turned).
-/
import Derived.Test.YtgnckkpfipclaaaDoorDrawSpoilM
namespace Go.Proofs.YtgnckkpfipclaaaDoor
open Go.RowKit
set_option linter.unusedVariables false

end Go.Proofs.YtgnckkpfipclaaaDoor
