/-
  The program's functions on tables of numbers.
-/
import Derived.Test.YtkmcfbopilieeaaChunk
import Derived.Test.YtkmcfbopilieeaaVecI
import Derived.Test.YtkmcfbopilieeaaMatT
namespace Go.Proofs.Ytkmcfbopilieeaa
open Go.RowKit Go.Shelf
set_option linter.unusedVariables false

end Go.Proofs.Ytkmcfbopilieeaa
