/-
  The program's functions on tables of numbers.
-/
import Derived.Test.YtkflinobmagiiaaChunk
import Derived.Test.YtkflinobmagiiaaVecI
import Derived.Test.YtkflinobmagiiaaMatT
namespace Go.Proofs.Ytkflinobmagiiaa
open Go.RowKit Go.Shelf
set_option linter.unusedVariables false

end Go.Proofs.Ytkflinobmagiiaa
