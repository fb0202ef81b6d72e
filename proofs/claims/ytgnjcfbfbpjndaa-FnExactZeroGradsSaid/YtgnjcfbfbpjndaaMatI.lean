/-
  The program's functions on tables of numbers.
-/
import Derived.Test.YtgnjcfbfbpjndaaChunk
import Derived.Test.YtgnjcfbfbpjndaaVecI
import Derived.Test.YtgnjcfbfbpjndaaMatT
namespace Go.Proofs.Ytgnjcfbfbpjndaa
open Go.RowKit Go.Shelf
set_option linter.unusedVariables false

end Go.Proofs.Ytgnjcfbfbpjndaa
