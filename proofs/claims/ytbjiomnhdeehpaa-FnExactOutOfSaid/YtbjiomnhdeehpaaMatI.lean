/-
  The program's functions on tables of numbers.
-/
import Derived.Test.YtbjiomnhdeehpaaChunk
import Derived.Test.YtbjiomnhdeehpaaVecI
import Derived.Test.YtbjiomnhdeehpaaMatT
namespace Go.Proofs.Ytbjiomnhdeehpaa
open Go.RowKit Go.Shelf
set_option linter.unusedVariables false

end Go.Proofs.Ytbjiomnhdeehpaa
