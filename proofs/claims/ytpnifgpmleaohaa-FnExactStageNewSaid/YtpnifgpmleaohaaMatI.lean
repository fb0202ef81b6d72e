/-
  The program's functions on tables of numbers.
-/
import Derived.Test.YtpnifgpmleaohaaChunk
import Derived.Test.YtpnifgpmleaohaaVecI
import Derived.Test.YtpnifgpmleaohaaMatT
namespace Go.Proofs.Ytpnifgpmleaohaa
open Go.RowKit Go.Shelf
set_option linter.unusedVariables false

end Go.Proofs.Ytpnifgpmleaohaa
