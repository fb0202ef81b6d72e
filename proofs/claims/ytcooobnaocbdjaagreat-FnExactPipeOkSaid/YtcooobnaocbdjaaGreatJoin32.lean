/-
  The program's functions on tables of numbers.
-/
import Derived.Test.YtcooobnaocbdjaaGreatJoin31
import Derived.Test.YtcooobnaocbdjaaGreatJoin14
import Derived.Test.YtcooobnaocbdjaaGreatJoin16
namespace Go.Proofs.YtcooobnaocbdjaaGreat
open Go.RowKit Go.Shelf
set_option linter.unusedVariables false

end Go.Proofs.YtcooobnaocbdjaaGreat
