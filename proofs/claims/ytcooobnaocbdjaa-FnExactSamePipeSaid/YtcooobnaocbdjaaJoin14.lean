/-
  Operations: the small functions of the exact laws over them.
-/
import Derived.Test.YtcooobnaocbdjaaJoin1
import Derived.Test.YtcooobnaocbdjaaJoin6
namespace Go.Proofs.Ytcooobnaocbdjaa
open Go.RowKit
set_option linter.unusedVariables false

end Go.Proofs.Ytcooobnaocbdjaa
