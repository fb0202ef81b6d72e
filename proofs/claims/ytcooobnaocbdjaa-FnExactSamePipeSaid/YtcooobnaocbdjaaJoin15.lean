import Derived.Test.YtcooobnaocbdjaaProg
import Derived.Test.YtcooobnaocbdjaaJoin3
import Derived.Test.YtcooobnaocbdjaaJoin4
import Derived.Test.YtcooobnaocbdjaaJoin1
/-! YtcooobnaocbdjaaPSpecFix -/
section

namespace Go.Proofs.Ytcooobnaocbdjaa
open Go.RowKit
set_option linter.unusedVariables false

end Go.Proofs.Ytcooobnaocbdjaa

end

/-! YtcooobnaocbdjaaPVecOk -/
section

namespace Go.Proofs.Ytcooobnaocbdjaa
open Go.RowKit
set_option linter.unusedVariables false

end Go.Proofs.Ytcooobnaocbdjaa

end
