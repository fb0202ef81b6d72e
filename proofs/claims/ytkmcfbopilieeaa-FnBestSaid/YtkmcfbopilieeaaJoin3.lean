import Derived.Test.YtkmcfbopilieeaaJoin2
/-! YtkmcfbopilieeaaDrawSpoilB -/
section

namespace Go.Proofs.Ytkmcfbopilieeaa
open Go.RowKit
set_option linter.unusedVariables false

end Go.Proofs.Ytkmcfbopilieeaa

end

/-! YtkmcfbopilieeaaDrawSpoil -/
section

namespace Go.Proofs.Ytkmcfbopilieeaa
open Go.RowKit
set_option linter.unusedVariables false

end Go.Proofs.Ytkmcfbopilieeaa

end
