import Derived.Test.YtcooobnaocbdjaaJoin35
import Derived.Test.YtcooobnaocbdjaaJoin16
import Derived.Test.YtcooobnaocbdjaaJoin18
import Derived.Test.YtcooobnaocbdjaaJoin4
import Derived.Stop.Asserts
import Derived.Stop.IfaceNil
/-! YtcooobnaocbdjaaPMatI -/
section

namespace Go.Proofs.Ytcooobnaocbdjaa
open Go.RowKit Go.Shelf
set_option linter.unusedVariables false

end Go.Proofs.Ytcooobnaocbdjaa

end

/-! YtcooobnaocbdjaaPOpA -/
section

namespace Go.Proofs.Ytcooobnaocbdjaa
open Go.RowKit
set_option linter.unusedVariables false

section
variable {P : Program} {t t' xT : TypeId} {v z : Value}
end
section
variable (v : Value) (w : World)
end
end Go.Proofs.Ytcooobnaocbdjaa

end
