import Derived.Test.YtcooobnaocbdjaaJoin4
/-! YtcooobnaocbdjaaPFixMore -/
section

namespace Go.Proofs.Ytcooobnaocbdjaa
set_option linter.unusedVariables false

end Go.Proofs.Ytcooobnaocbdjaa

end

/-! YtcooobnaocbdjaaPVecLawM -/
section

namespace Go.Proofs.Ytcooobnaocbdjaa
set_option linter.unusedVariables false

/-- A single one, else noughts. -/
def unitRow (n j : Nat) : List Int := (List.replicate n 0).set j 65536
end Go.Proofs.Ytcooobnaocbdjaa

end
