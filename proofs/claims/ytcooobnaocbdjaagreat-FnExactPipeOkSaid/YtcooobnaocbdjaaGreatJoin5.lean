import Derived.Test.YtcooobnaocbdjaaGreatJoin4
/-! YtcooobnaocbdjaaGreatPFixMore -/
section

namespace Go.Proofs.YtcooobnaocbdjaaGreat
set_option linter.unusedVariables false

end Go.Proofs.YtcooobnaocbdjaaGreat

end

/-! YtcooobnaocbdjaaGreatPVecLawM -/
section

namespace Go.Proofs.YtcooobnaocbdjaaGreat
set_option linter.unusedVariables false

/-- A single one, else noughts. -/
def unitRow (n j : Nat) : List Int := (List.replicate n 0).set j 65536
end Go.Proofs.YtcooobnaocbdjaaGreat

end
