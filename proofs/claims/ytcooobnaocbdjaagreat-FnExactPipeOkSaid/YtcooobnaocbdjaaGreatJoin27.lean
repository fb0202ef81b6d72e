/-
  Stages: the model's FindSaved, as the exact law calls it.
-/
import Derived.Test.YtcooobnaocbdjaaGreatJoin26
namespace Go.Proofs.YtcooobnaocbdjaaGreat
open Go.RowKit
set_option linter.unusedVariables false

end Go.Proofs.YtcooobnaocbdjaaGreat
