import Derived.Test.YtcooobnaocbdjaaJoin16
import Derived.Deep.QuietTactic
import Derived.BigQuiet
import Derived.Test.YtcooobnaocbdjaaJoin6
/-! YtcooobnaocbdjaaPVecS -/
section

namespace Go.Proofs.Ytcooobnaocbdjaa
open Go.RowKit
set_option linter.unusedVariables false

theorem Row.drewN {base : Nat} {w : World} {v : Value} {zs : List Int} (h : Row base w v zs) (m : Nat) : Row base (w.drewN m) v zs := h.below ⟨rfl, rfl, rfl, Nat.le_refl _, fun _ _ => rfl⟩

end Go.Proofs.Ytcooobnaocbdjaa

end

/-! YtcooobnaocbdjaaPMatS -/
section

namespace Go.Proofs.Ytcooobnaocbdjaa
open Go.RowKit
set_option linter.unusedVariables false

end Go.Proofs.Ytcooobnaocbdjaa

end
