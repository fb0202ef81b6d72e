/-
  The model's MatVec and MatBack.
-/
import Derived.Test.YtcooobnaocbdjaaMatS
namespace Go.Proofs.Ytcooobnaocbdjaa
open Go.RowKit
set_option linter.unusedVariables false

/-- What is empty and has no mark. -/
theorem empty_behind {base : Nat} {w wa w' : World} {v : Value} {zs : List Int} (h : Row base wa v zs) (hb : Below wa.heap.size wa w') : Row base w' v zs := h.below hb

end Go.Proofs.Ytcooobnaocbdjaa
