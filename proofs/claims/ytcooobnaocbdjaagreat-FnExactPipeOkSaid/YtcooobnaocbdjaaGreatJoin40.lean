/-
  The model's functions on queues, as the exact laws call them.
-/
import Derived.Test.YtcooobnaocbdjaaGreatJoin28
namespace Go.Proofs.YtcooobnaocbdjaaGreat
open Go.RowKit
set_option linter.unusedVariables false

section
variable (w : World) (es : List Value) (m : dQueue) (h : shQueue.reads (Under w.heap.size) w es m) (hb : shQueue.bulk m ≤ 1048576)
include h hb
end
end Go.Proofs.YtcooobnaocbdjaaGreat
