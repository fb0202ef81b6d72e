/-
  The program's functions on queues, as the exact laws and the law call them.
-/
import Derived.Test.YtdoofapjhgahgaaQueV
import Derived.Test.YtdoofapjhgahgaaOwnQ
namespace Go.Proofs.Ytdoofapjhgahgaa
open Go.RowKit
set_option linter.unusedVariables false

section
variable (w : World) (es : List Value) (m : dQueue) (h : shQueue.reads (Under w.heap.size) w es m) (hb : shQueue.bulk m ≤ 1048576)
include h hb
theorem implQueueOk_d : Calls Try.prog 18 #[.agg es.toArray] w fun e w' => e = .returned (.bool (queueOkB m)) ∧ Below w.heap.size w w' := by
  obtain ⟨a, n, c, rfl, h1, h2, h3, h4, h5⟩ := queue_open h hb
  exact implQueueOk_c w m.1 a n c m.2 h3 h4 h5
theorem implQueueWords_d : Calls Try.prog 14 #[.agg es.toArray] w fun e w' => e = .returned (.int .i64 (queueWordsN m)) ∧ Below w.heap.size w w' := by
  obtain ⟨a, n, c, rfl, h1, h2, h3, h4, h5⟩ := queue_open h hb
  exact implQueueWords_c w m.1 a n c m.2 h3 h4 h5
end
end Go.Proofs.Ytdoofapjhgahgaa
