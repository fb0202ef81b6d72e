/-
  The model's functions on queues, as the exact laws call them.
-/
import Derived.Test.YtdoofapjhgahgaaQueS
namespace Go.Proofs.Ytdoofapjhgahgaa
open Go.RowKit
set_option linter.unusedVariables false

theorem queue_open {w : World} {es : List Value} {q : dQueue} (h : shQueue.reads (Under w.heap.size) w es q) (hb : shQueue.bulk q ≤ 1048576) :
    ∃ a n c, es = [.int .i64 q.1, .slice a n c] ∧ n ≤ c ∧ c ≤ 9223372036854775807 ∧ ListAt shItem (Under w.heap.size) w a n q.2 ∧ n ≤ 1048576 ∧ Shape.sum shItem.bulk q.2 ≤ 1048576 := by
  obtain ⟨a, n, c, rfl, h1, h2, h3⟩ := shQueue_reads.1 h
  rw [shQueue_bulk, bulk_list shItem h3] at hb
  exact ⟨a, n, c, rfl, h1, h2, h3, by omega, by omega⟩
section
variable (w : World) (es : List Value) (m : dQueue) (h : shQueue.reads (Under w.heap.size) w es m) (hb : shQueue.bulk m ≤ 1048576)
include h hb
theorem specQueueOk_d : Calls Try.prog 11 #[.agg es.toArray] w fun e w' => e = .returned (.bool (queueOkB m)) ∧ Below w.heap.size w w' := by
  obtain ⟨a, n, c, rfl, h1, h2, h3, h4, h5⟩ := queue_open h hb
  exact specQueueOk_c w m.1 a n c m.2 h3 h4 h5
theorem specQueueWords_d : Calls Try.prog 29 #[.agg es.toArray] w fun e w' => e = .returned (.int .i64 (queueWordsN m)) ∧ Below w.heap.size w w' := by
  obtain ⟨a, n, c, rfl, h1, h2, h3, h4, h5⟩ := queue_open h hb
  exact specQueueWords_c w m.1 a n c m.2 h3 h4 h5
end
end Go.Proofs.Ytdoofapjhgahgaa
