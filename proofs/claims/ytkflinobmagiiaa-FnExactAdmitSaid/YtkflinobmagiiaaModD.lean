/-
  The model's functions on models, as the exact laws call them.
-/
import Derived.Test.YtkflinobmagiiaaModS
namespace Go.Proofs.Ytkflinobmagiiaa
open Go.RowKit
set_option linter.unusedVariables false

section
variable (w : World) (es : List Value) (m : dModel) (h : shModel.reads (Under w.heap.size) w es m) (hb : shModel.bulk m ≤ 1048576)
include h hb
theorem specModelOk_d : Calls Try.prog 54 #[.agg es.toArray] w fun e w' => e = .returned (.bool (modelOkB m)) ∧ Below w.heap.size w w' := by
  obtain ⟨a, n, c, rfl, h1, h2, h3⟩ := shModel_reads.1 h
  exact specModelOk_c w a n c m h3 h1 h2 hb
theorem specInOf_d : Calls Try.prog 72 #[.agg es.toArray] w fun e w' => e = .returned (.int .i64 (inOfN m)) ∧ Below w.heap.size w w' := by
  obtain ⟨a, n, c, rfl, h1, h2, h3⟩ := shModel_reads.1 h
  exact specInOf_c w a n c m h3 h1 h2 hb
theorem specOutOf_d : Calls Try.prog 73 #[.agg es.toArray] w fun e w' => e = .returned (.int .i64 (outOfN m)) ∧ Below w.heap.size w w' := by
  obtain ⟨a, n, c, rfl, h1, h2, h3⟩ := shModel_reads.1 h
  exact specOutOf_c w a n c m h3 h1 h2 hb
theorem specBatchOk_d (a' : Option Addr) (n' c' : Nat) (ps : List dPair) (h' : ListAt shPair (Under w.heap.size) w a' n' ps) (g1 : n' ≤ c') (g2 : c' ≤ 9223372036854775807) (hb' : (Shape.list shPair).bulk ps ≤ 1048576) :
    Calls Try.prog 55 #[.agg es.toArray, .slice a' n' c'] w fun e w' => e = .returned (.bool (batchOkB m ps)) ∧ Below w.heap.size w w' := by
  obtain ⟨a, n, c, rfl, h1, h2, h3⟩ := shModel_reads.1 h
  exact specBatchOk_c w a n c m h3 h1 h2 hb a' n' c' ps h' (by omega)
end
end Go.Proofs.Ytkflinobmagiiaa
