/-
  The model's functions on models, as the exact laws call them.
-/
import Derived.Test.YtbjiomnhdeehpaaModS
namespace Go.Proofs.Ytbjiomnhdeehpaa
open Go.RowKit
set_option linter.unusedVariables false

section
variable (w : World) (es : List Value) (m : dModel) (h : shModel.reads (Under w.heap.size) w es m) (hb : shModel.bulk m ≤ 1048576)
include h hb
theorem specModelOk_d : Calls Try.prog 10 #[.agg es.toArray] w fun e w' => e = .returned (.bool (modelOkB m)) ∧ Below w.heap.size w w' := by
  obtain ⟨a, n, c, rfl, h1, h2, h3⟩ := shModel_reads.1 h
  exact specModelOk_c w a n c m h3 h1 h2 hb
theorem specInOf_d : Calls Try.prog 14 #[.agg es.toArray] w fun e w' => e = .returned (.int .i64 (inOfN m)) ∧ Below w.heap.size w w' := by
  obtain ⟨a, n, c, rfl, h1, h2, h3⟩ := shModel_reads.1 h
  exact specInOf_c w a n c m h3 h1 h2 hb
theorem specOutOf_d : Calls Try.prog 16 #[.agg es.toArray] w fun e w' => e = .returned (.int .i64 (outOfN m)) ∧ Below w.heap.size w w' := by
  obtain ⟨a, n, c, rfl, h1, h2, h3⟩ := shModel_reads.1 h
  exact specOutOf_c w a n c m h3 h1 h2 hb
theorem specWordsOf_d : Calls Try.prog 23 #[.agg es.toArray] w fun e w' => e = .returned (.int .i64 (wordsN m)) ∧ Below w.heap.size w w' := by
  obtain ⟨a, n, c, rfl, h1, h2, h3⟩ := shModel_reads.1 h
  exact specWordsOf_c w a n c m h3 h1 h2 hb
theorem specBatchOk_d (a' : Option Addr) (n' c' : Nat) (ps : List dPair) (h' : ListAt shPair (Under w.heap.size) w a' n' ps) (g1 : n' ≤ c') (g2 : c' ≤ 9223372036854775807) (hb' : (Shape.list shPair).bulk ps ≤ 1048576) :
    Calls Try.prog 19 #[.agg es.toArray, .slice a' n' c'] w fun e w' => e = .returned (.bool (batchOkB m ps)) ∧ Below w.heap.size w w' := by
  obtain ⟨a, n, c, rfl, h1, h2, h3⟩ := shModel_reads.1 h
  exact specBatchOk_c w a n c m h3 h1 h2 hb a' n' c' ps h' hb'
end
theorem specSameRows_d (w : World) (a : Option Addr) (n c : Nat) (xs : List dRow) (h : ListAt shRow (Under w.heap.size) w a n xs) (g1 : n ≤ c) (g2 : c ≤ 9223372036854775807) (hb : (Shape.list shRow).bulk xs ≤ 1048576)
    (a' : Option Addr) (n' c' : Nat) (ys : List dRow) (h' : ListAt shRow (Under w.heap.size) w a' n' ys) (g1' : n' ≤ c') (g2' : c' ≤ 9223372036854775807) (hb' : (Shape.list shRow).bulk ys ≤ 1048576) :
    Calls Try.prog 26 #[.slice a n c, .slice a' n' c'] w fun e w' => e = .returned (.bool (sameRowsB xs ys)) ∧ Below w.heap.size w w' :=
  specSameRows_c w a n c xs h hb a' n' c' ys h' hb'
end Go.Proofs.Ytbjiomnhdeehpaa
