/-
  The model's functions on models, as the exact laws call them.
-/
import Derived.Test.YtpnifgpmleaohaaModS
namespace Go.Proofs.Ytpnifgpmleaohaa
open Go.RowKit
set_option linter.unusedVariables false

section
variable (w : World) (es : List Value) (m : dModel) (h : shModel.reads (Under w.heap.size) w es m) (hb : shModel.bulk m ≤ 1048576)
include h hb
theorem specModelOk_d : Calls Try.prog 32 #[.agg es.toArray] w fun e w' => e = .returned (.bool (modelOkB m)) ∧ Below w.heap.size w w' := by
  obtain ⟨a, n, c, rfl, h1, h2, h3⟩ := shModel_reads.1 h
  exact specModelOk_c w a n c m h3 h1 h2 hb
end
end Go.Proofs.Ytpnifgpmleaohaa
