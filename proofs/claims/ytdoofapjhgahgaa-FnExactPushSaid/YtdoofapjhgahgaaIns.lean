/-
  Rows of instructions: the small functions of the exact laws over them.
-/
import Derived.Test.YtdoofapjhgahgaaTwo
import Derived.Test.YtdoofapjhgahgaaRow
import Derived.Deep.QuietTactic
import Derived.BigQuiet
import Derived.Deep.DeepCutAuto
import Derived.Deep.RegionLaw
import Derived.Lib.QuietBelow
namespace Go.Proofs.Ytdoofapjhgahgaa
open Go.RowKit Go.Sort
set_option linter.unusedVariables false

abbrev shIns := shTwo

theorem box2 {w : World} {g : Nat} {x y : Value} {T : TypeId} (h : w.heap[g]? = some (.cells #[x, y] T (0, 0))) : w.cell? ⟨g, 0, none⟩ = some x ∧ w.cell? ⟨g, 1, none⟩ = some y := by
  refine ⟨?_, ?_⟩ <;> rw [cell_of_row _ _ _ _ _ _ h] <;> rfl
end Go.Proofs.Ytdoofapjhgahgaa
