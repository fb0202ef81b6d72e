/-
  What a plan is for, and how many go ahead before the first one comes back: the model's and the program's.
-/
import Derived.Test.YtcooobnaocbdjaaPlanP
import Derived.Test.YtcooobnaocbdjaaSpecFix
import Derived.Test.YtcooobnaocbdjaaShape
import Derived.Deep.QuietTactic
import Derived.BigQuiet
import Derived.Deep.DeepCutAuto
import Derived.Deep.RegionLaw
import Derived.Lib.QuietBelow
namespace Go.Proofs.Ytcooobnaocbdjaa
open Go.RowKit Go.Sort
set_option linter.unusedVariables false

theorem box4 {w : World} {g : Nat} {x y z u : Value} {T : TypeId} (h : w.heap[g]? = some (.cells #[x, y, z, u] T (0, 0))) : w.cell? ⟨g, 0, none⟩ = some x ∧ w.cell? ⟨g, 1, none⟩ = some y ∧ w.cell? ⟨g, 2, none⟩ = some z ∧ w.cell? ⟨g, 3, none⟩ = some u := by
  refine ⟨?_, ?_, ?_, ?_⟩ <;> rw [cell_of_row _ _ _ _ _ _ h] <;> rfl
abbrev taskV (n s m : Int) (r : Bool) : Value := .agg #[.int .i64 n, .int .i64 s, .int .i64 m, .bool r]
end Go.Proofs.Ytcooobnaocbdjaa
