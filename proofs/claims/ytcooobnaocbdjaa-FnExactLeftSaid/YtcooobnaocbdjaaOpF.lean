/-
  The model's OpForward.
-/
import Derived.Test.YtcooobnaocbdjaaOpS
namespace Go.Proofs.Ytcooobnaocbdjaa
open Go.RowKit
set_option linter.unusedVariables false

/-- Ahead, where all is right. -/
theorem fwN_is {k i o : Int} {ps xs : List Int} (h : fwOk k i o ps xs = true) : fwN k i o ps xs = (if k = 1 then mvN o i ps xs else if k = 2 then rowP addN xs ps else if k = 3 then rowP (fun x _ => reluN x) xs xs else if k = 4 then scaleN (ps.getD 0 0) xs else rowP addN xs (mvN o i ps xs)) ∧
    fwB k i o ps xs = (if k = 1 then mvB o i ps xs else if k = 2 then flagP addB xs ps else if k = 3 then false else if k = 4 then scaleB (ps.getD 0 0) xs else mvB o i ps xs || flagP addB xs (mvN o i ps xs)) := by
  unfold fwN fwB
  rw [h]
  exact ⟨rfl, rfl⟩

end Go.Proofs.Ytcooobnaocbdjaa
