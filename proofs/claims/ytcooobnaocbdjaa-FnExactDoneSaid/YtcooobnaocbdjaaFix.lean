/-
  Numbers with a point: the contracts of the arithmetic, both sides.
-/
import Derived.Test.YtcooobnaocbdjaaProg
import Derived.Test.YtcooobnaocbdjaaSat
import Derived.Test.YtcooobnaocbdjaaAs
import Derived.Outline
namespace Go.Proofs.Ytcooobnaocbdjaa
open Go.RowKit
set_option linter.unusedVariables false

theorem fix_ret {a b : Int} (h : a = b) : Ending.returned (.int .i64 a) = .returned (.int .i64 b) := by rw [h]
def reluN (a : Int) : Int := if 0 < sat a then sat a else 0
def okB (x : Int) : Bool := inB (-2147483647) 2147483647 x
theorem okB_yes {x : Int} (h0 : -2147483647 ≤ x) (h1 : x ≤ 2147483647) : okB x = true := inB_yes h0 h1
theorem okB_no {x : Int} (h : x < -2147483647 ∨ 2147483647 < x) : okB x = false := inB_no h
end Go.Proofs.Ytcooobnaocbdjaa
