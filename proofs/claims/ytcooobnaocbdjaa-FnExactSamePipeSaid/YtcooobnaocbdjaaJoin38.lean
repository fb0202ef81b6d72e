/-
  The program's functions on models.
-/
import Derived.Test.YtcooobnaocbdjaaJoin27
import Derived.Test.YtcooobnaocbdjaaJoin37
namespace Go.Proofs.Ytcooobnaocbdjaa
open Go.RowKit Go.Sort
set_option linter.unusedVariables false

def linkedB (m : List dOp) : Bool := (List.range m.length).all (okAt m)
/-- The chain that is kept inside: that of a right model, or none. -/
def goodN (m : List dOp) : List dOp := if modelOkB m then m else []
def GoodAt (w : World) (m : List dOp) (e : Ending) (w' : World) : Prop := ∃ (a : Option Addr) (n c : Nat), e = .returned (.agg #[.slice a n c]) ∧ ListAt shOp (Under w.heap.size) w a n (goodN m) ∧ n ≤ c ∧ c ≤ 9223372036854775807 ∧ Below w.heap.size w w'
def inG (g : List dOp) : Int := if g.length = 0 then 0 else (opAt g 0).2.1
def outG (g : List dOp) : Int := if g.length = 0 then 0 else (opAt g (g.length - 1)).2.2.1
end Go.Proofs.Ytcooobnaocbdjaa
