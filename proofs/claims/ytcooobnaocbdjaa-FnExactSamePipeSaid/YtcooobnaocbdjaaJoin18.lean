import Derived.Test.YtcooobnaocbdjaaJoin17
import Derived.Laws.ResultCell
import Derived.Deep.AppendLies
import Derived.Deep.RegionLaw
/-! YtcooobnaocbdjaaPMatW -/
section

namespace Go.Proofs.Ytcooobnaocbdjaa
open Go.RowKit
set_option linter.unusedVariables false

/-- What a function that makes a table (and a mark) leaves. -/
def MatB (w : World) (r c : Int) (zs : List Int) (o : Bool) (e : Ending) (w' : World) : Prop := ∃ v, e = .returned (.tuple #[.agg #[.int .i64 r, .int .i64 c, v], .bool o]) ∧ Row w.heap.size w' v zs ∧ Below w.heap.size w w'
def MatV (w : World) (r c : Int) (zs : List Int) (e : Ending) (w' : World) : Prop := ∃ v, e = .returned (.agg #[.int .i64 r, .int .i64 c, v]) ∧ Row w.heap.size w' v zs ∧ Below w.heap.size w w'
def sameMatB (r c : Int) (xs : List Int) (r' c' : Int) (ys : List Int) : Bool := decide (r = r') && (decide (c = c') && decide (xs = ys))

end Go.Proofs.Ytcooobnaocbdjaa

end

/-! YtcooobnaocbdjaaPMatT -/
section

namespace Go.Proofs.Ytcooobnaocbdjaa
open Go.RowKit
set_option linter.unusedVariables false

end Go.Proofs.Ytcooobnaocbdjaa

end
