/-
  The program's functions on rows of numbers.
-/
import Derived.Test.YtkflinobmagiiaaThrough
namespace Go.Proofs.Ytkflinobmagiiaa
open Go.RowKit
set_option linter.unusedVariables false

/-- What a function that makes a row and a mark leaves. -/
def RowB (w : World) (zs : List Int) (o : Bool) (e : Ending) (w' : World) : Prop := ∃ v, e = .returned (.tuple #[v, .bool o]) ∧ Row w.heap.size w' v zs ∧ Below w.heap.size w w'
/-- What a function that makes a row leaves. -/
def RowV (w : World) (zs : List Int) (e : Ending) (w' : World) : Prop := ∃ v, e = .returned v ∧ Row w.heap.size w' v zs ∧ Below w.heap.size w w'
/-- What a function that makes a number and a mark leaves. -/
def NumB (w : World) (x : Int) (o : Bool) (e : Ending) (w' : World) : Prop := e = .returned (.tuple #[.int .i64 x, .bool o]) ∧ Below w.heap.size w w'

end Go.Proofs.Ytkflinobmagiiaa
