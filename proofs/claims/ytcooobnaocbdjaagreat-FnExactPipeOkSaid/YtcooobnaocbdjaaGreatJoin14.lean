import Derived.Test.YtcooobnaocbdjaaGreatJoin13
import Derived.Shelf.Abstract
import Derived.Laws.EntriesVeiled
import Derived.OneCell
/-! YtcooobnaocbdjaaGreatPThrough -/
section

namespace Go.Proofs.YtcooobnaocbdjaaGreat
open Go.RowKit
set_option linter.unusedVariables false

/-- A number behind a row of the call's own. -/
theorem Row.put {base : Nat} {w w' : World} {v v' : Value} {zs : List Int} {x : Int} (hrow : Row base w v zs) (hb : base ≤ w.heap.size) (o : Obj) (hown : w'.ownsRow base 3 1 v' (zs.length + 1) (icells zs ++ icells [x])) (hg : (w.alloc o).grownBy w' v.ownBlock) :
    Row base w' v' (zs ++ [x]) ∧ Below base w w' := by
  refine ⟨?_, ((Below.refl base w).alloc hb o).grown hg (by simp; omega) (fun k hk => (hrow.lt k hk).1)⟩
  unfold Row
  rw [icells_append]
  simpa using hown
end Go.Proofs.YtcooobnaocbdjaaGreat

end

/-! YtcooobnaocbdjaaGreatPVecI -/
section

namespace Go.Proofs.YtcooobnaocbdjaaGreat
open Go.RowKit
set_option linter.unusedVariables false

/-- What a function that makes a row and a mark leaves. -/
def RowB (w : World) (zs : List Int) (o : Bool) (e : Ending) (w' : World) : Prop := ∃ v, e = .returned (.tuple #[v, .bool o]) ∧ Row w.heap.size w' v zs ∧ Below w.heap.size w w'
/-- What a function that makes a row leaves. -/
def RowV (w : World) (zs : List Int) (e : Ending) (w' : World) : Prop := ∃ v, e = .returned v ∧ Row w.heap.size w' v zs ∧ Below w.heap.size w w'
/-- What a function that makes a number and a mark leaves. -/
def NumB (w : World) (x : Int) (o : Bool) (e : Ending) (w' : World) : Prop := e = .returned (.tuple #[.int .i64 x, .bool o]) ∧ Below w.heap.size w w'

end Go.Proofs.YtcooobnaocbdjaaGreat

end
