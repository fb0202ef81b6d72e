import Derived.Test.YtcooobnaocbdjaaJoin19
/-! YtcooobnaocbdjaaPOpF -/
section

namespace Go.Proofs.Ytcooobnaocbdjaa
open Go.RowKit
set_option linter.unusedVariables false

end Go.Proofs.Ytcooobnaocbdjaa

end

/-! YtcooobnaocbdjaaPOpB -/
section

namespace Go.Proofs.Ytcooobnaocbdjaa
open Go.RowKit
set_option linter.unusedVariables false

/-- Two rows that share nothing. -/
def ApartV (v u : Value) : Prop := ∀ k, v.ownBlock = some k → u.ownBlock ≠ some k
/-- What a function that makes two rows and a mark leaves. -/
def RowsB (w : World) (zs gs : List Int) (o : Bool) (e : Ending) (w' : World) : Prop := ∃ v u, e = .returned (.tuple #[v, u, .bool o]) ∧ Row w.heap.size w' v zs ∧ Row w.heap.size w' u gs ∧ ApartV v u ∧ Below w.heap.size w w'
/-- One number, in a row of its own. -/
theorem Row.one (w : World) (x : Int) : Row w.heap.size (w.alloc (.cells #[.int .i64 x] 3 (0, 0))) (.slice (some ⟨w.heap.size, 0, none⟩) 1 1) [x] :=
  ⟨rfl, .inr ⟨_, 1, _, rfl, Nat.le_refl _, heap_alloc_new w _, Nat.le_refl _, by unfold maxLen; omega, rfl, rfl⟩⟩

end Go.Proofs.Ytcooobnaocbdjaa

end
