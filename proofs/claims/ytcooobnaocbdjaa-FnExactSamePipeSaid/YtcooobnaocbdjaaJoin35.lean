import Derived.Test.YtcooobnaocbdjaaJoin17
import Derived.RangeFuncNested
import Derived.RangeFuncBound
import Derived.RangeFuncCalls
import Derived.RangeFuncLeaves
import Derived.RangeFuncBox
import Derived.RangeFuncWrites
import Derived.Shelf.Abstract
import Derived.Sort.QuietIn
import Derived.WalkKit
import Derived.OwnWalkIn
import Derived.TacticsInMore
import Derived.LoopNIn
import Derived.LoopIn
/-! YtcooobnaocbdjaaPMatP -/
section

namespace Go.Proofs.Ytcooobnaocbdjaa
set_option linter.unusedVariables false

/-- The rows that have come are the first k. -/
def CameK {m : Nat} (ys : List (Fin m)) (k : Nat) : Prop := ys.map (fun x => x.1) = List.range k
theorem CameK.length {m : Nat} {ys : List (Fin m)} {k : Nat} (h : CameK ys k) : ys.length = k := by
  have := congrArg List.length h
  simpa using this
theorem mapK_range (f : Nat → Int) (k : Nat) : (List.range k).map f = mapK f k := by
  induction k with
  | zero => rfl
  | succ k ih => rw [List.range_succ, List.map_append, ih]; rfl
theorem anyK_range (g : Nat → Bool) (k : Nat) : (List.range k).any g = anyK g k := by
  induction k with
  | zero => rfl
  | succ k ih => rw [List.range_succ, List.any_append, ih]; simp [anyK]
theorem CameK.map {m : Nat} {ys : List (Fin m)} {k : Nat} (h : CameK ys k) (f : Nat → Int) : ys.map (fun x => f x.1) = mapK f k := by
  rw [← mapK_range, ← (show ys.map (fun x => x.1) = List.range k from h), List.map_map]
  rfl
theorem CameK.any {m : Nat} {ys : List (Fin m)} {k : Nat} (h : CameK ys k) (g : Nat → Bool) : ys.any (fun x => g x.1) = anyK g k := by
  rw [← anyK_range, ← (show ys.map (fun x => x.1) = List.range k from h), List.any_map]
  rfl
end Go.Proofs.Ytcooobnaocbdjaa

end

/-! YtcooobnaocbdjaaPChunk -/
section

namespace Go.Proofs.Ytcooobnaocbdjaa
open Go.RowKit Go.Shelf
set_option linter.unusedVariables false
attribute [local go_sem] Oper.semAt_some

/-- What a round of a loop over a table's rows keeps: what lay below n₀, and the two cells that the iterator reads. -/
def KeepB (n₀ B1 B2 : Nat) (W W' : World) : Prop := Below n₀ W W' ∧ W'.heap[B1]? = W.heap[B1]? ∧ W'.heap[B2]? = W.heap[B2]?
/-- The rows, as the iterator hands them over. -/
def rowEnc (b o q : Nat) (m : Nat) (x : Fin m) : Array Value := #[.slice (some ⟨b, o + x.1 * q, none⟩) q q]
end Go.Proofs.Ytcooobnaocbdjaa

end
