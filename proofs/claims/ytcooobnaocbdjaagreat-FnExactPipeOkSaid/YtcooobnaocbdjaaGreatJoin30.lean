/-
  Tables of numbers, row by row: what the program's own way comes to.
-/
import Derived.Test.YtcooobnaocbdjaaGreatJoin15
namespace Go.Proofs.YtcooobnaocbdjaaGreat
set_option linter.unusedVariables false

/-- The rows that have come are the first k. -/
def CameK {m : Nat} (ys : List (Fin m)) (k : Nat) : Prop := ys.map (fun x => x.1) = List.range k
theorem CameK.length {m : Nat} {ys : List (Fin m)} {k : Nat} (h : CameK ys k) : ys.length = k := by
  have := congrArg List.length h
  simpa using this
theorem mapK_range (f : Nat → Int) (k : Nat) : (List.range k).map f = mapK f k := by
  induction k with
  | zero => rfl
  | succ k ih => rw [List.range_succ, List.map_append, ih]; rfl
theorem anyK_range (g : Nat → Bool) (k : Nat) : (List.range k).any g = anyK g k := by
  induction k with
  | zero => rfl
  | succ k ih => rw [List.range_succ, List.any_append, ih]; simp [anyK]
theorem CameK.map {m : Nat} {ys : List (Fin m)} {k : Nat} (h : CameK ys k) (f : Nat → Int) : ys.map (fun x => f x.1) = mapK f k := by
  rw [← mapK_range, ← (show ys.map (fun x => x.1) = List.range k from h), List.map_map]
  rfl
theorem CameK.any {m : Nat} {ys : List (Fin m)} {k : Nat} (h : CameK ys k) (g : Nat → Bool) : ys.any (fun x => g x.1) = anyK g k := by
  rw [← anyK_range, ← (show ys.map (fun x => x.1) = List.range k from h), List.any_map]
  rfl
end Go.Proofs.YtcooobnaocbdjaaGreat
