/-
  The model's functions on rows of numbers.
-/
import Derived.Test.YtcooobnaocbdjaaVecI
import Derived.Deep.QuietTactic
import Derived.BigQuiet
namespace Go.Proofs.Ytcooobnaocbdjaa
open Go.RowKit
set_option linter.unusedVariables false

theorem Row.empty (w : World) (o : Obj) (h : o = .cells #[] 3 (0, 0)) : Row w.heap.size (w.alloc o) (.slice (some ⟨w.heap.size, 0, none⟩) 0 0) [] := by
  subst h
  exact ⟨rfl, .inr ⟨_, 0, #[], rfl, Nat.le_refl _, heap_alloc_new w _, Nat.le_refl _, Nat.zero_le _, rfl, rfl⟩⟩
theorem drewN_below {B : Nat} {w w' : World} (h : Below B w w') (m : Nat) : Below B w (w'.drewN m) := h.trans ⟨rfl, rfl, rfl, Nat.le_refl _, fun _ _ => rfl⟩
theorem Row.drewN {base : Nat} {w : World} {v : Value} {zs : List Int} (h : Row base w v zs) (m : Nat) : Row base (w.drewN m) v zs := h.below ⟨rfl, rfl, rfl, Nat.le_refl _, fun _ _ => rfl⟩

end Go.Proofs.Ytcooobnaocbdjaa
