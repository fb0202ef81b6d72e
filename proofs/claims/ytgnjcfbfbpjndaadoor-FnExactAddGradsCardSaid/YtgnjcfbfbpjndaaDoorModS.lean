/-
  The model's functions on models.
-/
import Derived.Test.YtgnjcfbfbpjndaaDoorModM
import Derived.Test.YtgnjcfbfbpjndaaDoorOpS
namespace Go.Proofs.YtgnjcfbfbpjndaaDoor
open Go.RowKit Go.Sort
set_option linter.unusedVariables false

theorem box1 {w : World} {g : Nat} {x : Value} {T : TypeId} (h : w.heap[g]? = some (.cells #[x] T (0, 0))) : w.cell? ⟨g, 0, none⟩ = some x := by
  rw [cell_of_row _ _ _ _ _ _ h]
  rfl
theorem pairOk_x {i o : Int} {p : dPair} (h : vecOkB p.1 = false) : pairOkB i o p = false := by unfold pairOkB; rw [h]; simp
theorem pairOk_t {i o : Int} {p : dPair} (h : vecOkB p.2 = false) : pairOkB i o p = false := by unfold pairOkB; rw [h]; simp
theorem pairOk_i {i o : Int} {p : dPair} (h : ¬ (p.1.length : Int) = i) : pairOkB i o p = false := by unfold pairOkB; rw [decide_eq_false h]; simp
theorem pairOk_o {i o : Int} {p : dPair} (h : ¬ (p.2.length : Int) = o) : pairOkB i o p = false := by unfold pairOkB; rw [decide_eq_false h]; simp
theorem pairOk_yes {i o : Int} {p : dPair} (h1 : vecOkB p.1 = true) (h2 : vecOkB p.2 = true) (h3 : (p.1.length : Int) = i) (h4 : (p.2.length : Int) = o) : pairOkB i o p = true := by unfold pairOkB; rw [h1, h2, decide_eq_true h3, decide_eq_true h4]; rfl
theorem batchOk_no {m : List dOp} {b : List dPair} {k : Nat} {x : dPair} (hx : b[k]? = some x) (h : pairOkB (inOfN m) (outOfN m) x = false) : batchOkB m b = false := by
  unfold batchOkB
  have : b.all (pairOkB (inOfN m) (outOfN m)) = false := List.all_eq_false.2 ⟨x, List.mem_of_getElem? hx, by rw [h]; decide⟩
  rw [this, Bool.and_false]
theorem batchOk_yes {m : List dOp} {b : List dPair} (h1 : modelOkB m = true) (h2 : inB 1 5 (b.length : Int) = true) (h : ∀ (j : Nat) (x : dPair), b[j]? = some x → pairOkB (inOfN m) (outOfN m) x = true) : batchOkB m b = true := by
  unfold batchOkB
  rw [h1, h2]
  have : b.all (pairOkB (inOfN m) (outOfN m)) = true := List.all_eq_true.2 fun x hx => by
    obtain ⟨j, hj⟩ := List.mem_iff_getElem?.1 hx
    exact h j x hj
  rw [this]
  rfl
theorem batchOk_m {m : List dOp} {b : List dPair} (h : modelOkB m = false) : batchOkB m b = false := by unfold batchOkB; rw [h]; rfl
theorem batchOk_l {m : List dOp} {b : List dPair} (h : inB 1 5 (b.length : Int) = false) : batchOkB m b = false := by unfold batchOkB; rw [h]; simp
theorem same_no {α : Type} [DecidableEq α] {xs ys : List α} {k : Nat} {x y : α} (hx : xs[k]? = some x) (hy : ys[k]? = some y) (h : x ≠ y) : decide (xs = ys) = false := decide_eq_false fun e => by
  subst e
  rw [hx] at hy
  cases hy
  exact h rfl
theorem same_yes {α : Type} [DecidableEq α] {xs ys : List α} (hl : xs.length = ys.length) (h : ∀ j, j < xs.length → xs[j]? = ys[j]?) : decide (xs = ys) = true := decide_eq_true (List.ext_getElem? fun j => by
  by_cases hj : j < xs.length
  · exact h j hj
  · rw [List.getElem?_eq_none (by omega), List.getElem?_eq_none (by omega)])
end Go.Proofs.YtgnjcfbfbpjndaaDoor
