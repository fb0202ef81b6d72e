/-
  VecOk, of both sides.
-/
import Derived.Test.YtcooobnaocbdjaaRow
import Derived.Test.YtcooobnaocbdjaaVecM
import Derived.Test.YtcooobnaocbdjaaSpecFix
namespace Go.Proofs.Ytcooobnaocbdjaa
open Go.RowKit
set_option linter.unusedVariables false

theorem all_no {xs : List Int} {k : Nat} (hk : k < xs.length) (h : okB (xs.getD k 0) = false) : xs.all okB = false := by
  have h1 : xs.getD k 0 ∈ xs := by simp [List.getD, hk]
  exact List.all_eq_false.2 ⟨_, h1, by rw [h]; decide⟩
theorem all_yes {xs : List Int} (h : ∀ j, j < xs.length → okB (xs.getD j 0) = true) : xs.all okB = true := by
  refine List.all_eq_true.2 fun x hx => ?_
  obtain ⟨j, hj, rfl⟩ := List.mem_iff_getElem.1 hx
  have := h j hj
  simpa [List.getD, hj] using this

theorem vecOkB_split {xs : List Int} {n : Nat} (hl : xs.length = n) : vecOkB xs = (inB 1 6 (n : Int) && xs.all okB) := by
  unfold vecOkB inB
  rw [hl]
  by_cases h0 : 1 ≤ n
  · by_cases h6 : n ≤ 6
    · rw [decide_eq_true h0, decide_eq_true h6, decide_eq_true (by omega : (1 : Int) ≤ (n : Int) ∧ (n : Int) ≤ 6)]; rfl
    · rw [decide_eq_true h0, decide_eq_false h6, decide_eq_false (by omega : ¬ ((1 : Int) ≤ (n : Int) ∧ (n : Int) ≤ 6))]; rfl
  · rw [decide_eq_false h0, decide_eq_false (by omega : ¬ ((1 : Int) ≤ (n : Int) ∧ (n : Int) ≤ 6))]; simp
end Go.Proofs.Ytcooobnaocbdjaa
