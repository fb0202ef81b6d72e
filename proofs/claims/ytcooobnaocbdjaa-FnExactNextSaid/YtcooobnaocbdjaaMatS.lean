/-
  The model's functions on tables of numbers.
-/
import Derived.Test.YtcooobnaocbdjaaVecS
import Derived.Test.YtcooobnaocbdjaaMat
namespace Go.Proofs.Ytcooobnaocbdjaa
open Go.RowKit
set_option linter.unusedVariables false

theorem prod36 {r c : Int} (hr : inB 1 6 r = true) (hc : inB 1 6 c = true) : 1 ≤ r * c ∧ r * c ≤ 36 := by
  obtain ⟨a0, a1⟩ := inB_has hr
  obtain ⟨b0, b1⟩ := inB_has hc
  have h : r = 1 ∨ r = 2 ∨ r = 3 ∨ r = 4 ∨ r = 5 ∨ r = 6 := by omega
  rcases h with rfl | rfl | rfl | rfl | rfl | rfl <;> omega
theorem matOkB_all {r c : Int} {xs : List Int} (hr : inB 1 6 r = true) (hc : inB 1 6 c = true) (hl : (xs.length : Int) = r * c) : matOkB r c xs = xs.all okB := by
  unfold matOkB
  rw [hr, hc, decide_eq_true hl]
  simp
theorem matOkB_r {r c : Int} {xs : List Int} (hr : inB 1 6 r = false) : matOkB r c xs = false := by unfold matOkB; rw [hr]; rfl
theorem matOkB_c {r c : Int} {xs : List Int} (hc : inB 1 6 c = false) : matOkB r c xs = false := by unfold matOkB; rw [hc, Bool.and_false]; rfl
theorem matOkB_l {r c : Int} {xs : List Int} (hl : ¬ (xs.length : Int) = r * c) : matOkB r c xs = false := by unfold matOkB; rw [decide_eq_false hl, Bool.and_false]; rfl
theorem Row.form2 {base : Nat} {w : World} {v : Value} {n : Nat} {xs : List Int} (h : Row base w v xs) (hl : Hid (xs.length = n)) (hr : n ≤ 1048576) : ∃ a cap, v = .slice a n cap ∧ n ≤ cap ∧ IntsIn w.heap.size w a n xs := by
  obtain ⟨a, c, e, hi⟩ := h.form' hl hr
  subst e
  refine ⟨a, c, rfl, ?_, hi⟩
  have hl := hl.out
  rcases h.2 with ⟨e1, h0⟩ | ⟨g, cap, cur, e1, _, _, hc, _⟩
  · cases e1; omega
  · cases e1; omega

end Go.Proofs.Ytcooobnaocbdjaa
