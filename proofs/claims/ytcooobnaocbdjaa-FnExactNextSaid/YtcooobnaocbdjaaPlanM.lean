/-
  Plans: what comes of them, as plain functions.
-/
import Derived.Test.YtcooobnaocbdjaaSat
namespace Go.Proofs.Ytcooobnaocbdjaa

set_option linter.unusedVariables false

/-! ### What a plan is for -/
def taskB (n s m : Int) : Bool := inB 1 4 n && (inB 0 (n - 1) s && inB 1 5 m)
theorem taskB_has {n s m : Int} (h : taskB n s m = true) : 1 ≤ n ∧ n ≤ 4 ∧ 0 ≤ s ∧ s < n ∧ 1 ≤ m ∧ m ≤ 5 := by
  unfold taskB inB at h
  simp only [Bool.and_eq_true, decide_eq_true_eq] at h
  omega
theorem taskB_yes {n s m : Int} (h1 : 1 ≤ n) (h2 : n ≤ 4) (h3 : 0 ≤ s) (h4 : s < n) (h5 : 1 ≤ m) (h6 : m ≤ 5) : taskB n s m = true := by
  unfold taskB inB
  simp only [Bool.and_eq_true, decide_eq_true_eq]
  omega
theorem taskB_no {n s m : Int} (h : ¬ (1 ≤ n ∧ n ≤ 4 ∧ 0 ≤ s ∧ s < n ∧ 1 ≤ m ∧ m ≤ 5)) : taskB n s m = false := by
  cases e : taskB n s m
  · rfl
  · exact absurd (taskB_has e) h
/-- How many go ahead before the first one comes back. -/
def warmN (ds n s m : Int) : Int := if taskB n s m = true then (if ds = 2 then min m (n - 1 - s) else m) else 0
theorem warmN_no {ds n s m : Int} (h : taskB n s m = false) : warmN ds n s m = 0 := by unfold warmN; rw [h]; rfl
theorem warmN_one {n s m : Int} (h : taskB n s m = true) : warmN 2 n s m = min m (n - 1 - s) := by unfold warmN; rw [h]; rfl
theorem warmN_all {ds n s m : Int} (h : taskB n s m = true) (hd : ds ≠ 2) : warmN ds n s m = m := by unfold warmN; rw [h, if_pos rfl, if_neg hd]
end Go.Proofs.Ytcooobnaocbdjaa
