/-
  More on sums and products.
-/
import Derived.Test.YtcooobnaocbdjaaFix
namespace Go.Proofs.Ytcooobnaocbdjaa
set_option linter.unusedVariables false

theorem addN_comm (a b : Int) : addN b a = addN a b ∧ addB b a = addB a b := by unfold addN addB; rw [Int.add_comm]; exact ⟨rfl, rfl⟩
theorem mulN_comm (a b : Int) : mulN b a = mulN a b ∧ mulB b a = mulB a b := by unfold mulN mulB; rw [Int.mul_comm]; exact ⟨rfl, rfl⟩
theorem okB_range {a : Int} (h : okB a = true) : -2147483647 ≤ a ∧ a ≤ 2147483647 := by
  unfold okB inB at h
  simpa using h
theorem sat_ok {a : Int} (h : okB a = true) : sat a = a := (sat_mid (okB_range h).1 (okB_range h).2).1
theorem okB_sat (x : Int) : okB (sat x) = true := okB_yes (sat_range x).1 (sat_range x).2
theorem mul_one_ok {a : Int} (h : okB a = true) : mulN a 65536 = a ∧ mulB a 65536 = false := by
  have h1 : sat 65536 = 65536 := rfl
  have hr := okB_range h
  unfold mulN mulB
  rw [h1, sat_ok h, Int.mul_ediv_cancel _ (by omega)]
  exact sat_mid hr.1 hr.2
theorem mul_zero_ok (a : Int) : mulN a 0 = 0 ∧ mulB a 0 = false := by
  have h1 : sat 0 = 0 := rfl
  unfold mulN mulB
  rw [h1, Int.mul_zero]
  exact ⟨rfl, rfl⟩
theorem sub_back {a b : Int} (ha : okB a = true) (hb : okB b = true) (h : addB a b = false) : subN (addN a b) b = a ∧ subB (addN a b) b = false := by
  have hx : addN a b = a + b := by
    unfold addB at h
    unfold addN
    rw [satB_false h, sat_ok ha, sat_ok hb]
  have hy : sat (addN a b) = addN a b := sat_ok (okB_sat _)
  have hr := okB_range ha
  unfold subN subB
  rw [hy, sat_ok hb, hx, show a + b - b = a by omega]
  exact sat_mid hr.1 hr.2
theorem relu_cases (a : Int) : 0 ≤ reluN a ∧ (reluN a = 0 ∨ reluN a = sat a) := by
  unfold reluN
  split
  · exact ⟨by omega, Or.inr rfl⟩
  · exact ⟨by omega, Or.inl rfl⟩
theorem neg_neg_sat (a : Int) : -sat (-sat a) = sat a := by
  have h := sat_range a
  rw [(sat_mid (x := -sat a) (by omega) (by omega)).1]
  omega
theorem okB_neg_sat (a : Int) : okB (-sat a) = true := by
  have h := sat_range a
  exact okB_yes (by omega) (by omega)
end Go.Proofs.Ytcooobnaocbdjaa
