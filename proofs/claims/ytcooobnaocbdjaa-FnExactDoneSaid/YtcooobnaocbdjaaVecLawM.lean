/-
  Rows of numbers: what the law on sums, masks and products asks, as plain facts.
-/
import Derived.Test.YtcooobnaocbdjaaVecM
import Derived.Test.YtcooobnaocbdjaaFixMore
namespace Go.Proofs.Ytcooobnaocbdjaa
set_option linter.unusedVariables false

theorem rowP_addN_comm (xs ys : List Int) : rowP addN ys xs = rowP addN xs ys := by
  cases hp : pairB xs ys with
  | false => rw [rowP_no _ hp, rowP_no _ (by rw [pairB_comm]; exact hp)]
  | true =>
    rw [rowP_yes _ hp, rowP_yes _ (by rw [pairB_comm]; exact hp), (pairB_has hp).2.2]
    exact rowK_congr _ fun j _ => (addN_comm _ _).1
theorem dotF_comm (s x y : Int) : dotF s y x = dotF s x y ∧ dotG s y x = dotG s x y := by
  have h := mulN_comm x y
  unfold dotF dotG
  rw [h.1, h.2]
  exact ⟨rfl, rfl⟩
theorem dotK_comm (xs ys : List Int) (k : Nat) : dotK ys xs k = dotK xs ys k ∧ dotKB ys xs k = dotKB xs ys k := by
  induction k with
  | zero => exact ⟨rfl, rfl⟩
  | succ k ih =>
    have h := dotF_comm (dotK xs ys k) (xs.getD k 0) (ys.getD k 0)
    constructor
    · show dotF (dotK ys xs k) _ _ = dotF (dotK xs ys k) _ _
      rw [ih.1, h.1]
    · show (dotKB ys xs k || dotG (dotK ys xs k) _ _) = (dotKB xs ys k || dotG (dotK xs ys k) _ _)
      rw [ih.1, ih.2, h.2]
theorem dot_comm (xs ys : List Int) : dotN ys xs = dotN xs ys ∧ dotB ys xs = dotB xs ys := by
  cases hp : pairB xs ys with
  | false =>
    have hp' : pairB ys xs = false := by rw [pairB_comm]; exact hp
    exact ⟨by rw [dotN_no hp, dotN_no hp'], by rw [dotB_no hp, dotB_no hp']⟩
  | true =>
    have hp' : pairB ys xs = true := by rw [pairB_comm]; exact hp
    have h := dotK_comm xs ys ys.length
    exact ⟨by rw [dotN_yes hp, dotN_yes hp', h.1, (pairB_has hp).2.2], by rw [dotB_yes hp, dotB_yes hp', h.2, (pairB_has hp).2.2]⟩
/-- A single one, else noughts. -/
def unitRow (n j : Nat) : List Int := (List.replicate n 0).set j 65536
theorem unitRow_length (n j : Nat) : (unitRow n j).length = n := by simp [unitRow]
theorem unitRow_same (n j : Nat) (h : j < n) : (unitRow n j).getD j 0 = 65536 := by simp [unitRow, List.getD, h]
theorem unitRow_other (n j i : Nat) (h : i < n) (e : i ≠ j) : (unitRow n j).getD i 0 = 0 := by
  simp [unitRow, List.getD, h, Ne.symm e]
theorem unitRow_ok (n j : Nat) (h0 : 1 ≤ n) (h6 : n ≤ 6) (hj : j < n) : vecOkB (unitRow n j) = true := by
  refine vecOkB_yes (by rw [unitRow_length]; exact h0) (by rw [unitRow_length]; exact h6) fun i hi => ?_
  rw [unitRow_length] at hi
  by_cases e : i = j
  · subst e; rw [unitRow_same n i hi]; rfl
  · rw [unitRow_other n j i hi e]; rfl
theorem add_zero_ok {a : Int} (h : okB a = true) : addN a 0 = a ∧ addB a 0 = false := by
  have h1 : sat 0 = 0 := rfl
  have hr := okB_range h
  unfold addN addB
  rw [h1, sat_ok h, Int.add_zero]
  exact sat_mid hr.1 hr.2
theorem zero_add_ok {a : Int} (h : okB a = true) : addN 0 a = a ∧ addB 0 a = false := by
  have h1 : sat 0 = 0 := rfl
  have hr := okB_range h
  unfold addN addB
  rw [h1, sat_ok h, Int.zero_add]
  exact sat_mid hr.1 hr.2
theorem dotK_unit (xs : List Int) (n j : Nat) (hj : j < n) (hok : ∀ i, i < n → okB (xs.getD i 0) = true) (k : Nat) (hk : k ≤ n) : dotK xs (unitRow n j) k = (if j < k then xs.getD j 0 else 0) ∧ dotKB xs (unitRow n j) k = false := by
  induction k with
  | zero => exact ⟨by simp [dotK, sumK], rfl⟩
  | succ k ih =>
    have ih := ih (by omega)
    have e1 : dotK xs (unitRow n j) (k + 1) = dotF (dotK xs (unitRow n j) k) (xs.getD k 0) ((unitRow n j).getD k 0) := rfl
    have e2 : dotKB xs (unitRow n j) (k + 1) = (dotKB xs (unitRow n j) k || dotG (dotK xs (unitRow n j) k) (xs.getD k 0) ((unitRow n j).getD k 0)) := rfl
    rw [e1, e2, ih.1, ih.2]
    by_cases e : k = j
    · subst e
      have hm := mul_one_ok (hok k (by omega))
      have hz := zero_add_ok (hok k (by omega))
      rw [unitRow_same n k hj, if_neg (Nat.lt_irrefl _), if_pos (Nat.lt_succ_self _)]
      unfold dotF dotG
      rw [hm.1, hm.2, hz.1, hz.2]
      exact ⟨rfl, rfl⟩
    · have hm := mul_zero_ok (xs.getD k 0)
      rw [unitRow_other n j k (by omega) e]
      unfold dotF dotG
      rw [hm.1, hm.2]
      by_cases hlt : j < k
      · have ha := add_zero_ok (hok j (by omega))
        rw [if_pos hlt, if_pos (by omega), ha.1, ha.2]
        exact ⟨rfl, rfl⟩
      · rw [if_neg hlt, if_neg (by omega)]
        exact ⟨rfl, rfl⟩
theorem dot_unit {xs : List Int} {n j : Nat} (hl : xs.length = n) (hj : j < n) (hok : vecOkB xs = true) : dotN xs (unitRow n j) = xs.getD j 0 ∧ dotB xs (unitRow n j) = false := by
  obtain ⟨h1, h6, h⟩ := vecOkB_has hok
  rw [hl] at h1 h6 h
  have hp : pairB xs (unitRow n j) = true := by
    unfold pairB
    rw [hok, unitRow_ok n j h1 h6 hj, decide_eq_true (by rw [hl, unitRow_length])]
    rfl
  have hk := dotK_unit xs n j hj h n (Nat.le_refl _)
  rw [if_pos hj] at hk
  exact ⟨by rw [dotN_yes hp, hl]; exact hk.1, by rw [dotB_yes hp, hl]; exact hk.2⟩
/-- What VecMask tells of a place. -/
theorem maskN_cases (x y : Int) : (0 < x ∧ maskN x y = y) ∨ (¬ 0 < x ∧ maskN x y = 0) := by
  by_cases h : 0 < x
  · exact .inl ⟨h, maskN_yes y h⟩
  · exact .inr ⟨h, maskN_no y h⟩
end Go.Proofs.Ytcooobnaocbdjaa
