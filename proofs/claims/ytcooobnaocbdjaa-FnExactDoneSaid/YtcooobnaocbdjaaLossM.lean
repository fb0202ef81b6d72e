/-
  A loss, as a plain function.
-/
import Derived.Test.YtcooobnaocbdjaaVecLawM
namespace Go.Proofs.Ytcooobnaocbdjaa
set_option linter.unusedVariables false

/-- Half, rounded down, of the sum of the squares of the differences; and whether any of it was out of the range. -/
def lossN (ys ts : List Int) : Int := dotN (rowP subN ys ts) (rowP subN ys ts) / 2
def lossB (ys ts : List Int) : Bool := flagP subB ys ts || dotB (rowP subN ys ts) (rowP subN ys ts)
theorem sat_nonneg {x : Int} (h : 0 ≤ x) : 0 ≤ sat x := by
  unfold sat
  split
  · omega
  · split <;> omega
theorem mul_self_nonneg (x : Int) : 0 ≤ mulN x x := by
  unfold mulN
  refine sat_nonneg ?_
  have h : 0 ≤ sat x * sat x := by
    rcases Int.le_total 0 (sat x) with h | h
    · exact Int.mul_nonneg h h
    · exact Int.mul_nonneg_of_nonpos_of_nonpos h h
  omega
theorem dotK_nonneg (xs : List Int) (k : Nat) : 0 ≤ dotK xs xs k := by
  induction k with
  | zero => exact Int.le_refl _
  | succ k ih =>
    show 0 ≤ dotF (dotK xs xs k) (xs.getD k 0) (xs.getD k 0)
    unfold dotF addN
    have h1 := sat_nonneg ih
    have h2 := sat_nonneg (mul_self_nonneg (xs.getD k 0))
    exact sat_nonneg (by omega)
theorem dot_nonneg (xs : List Int) : 0 ≤ dotN xs xs := by
  unfold dotN
  split
  · exact dotK_nonneg _ _
  · exact Int.le_refl _
theorem loss_nonneg (ys ts : List Int) : 0 ≤ lossN ys ts := by
  have := dot_nonneg (rowP subN ys ts)
  unfold lossN
  omega
theorem dotN_range (xs ys : List Int) : -2147483647 ≤ dotN xs ys ∧ dotN xs ys ≤ 2147483647 := by
  unfold dotN
  split
  · cases xs.length with
    | zero => exact ⟨by show (-2147483647 : Int) ≤ 0; omega, by show (0 : Int) ≤ 2147483647; omega⟩
    | succ k => exact sat_range _
  · omega
theorem sub_self (x : Int) : subN x x = 0 ∧ subB x x = false := by
  have h : sat x - sat x = 0 := by omega
  unfold subN subB
  rw [h]
  exact ⟨rfl, rfl⟩
theorem flagK_false {g : Int → Int → Bool} {xs ys : List Int} (k : Nat) (h : ∀ j, j < k → g (xs.getD j 0) (ys.getD j 0) = false) : flagK g xs ys k = false := by
  induction k with
  | zero => rfl
  | succ k ih => rw [flagK, ih fun j hj => h j (by omega), h k (by omega)]; rfl
theorem dotK_zero {xs : List Int} (h : ∀ j, xs.getD j 0 = 0) (k : Nat) : dotK xs xs k = 0 ∧ dotKB xs xs k = false := by
  induction k with
  | zero => exact ⟨rfl, rfl⟩
  | succ k ih =>
    have e1 : dotK xs xs (k + 1) = dotF (dotK xs xs k) (xs.getD k 0) (xs.getD k 0) := rfl
    have e2 : dotKB xs xs (k + 1) = (dotKB xs xs k || dotG (dotK xs xs k) (xs.getD k 0) (xs.getD k 0)) := rfl
    rw [e1, e2, ih.1, ih.2, h k]
    exact ⟨rfl, rfl⟩
theorem rowP_sub_self (xs : List Int) (j : Nat) : (rowP subN xs xs).getD j 0 = 0 := by
  cases hp : pairB xs xs with
  | false => rw [rowP_no _ hp]; simp
  | true =>
    rw [rowP_yes _ hp]
    by_cases hj : j < xs.length
    · rw [rowK_get _ _ _ _ _ hj]; exact (sub_self _).1
    · rw [List.getD_eq_getElem?_getD, List.getElem?_eq_none (by rw [rowK_length]; omega)]; rfl
theorem loss_self (xs : List Int) : lossN xs xs = 0 ∧ lossB xs xs = false := by
  have hz := rowP_sub_self xs
  have h1 : dotN (rowP subN xs xs) (rowP subN xs xs) = 0 := by
    unfold dotN
    split
    · exact (dotK_zero hz _).1
    · rfl
  have h2 : dotB (rowP subN xs xs) (rowP subN xs xs) = false := by
    unfold dotB
    rw [(dotK_zero hz _).2, Bool.and_false]
  have h3 : flagP subB xs xs = false := by
    unfold flagP
    rw [flagK_false _ fun j _ => (sub_self _).2, Bool.and_false]
  unfold lossN lossB
  rw [h1, h2, h3]
  exact ⟨rfl, rfl⟩
end Go.Proofs.Ytcooobnaocbdjaa
