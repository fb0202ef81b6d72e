/-
  Rows of numbers: what comes of them, as plain functions.
-/
import Derived.Test.YtcooobnaocbdjaaFix
namespace Go.Proofs.Ytcooobnaocbdjaa
set_option linter.unusedVariables false

/-- Is it a right row? -/
def vecOkB (xs : List Int) : Bool := decide (1 ≤ xs.length) && decide (xs.length ≤ 6) && xs.all okB
theorem vecOkB_len {xs : List Int} (h : xs.length < 1 ∨ 6 < xs.length) : vecOkB xs = false := by
  unfold vecOkB
  rcases h with h | h
  · rw [decide_eq_false (by omega : ¬ 1 ≤ xs.length)]; simp
  · rw [decide_eq_false (by omega : ¬ xs.length ≤ 6)]; simp
theorem vecOkB_place {xs : List Int} {k : Nat} (hk : k < xs.length) (h : okB (xs.getD k 0) = false) : vecOkB xs = false := by
  have h1 : xs.getD k 0 ∈ xs := by simp [List.getD, hk]
  have h2 : xs.all okB = false := List.all_eq_false.2 ⟨_, h1, by rw [h]; decide⟩
  unfold vecOkB
  rw [h2, Bool.and_false]
theorem vecOkB_yes {xs : List Int} (h0 : 1 ≤ xs.length) (h1 : xs.length ≤ 6) (h : ∀ j, j < xs.length → okB (xs.getD j 0) = true) : vecOkB xs = true := by
  have h2 : xs.all okB = true := by
    refine List.all_eq_true.2 fun x hx => ?_
    obtain ⟨j, hj, rfl⟩ := List.mem_iff_getElem.1 hx
    have := h j hj
    simpa [List.getD, hj] using this
  unfold vecOkB
  rw [h2, decide_eq_true h0, decide_eq_true h1]
  rfl
theorem vecOkB_has {xs : List Int} (h : vecOkB xs = true) : 1 ≤ xs.length ∧ xs.length ≤ 6 ∧ ∀ j, j < xs.length → okB (xs.getD j 0) = true := by
  unfold vecOkB at h
  simp only [Bool.and_eq_true, decide_eq_true_eq, List.all_eq_true] at h
  refine ⟨h.1.1, h.1.2, fun j hj => h.2 _ ?_⟩
  simp [List.getD, hj]

/-- Are both right, and of one length? -/
def pairB (xs ys : List Int) : Bool := vecOkB xs && vecOkB ys && decide (xs.length = ys.length)
theorem pairB_has {xs ys : List Int} (h : pairB xs ys = true) : vecOkB xs = true ∧ vecOkB ys = true ∧ xs.length = ys.length := by
  unfold pairB at h
  simp only [Bool.and_eq_true, decide_eq_true_eq] at h
  exact ⟨h.1.1, h.1.2, h.2⟩
theorem pairB_comm (xs ys : List Int) : pairB ys xs = pairB xs ys := by
  unfold pairB
  rw [Bool.and_comm (vecOkB ys), show decide (ys.length = xs.length) = decide (xs.length = ys.length) from decide_eq_decide.2 ⟨Eq.symm, Eq.symm⟩]
theorem pairB_self (xs : List Int) : pairB xs xs = vecOkB xs := by unfold pairB; simp
theorem pairB_nil {xs ys : List Int} (h : xs.length = 0) : pairB xs ys = false := by
  unfold pairB
  rw [vecOkB_len (Or.inl (by omega))]
  rfl

/-- What comes of the first k places. -/
def rowK (f : Int → Int → Int) (xs ys : List Int) : Nat → List Int
  | 0 => []
  | k + 1 => rowK f xs ys k ++ [f (xs.getD k 0) (ys.getD k 0)]
theorem rowK_length (f : Int → Int → Int) (xs ys : List Int) (k : Nat) : (rowK f xs ys k).length = k := by
  induction k with
  | zero => rfl
  | succ k ih => simp [rowK, ih]
theorem rowK_get (f : Int → Int → Int) (xs ys : List Int) (k j : Nat) (hj : j < k) : (rowK f xs ys k).getD j 0 = f (xs.getD j 0) (ys.getD j 0) := by
  induction k with
  | zero => omega
  | succ k ih =>
    by_cases e : j = k
    · subst e
      have := rowK_length f xs ys j
      simp only [rowK, List.getD]
      rw [List.getElem?_append_right (by omega), this, Nat.sub_self]
      rfl
    · have hl := rowK_length f xs ys k
      have := ih (by omega)
      simp only [rowK, List.getD] at this ⊢
      rw [List.getElem?_append_left (by omega)]
      exact this
theorem rowK_congr {f g : Int → Int → Int} {xs ys us vs : List Int} (k : Nat) (h : ∀ j, j < k → f (xs.getD j 0) (ys.getD j 0) = g (us.getD j 0) (vs.getD j 0)) : rowK f xs ys k = rowK g us vs k := by
  induction k with
  | zero => rfl
  | succ k ih => simp only [rowK]; rw [ih (fun j hj => h j (by omega)), h k (by omega)]
def flagK (g : Int → Int → Bool) (xs ys : List Int) : Nat → Bool
  | 0 => false
  | k + 1 => flagK g xs ys k || g (xs.getD k 0) (ys.getD k 0)
theorem flagK_none (xs ys : List Int) (k : Nat) : flagK (fun _ _ => false) xs ys k = false := by
  induction k with
  | zero => rfl
  | succ k ih => simp [flagK, ih]
/-- What comes of two rows, place by place. -/
def rowP (f : Int → Int → Int) (xs ys : List Int) : List Int := if pairB xs ys then rowK f xs ys xs.length else []
def flagP (g : Int → Int → Bool) (xs ys : List Int) : Bool := pairB xs ys && flagK g xs ys xs.length
theorem rowP_no (f : Int → Int → Int) {xs ys : List Int} (h : pairB xs ys = false) : rowP f xs ys = [] := by unfold rowP; rw [h]; rfl
theorem rowP_yes (f : Int → Int → Int) {xs ys : List Int} (h : pairB xs ys = true) : rowP f xs ys = rowK f xs ys xs.length := by unfold rowP; rw [h]; rfl
theorem flagP_no (f : Int → Int → Bool) {xs ys : List Int} (h : pairB xs ys = false) : flagP f xs ys = false := by unfold flagP; rw [h]; rfl
theorem flagP_yes (f : Int → Int → Bool) {xs ys : List Int} (h : pairB xs ys = true) : flagP f xs ys = flagK f xs ys xs.length := by unfold flagP; rw [h]; rfl
theorem rowP_length (f : Int → Int → Int) (xs ys : List Int) : (rowP f xs ys).length ≤ 6 := by
  by_cases h : pairB xs ys = true
  · rw [rowP_yes f h, rowK_length]
    exact (vecOkB_has (pairB_has h).1).2.1
  · rw [rowP_no f (by simpa using h)]
    decide
theorem flagP_none (xs ys : List Int) : flagP (fun _ _ => false) xs ys = false := by unfold flagP; rw [flagK_none, Bool.and_false]
/-- A number to each place. -/
def scaleN (c : Int) (xs : List Int) : List Int := if okB c then rowP (fun x _ => mulN c x) xs xs else []
def scaleB (c : Int) (xs : List Int) : Bool := okB c && flagP (fun x _ => mulB c x) xs xs
theorem scaleN_length (c : Int) (xs : List Int) : (scaleN c xs).length ≤ 6 := by
  unfold scaleN
  split
  · exact rowP_length _ _ _
  · decide
/-- A sum through both rows. -/
def sumK (F : Int → Int → Int → Int) (xs ys : List Int) : Nat → Int
  | 0 => 0
  | k + 1 => F (sumK F xs ys k) (xs.getD k 0) (ys.getD k 0)
def sumKB (F : Int → Int → Int → Int) (G : Int → Int → Int → Bool) (xs ys : List Int) : Nat → Bool
  | 0 => false
  | k + 1 => sumKB F G xs ys k || G (sumK F xs ys k) (xs.getD k 0) (ys.getD k 0)
/-- Products, added from the left. -/
def dotF (s x y : Int) : Int := addN s (mulN x y)
def dotG (s x y : Int) : Bool := mulB x y || addB s (mulN x y)
abbrev dotK (xs ys : List Int) (k : Nat) : Int := sumK dotF xs ys k
abbrev dotKB (xs ys : List Int) (k : Nat) : Bool := sumKB dotF dotG xs ys k
def dotN (xs ys : List Int) : Int := if pairB xs ys then dotK xs ys xs.length else 0
def dotB (xs ys : List Int) : Bool := pairB xs ys && dotKB xs ys xs.length
theorem dotN_no {xs ys : List Int} (h : pairB xs ys = false) : dotN xs ys = 0 := by unfold dotN; rw [h]; rfl
theorem dotN_yes {xs ys : List Int} (h : pairB xs ys = true) : dotN xs ys = dotK xs ys xs.length := by unfold dotN; rw [h]; rfl
theorem dotB_no {xs ys : List Int} (h : pairB xs ys = false) : dotB xs ys = false := by unfold dotB; rw [h]; rfl
theorem dotB_yes {xs ys : List Int} (h : pairB xs ys = true) : dotB xs ys = dotKB xs ys xs.length := by unfold dotB; rw [h]; rfl
/-- What VecMask lets through. -/
def maskN (x d : Int) : Int := if 0 < x then d else 0
theorem maskN_yes {x : Int} (d : Int) (h : 0 < x) : maskN x d = d := if_pos h
theorem maskN_no {x : Int} (d : Int) (h : ¬ 0 < x) : maskN x d = 0 := if_neg h
end Go.Proofs.Ytcooobnaocbdjaa
