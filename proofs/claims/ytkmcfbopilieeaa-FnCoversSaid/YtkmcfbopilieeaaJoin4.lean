import Derived.Test.YtkmcfbopilieeaaProg
import Derived.Test.YtkmcfbopilieeaaJoin2
import Derived.Test.YtkmcfbopilieeaaJoin3
import Derived.Outline
/-! YtkmcfbopilieeaaFix -/
section

namespace Go.Proofs.Ytkmcfbopilieeaa
open Go.RowKit
set_option linter.unusedVariables false

theorem fix_ret {a b : Int} (h : a = b) : Ending.returned (.int .i64 a) = .returned (.int .i64 b) := by rw [h]
theorem inRange_mid (x : Int) (w : World) (h0 : -2147483647 ≤ x) (h1 : x ≤ 2147483647) :
    Calls Try.prog 87 #[.int .i64 x] w fun e w' => e = .returned .nilIface ∧ w = w' := by
  go_enter Try.func87, Try.ntmps87
  go_wp2
  go_ret
  exact ⟨rfl, rfl⟩
theorem inRange_hi (x : Int) (w : World) (h0 : 2147483647 < x) :
    Calls Try.prog 87 #[.int .i64 x] w fun e w' => e = .returned (.iface 122 (.agg #[.int .i64 2147483647])) ∧ w = w' := by
  go_enter Try.func87, Try.ntmps87
  go_wp2
  go_ret
  exact ⟨rfl, rfl⟩
theorem inRange_lo (x : Int) (w : World) (h0 : x < -2147483647) :
    Calls Try.prog 87 #[.int .i64 x] w fun e w' => e = .returned (.iface 122 (.agg #[.int .i64 (-2147483647)])) ∧ w = w' := by
  go_enter Try.func87, Try.ntmps87
  go_wp2
  go_ret
  exact ⟨rfl, rfl⟩

def reluN (a : Int) : Int := if 0 < sat a then sat a else 0
def okB (x : Int) : Bool := inB (-2147483647) 2147483647 x
theorem okB_yes {x : Int} (h0 : -2147483647 ≤ x) (h1 : x ≤ 2147483647) : okB x = true := inB_yes h0 h1
theorem okB_no {x : Int} (h : x < -2147483647 ∨ 2147483647 < x) : okB x = false := inB_no h
theorem implFixOk_any (x : Int) (w : World) :
    Calls Try.prog 82 #[.int .i64 x] w fun e w' => e = .returned (.bool (okB x)) ∧ w = w' := by
  by_cases h1 : 2147483647 < x
  · have HS := Lib.hid (okB_no (Or.inr h1))
    go_enter Try.func82, Try.ntmps82
    go_wp2_with fail
    refine (inRange_hi x _ h1).mono ?_
    rintro e w' ⟨rfl, rfl⟩
    go_wp2_with fail
    go_ret
    exact ⟨by rw [HS.out] <;> rfl, rfl⟩
  · by_cases h2 : x < -2147483647
    · have HS := Lib.hid (okB_no (Or.inl h2))
      go_enter Try.func82, Try.ntmps82
      go_wp2_with fail
      refine (inRange_lo x _ h2).mono ?_
      rintro e w' ⟨rfl, rfl⟩
      go_wp2_with fail
      go_ret
      exact ⟨by rw [HS.out] <;> rfl, rfl⟩
    · have g1 : -2147483647 ≤ x := by omega
      have g2 : x ≤ 2147483647 := by omega
      have HS := Lib.hid (okB_yes g1 g2)
      clear h1 h2
      go_enter Try.func82, Try.ntmps82
      go_wp2_with fail
      refine (inRange_mid x _ g1 g2).mono ?_
      rintro e w' ⟨rfl, rfl⟩
      go_wp2_with fail
      go_ret
      exact ⟨by rw [HS.out] <;> rfl, rfl⟩
end Go.Proofs.Ytkmcfbopilieeaa

end

/-! YtkmcfbopilieeaaVecM -/
section

namespace Go.Proofs.Ytkmcfbopilieeaa
set_option linter.unusedVariables false

/-- Is it a right row? -/
def vecOkB (xs : List Int) : Bool := decide (1 ≤ xs.length) && decide (xs.length ≤ 6) && xs.all okB
theorem vecOkB_len {xs : List Int} (h : xs.length < 1 ∨ 6 < xs.length) : vecOkB xs = false := by
  unfold vecOkB
  rcases h with h | h
  · rw [decide_eq_false (by omega : ¬ 1 ≤ xs.length)]; simp
  · rw [decide_eq_false (by omega : ¬ xs.length ≤ 6)]; simp
theorem vecOkB_place {xs : List Int} {k : Nat} (hk : k < xs.length) (h : okB (xs.getD k 0) = false) : vecOkB xs = false := by
  have h1 : xs.getD k 0 ∈ xs := by simp [List.getD, hk]
  have h2 : xs.all okB = false := List.all_eq_false.2 ⟨_, h1, by rw [h]; decide⟩
  unfold vecOkB
  rw [h2, Bool.and_false]
theorem vecOkB_yes {xs : List Int} (h0 : 1 ≤ xs.length) (h1 : xs.length ≤ 6) (h : ∀ j, j < xs.length → okB (xs.getD j 0) = true) : vecOkB xs = true := by
  have h2 : xs.all okB = true := by
    refine List.all_eq_true.2 fun x hx => ?_
    obtain ⟨j, hj, rfl⟩ := List.mem_iff_getElem.1 hx
    have := h j hj
    simpa [List.getD, hj] using this
  unfold vecOkB
  rw [h2, decide_eq_true h0, decide_eq_true h1]
  rfl
theorem vecOkB_has {xs : List Int} (h : vecOkB xs = true) : 1 ≤ xs.length ∧ xs.length ≤ 6 ∧ ∀ j, j < xs.length → okB (xs.getD j 0) = true := by
  unfold vecOkB at h
  simp only [Bool.and_eq_true, decide_eq_true_eq, List.all_eq_true] at h
  refine ⟨h.1.1, h.1.2, fun j hj => h.2 _ ?_⟩
  simp [List.getD, hj]

/-- Are both right, and of one length? -/
def pairB (xs ys : List Int) : Bool := vecOkB xs && vecOkB ys && decide (xs.length = ys.length)
theorem pairB_has {xs ys : List Int} (h : pairB xs ys = true) : vecOkB xs = true ∧ vecOkB ys = true ∧ xs.length = ys.length := by
  unfold pairB at h
  simp only [Bool.and_eq_true, decide_eq_true_eq] at h
  exact ⟨h.1.1, h.1.2, h.2⟩
theorem pairB_comm (xs ys : List Int) : pairB ys xs = pairB xs ys := by
  unfold pairB
  rw [Bool.and_comm (vecOkB ys), show decide (ys.length = xs.length) = decide (xs.length = ys.length) from decide_eq_decide.2 ⟨Eq.symm, Eq.symm⟩]
theorem pairB_self (xs : List Int) : pairB xs xs = vecOkB xs := by unfold pairB; simp
theorem pairB_nil {xs ys : List Int} (h : xs.length = 0) : pairB xs ys = false := by
  unfold pairB
  rw [vecOkB_len (Or.inl (by omega))]
  rfl

/-- What comes of the first k places. -/
def rowK (f : Int → Int → Int) (xs ys : List Int) : Nat → List Int
  | 0 => []
  | k + 1 => rowK f xs ys k ++ [f (xs.getD k 0) (ys.getD k 0)]
theorem rowK_length (f : Int → Int → Int) (xs ys : List Int) (k : Nat) : (rowK f xs ys k).length = k := by
  induction k with
  | zero => rfl
  | succ k ih => simp [rowK, ih]
theorem rowK_get (f : Int → Int → Int) (xs ys : List Int) (k j : Nat) (hj : j < k) : (rowK f xs ys k).getD j 0 = f (xs.getD j 0) (ys.getD j 0) := by
  induction k with
  | zero => omega
  | succ k ih =>
    by_cases e : j = k
    · subst e
      have := rowK_length f xs ys j
      simp only [rowK, List.getD]
      rw [List.getElem?_append_right (by omega), this, Nat.sub_self]
      rfl
    · have hl := rowK_length f xs ys k
      have := ih (by omega)
      simp only [rowK, List.getD] at this ⊢
      rw [List.getElem?_append_left (by omega)]
      exact this
theorem rowK_congr {f g : Int → Int → Int} {xs ys us vs : List Int} (k : Nat) (h : ∀ j, j < k → f (xs.getD j 0) (ys.getD j 0) = g (us.getD j 0) (vs.getD j 0)) : rowK f xs ys k = rowK g us vs k := by
  induction k with
  | zero => rfl
  | succ k ih => simp only [rowK]; rw [ih (fun j hj => h j (by omega)), h k (by omega)]
def flagK (g : Int → Int → Bool) (xs ys : List Int) : Nat → Bool
  | 0 => false
  | k + 1 => flagK g xs ys k || g (xs.getD k 0) (ys.getD k 0)
theorem flagK_none (xs ys : List Int) (k : Nat) : flagK (fun _ _ => false) xs ys k = false := by
  induction k with
  | zero => rfl
  | succ k ih => simp [flagK, ih]
/-- What comes of two rows, place by place. -/
def rowP (f : Int → Int → Int) (xs ys : List Int) : List Int := if pairB xs ys then rowK f xs ys xs.length else []
def flagP (g : Int → Int → Bool) (xs ys : List Int) : Bool := pairB xs ys && flagK g xs ys xs.length
theorem rowP_no (f : Int → Int → Int) {xs ys : List Int} (h : pairB xs ys = false) : rowP f xs ys = [] := by unfold rowP; rw [h]; rfl
theorem rowP_yes (f : Int → Int → Int) {xs ys : List Int} (h : pairB xs ys = true) : rowP f xs ys = rowK f xs ys xs.length := by unfold rowP; rw [h]; rfl
theorem flagP_no (f : Int → Int → Bool) {xs ys : List Int} (h : pairB xs ys = false) : flagP f xs ys = false := by unfold flagP; rw [h]; rfl
theorem flagP_yes (f : Int → Int → Bool) {xs ys : List Int} (h : pairB xs ys = true) : flagP f xs ys = flagK f xs ys xs.length := by unfold flagP; rw [h]; rfl
theorem rowP_length (f : Int → Int → Int) (xs ys : List Int) : (rowP f xs ys).length ≤ 6 := by
  by_cases h : pairB xs ys = true
  · rw [rowP_yes f h, rowK_length]
    exact (vecOkB_has (pairB_has h).1).2.1
  · rw [rowP_no f (by simpa using h)]
    decide
theorem flagP_none (xs ys : List Int) : flagP (fun _ _ => false) xs ys = false := by unfold flagP; rw [flagK_none, Bool.and_false]
/-- A number to each place. -/
def scaleN (c : Int) (xs : List Int) : List Int := if okB c then rowP (fun x _ => mulN c x) xs xs else []
def scaleB (c : Int) (xs : List Int) : Bool := okB c && flagP (fun x _ => mulB c x) xs xs
theorem scaleN_length (c : Int) (xs : List Int) : (scaleN c xs).length ≤ 6 := by
  unfold scaleN
  split
  · exact rowP_length _ _ _
  · decide
/-- A sum through both rows. -/
def sumK (F : Int → Int → Int → Int) (xs ys : List Int) : Nat → Int
  | 0 => 0
  | k + 1 => F (sumK F xs ys k) (xs.getD k 0) (ys.getD k 0)
def sumKB (F : Int → Int → Int → Int) (G : Int → Int → Int → Bool) (xs ys : List Int) : Nat → Bool
  | 0 => false
  | k + 1 => sumKB F G xs ys k || G (sumK F xs ys k) (xs.getD k 0) (ys.getD k 0)
/-- Products, added from the left. -/
def dotF (s x y : Int) : Int := addN s (mulN x y)
def dotG (s x y : Int) : Bool := mulB x y || addB s (mulN x y)
abbrev dotK (xs ys : List Int) (k : Nat) : Int := sumK dotF xs ys k
abbrev dotKB (xs ys : List Int) (k : Nat) : Bool := sumKB dotF dotG xs ys k
def dotN (xs ys : List Int) : Int := if pairB xs ys then dotK xs ys xs.length else 0
def dotB (xs ys : List Int) : Bool := pairB xs ys && dotKB xs ys xs.length
theorem dotN_no {xs ys : List Int} (h : pairB xs ys = false) : dotN xs ys = 0 := by unfold dotN; rw [h]; rfl
theorem dotN_yes {xs ys : List Int} (h : pairB xs ys = true) : dotN xs ys = dotK xs ys xs.length := by unfold dotN; rw [h]; rfl
theorem dotB_no {xs ys : List Int} (h : pairB xs ys = false) : dotB xs ys = false := by unfold dotB; rw [h]; rfl
theorem dotB_yes {xs ys : List Int} (h : pairB xs ys = true) : dotB xs ys = dotKB xs ys xs.length := by unfold dotB; rw [h]; rfl
/-- What VecMask lets through. -/
def maskN (x d : Int) : Int := if 0 < x then d else 0
theorem maskN_yes {x : Int} (d : Int) (h : 0 < x) : maskN x d = d := if_pos h
theorem maskN_no {x : Int} (d : Int) (h : ¬ 0 < x) : maskN x d = 0 := if_neg h
end Go.Proofs.Ytkmcfbopilieeaa

end

/-! YtkmcfbopilieeaaFixMore -/
section

namespace Go.Proofs.Ytkmcfbopilieeaa
set_option linter.unusedVariables false

theorem addN_comm (a b : Int) : addN b a = addN a b ∧ addB b a = addB a b := by unfold addN addB; rw [Int.add_comm]; exact ⟨rfl, rfl⟩
theorem mulN_comm (a b : Int) : mulN b a = mulN a b ∧ mulB b a = mulB a b := by unfold mulN mulB; rw [Int.mul_comm]; exact ⟨rfl, rfl⟩
theorem okB_range {a : Int} (h : okB a = true) : -2147483647 ≤ a ∧ a ≤ 2147483647 := by
  unfold okB inB at h
  simpa using h
theorem sat_ok {a : Int} (h : okB a = true) : sat a = a := (sat_mid (okB_range h).1 (okB_range h).2).1
theorem okB_sat (x : Int) : okB (sat x) = true := okB_yes (sat_range x).1 (sat_range x).2
theorem mul_one_ok {a : Int} (h : okB a = true) : mulN a 65536 = a ∧ mulB a 65536 = false := by
  have h1 : sat 65536 = 65536 := rfl
  have hr := okB_range h
  unfold mulN mulB
  rw [h1, sat_ok h, Int.mul_ediv_cancel _ (by omega)]
  exact sat_mid hr.1 hr.2
theorem mul_zero_ok (a : Int) : mulN a 0 = 0 ∧ mulB a 0 = false := by
  have h1 : sat 0 = 0 := rfl
  unfold mulN mulB
  rw [h1, Int.mul_zero]
  exact ⟨rfl, rfl⟩
theorem sub_back {a b : Int} (ha : okB a = true) (hb : okB b = true) (h : addB a b = false) : subN (addN a b) b = a ∧ subB (addN a b) b = false := by
  have hx : addN a b = a + b := by
    unfold addB at h
    unfold addN
    rw [satB_false h, sat_ok ha, sat_ok hb]
  have hy : sat (addN a b) = addN a b := sat_ok (okB_sat _)
  have hr := okB_range ha
  unfold subN subB
  rw [hy, sat_ok hb, hx, show a + b - b = a by omega]
  exact sat_mid hr.1 hr.2
theorem relu_cases (a : Int) : 0 ≤ reluN a ∧ (reluN a = 0 ∨ reluN a = sat a) := by
  unfold reluN
  split
  · exact ⟨by omega, Or.inr rfl⟩
  · exact ⟨by omega, Or.inl rfl⟩
theorem neg_neg_sat (a : Int) : -sat (-sat a) = sat a := by
  have h := sat_range a
  rw [(sat_mid (x := -sat a) (by omega) (by omega)).1]
  omega
theorem okB_neg_sat (a : Int) : okB (-sat a) = true := by
  have h := sat_range a
  exact okB_yes (by omega) (by omega)
end Go.Proofs.Ytkmcfbopilieeaa

end
