import Derived.Test.YtcooobnaocbdjaaGreatProg
import Derived.Test.YtcooobnaocbdjaaGreatJoin3
import Derived.Outline
/-! YtcooobnaocbdjaaGreatPFix -/
section

namespace Go.Proofs.YtcooobnaocbdjaaGreat
open Go.RowKit
set_option linter.unusedVariables false

theorem inRange_mid (x : Int) (w : World) (h0 : -2147483647 ≤ x) (h1 : x ≤ 2147483647) :
    Calls Tryz.prog 195 #[.int .i64 x] w fun e w' => e = .returned .nilIface ∧ w = w' := by
  go_enter Tryz.func195, Tryz.ntmps195
  go_wp2
  go_ret
  exact ⟨rfl, rfl⟩
theorem inRange_hi (x : Int) (w : World) (h0 : 2147483647 < x) :
    Calls Tryz.prog 195 #[.int .i64 x] w fun e w' => e = .returned (.iface 238 (.agg #[.int .i64 2147483647])) ∧ w = w' := by
  go_enter Tryz.func195, Tryz.ntmps195
  go_wp2
  go_ret
  exact ⟨rfl, rfl⟩
theorem inRange_lo (x : Int) (w : World) (h0 : x < -2147483647) :
    Calls Tryz.prog 195 #[.int .i64 x] w fun e w' => e = .returned (.iface 238 (.agg #[.int .i64 (-2147483647)])) ∧ w = w' := by
  go_enter Tryz.func195, Tryz.ntmps195
  go_wp2
  go_ret
  exact ⟨rfl, rfl⟩

def reluN (a : Int) : Int := if 0 < sat a then sat a else 0
def okB (x : Int) : Bool := inB (-2147483647) 2147483647 x
theorem okB_yes {x : Int} (h0 : -2147483647 ≤ x) (h1 : x ≤ 2147483647) : okB x = true := inB_yes h0 h1
theorem okB_no {x : Int} (h : x < -2147483647 ∨ 2147483647 < x) : okB x = false := inB_no h
theorem implFixOk_any (x : Int) (w : World) :
    Calls Tryz.prog 184 #[.int .i64 x] w fun e w' => e = .returned (.bool (okB x)) ∧ w = w' := by
  by_cases h1 : 2147483647 < x
  · have HS := Lib.hid (okB_no (Or.inr h1))
    go_enter Tryz.func184, Tryz.ntmps184
    go_wp2_with fail
    refine (inRange_hi x _ h1).mono ?_
    rintro e w' ⟨rfl, rfl⟩
    go_wp2_with fail
    go_ret
    exact ⟨by rw [HS.out] <;> rfl, rfl⟩
  · by_cases h2 : x < -2147483647
    · have HS := Lib.hid (okB_no (Or.inl h2))
      go_enter Tryz.func184, Tryz.ntmps184
      go_wp2_with fail
      refine (inRange_lo x _ h2).mono ?_
      rintro e w' ⟨rfl, rfl⟩
      go_wp2_with fail
      go_ret
      exact ⟨by rw [HS.out] <;> rfl, rfl⟩
    · have g1 : -2147483647 ≤ x := by omega
      have g2 : x ≤ 2147483647 := by omega
      have HS := Lib.hid (okB_yes g1 g2)
      clear h1 h2
      go_enter Tryz.func184, Tryz.ntmps184
      go_wp2_with fail
      refine (inRange_mid x _ g1 g2).mono ?_
      rintro e w' ⟨rfl, rfl⟩
      go_wp2_with fail
      go_ret
      exact ⟨by rw [HS.out] <;> rfl, rfl⟩
end Go.Proofs.YtcooobnaocbdjaaGreat

end

/-! YtcooobnaocbdjaaGreatPVecM -/
section

namespace Go.Proofs.YtcooobnaocbdjaaGreat
set_option linter.unusedVariables false

/-- Is it a right row? -/
def vecOkB (xs : List Int) : Bool := decide (1 ≤ xs.length) && decide (xs.length ≤ 6) && xs.all okB
theorem vecOkB_len {xs : List Int} (h : xs.length < 1 ∨ 6 < xs.length) : vecOkB xs = false := by
  unfold vecOkB
  rcases h with h | h
  · rw [decide_eq_false (by omega : ¬ 1 ≤ xs.length)]; simp
  · rw [decide_eq_false (by omega : ¬ xs.length ≤ 6)]; simp
theorem vecOkB_place {xs : List Int} {k : Nat} (hk : k < xs.length) (h : okB (xs.getD k 0) = false) : vecOkB xs = false := by
  have h1 : xs.getD k 0 ∈ xs := by simp [List.getD, hk]
  have h2 : xs.all okB = false := List.all_eq_false.2 ⟨_, h1, by rw [h]; decide⟩
  unfold vecOkB
  rw [h2, Bool.and_false]
theorem vecOkB_yes {xs : List Int} (h0 : 1 ≤ xs.length) (h1 : xs.length ≤ 6) (h : ∀ j, j < xs.length → okB (xs.getD j 0) = true) : vecOkB xs = true := by
  have h2 : xs.all okB = true := by
    refine List.all_eq_true.2 fun x hx => ?_
    obtain ⟨j, hj, rfl⟩ := List.mem_iff_getElem.1 hx
    have := h j hj
    simpa [List.getD, hj] using this
  unfold vecOkB
  rw [h2, decide_eq_true h0, decide_eq_true h1]
  rfl
/-- Are both right, and of one length? -/
def pairB (xs ys : List Int) : Bool := vecOkB xs && vecOkB ys && decide (xs.length = ys.length)
/-- What comes of the first k places. -/
def rowK (f : Int → Int → Int) (xs ys : List Int) : Nat → List Int
  | 0 => []
  | k + 1 => rowK f xs ys k ++ [f (xs.getD k 0) (ys.getD k 0)]
def flagK (g : Int → Int → Bool) (xs ys : List Int) : Nat → Bool
  | 0 => false
  | k + 1 => flagK g xs ys k || g (xs.getD k 0) (ys.getD k 0)
/-- What comes of two rows, place by place. -/
def rowP (f : Int → Int → Int) (xs ys : List Int) : List Int := if pairB xs ys then rowK f xs ys xs.length else []
def flagP (g : Int → Int → Bool) (xs ys : List Int) : Bool := pairB xs ys && flagK g xs ys xs.length
/-- A number to each place. -/
def scaleN (c : Int) (xs : List Int) : List Int := if okB c then rowP (fun x _ => mulN c x) xs xs else []
def scaleB (c : Int) (xs : List Int) : Bool := okB c && flagP (fun x _ => mulB c x) xs xs
/-- A sum through both rows. -/
def sumK (F : Int → Int → Int → Int) (xs ys : List Int) : Nat → Int
  | 0 => 0
  | k + 1 => F (sumK F xs ys k) (xs.getD k 0) (ys.getD k 0)
def sumKB (F : Int → Int → Int → Int) (G : Int → Int → Int → Bool) (xs ys : List Int) : Nat → Bool
  | 0 => false
  | k + 1 => sumKB F G xs ys k || G (sumK F xs ys k) (xs.getD k 0) (ys.getD k 0)
/-- Products, added from the left. -/
def dotF (s x y : Int) : Int := addN s (mulN x y)
def dotG (s x y : Int) : Bool := mulB x y || addB s (mulN x y)
abbrev dotK (xs ys : List Int) (k : Nat) : Int := sumK dotF xs ys k
abbrev dotKB (xs ys : List Int) (k : Nat) : Bool := sumKB dotF dotG xs ys k
def dotN (xs ys : List Int) : Int := if pairB xs ys then dotK xs ys xs.length else 0
def dotB (xs ys : List Int) : Bool := pairB xs ys && dotKB xs ys xs.length
/-- What VecMask lets through. -/
def maskN (x d : Int) : Int := if 0 < x then d else 0
end Go.Proofs.YtcooobnaocbdjaaGreat

end
