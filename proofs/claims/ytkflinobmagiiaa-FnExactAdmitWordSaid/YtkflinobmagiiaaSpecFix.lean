/-
  Numbers with a point: the contracts of the model's arithmetic, and the exact laws.
-/
import Derived.Test.YtkflinobmagiiaaProg
import Derived.Test.YtkflinobmagiiaaSat
import Derived.Test.YtkflinobmagiiaaFix
namespace Go.Proofs.Ytkflinobmagiiaa
open Go.RowKit
set_option linter.unusedVariables false

theorem l1In_any (x lo hi : Int) (w : World) :
    Calls Try.prog 41 #[.int .i64 x, .int .i64 lo, .int .i64 hi] w fun e w' => e = .returned (.bool (inB lo hi x)) ∧ w = w' := by
  by_cases h1 : x < lo
  · have HD := Lib.hid (inB_no (hi := hi) (Or.inl h1))
    go_enter Try.func41, Try.ntmps41
    go_wp2
    go_ret
    exact ⟨by rw [HD.out] <;> rfl, rfl⟩
  · by_cases h2 : hi < x
    · have HD := Lib.hid (inB_no (lo := lo) (Or.inr h2))
      have h3 : decide (x ≤ hi) = false := by simpa using h2
      go_enter Try.func41, Try.ntmps41
      go_wp2
      go_ret
      exact ⟨by rw [HD.out] <;> rfl, rfl⟩
    · have h3 : lo ≤ x := by omega
      have h4 : x ≤ hi := by omega
      have HD := Lib.hid (inB_yes h3 h4)
      clear h1 h2
      go_enter Try.func41, Try.ntmps41
      go_wp2
      go_ret
      exact ⟨by rw [HD.out] <;> rfl, rfl⟩
theorem specFixOk_any (x : Int) (w : World) :
    Calls Try.prog 97 #[.int .i64 x] w fun e w' => e = .returned (.bool (okB x)) ∧ w = w' := by
  go_enter Try.func97, Try.ntmps97
  go_wp2_with fail
  refine (l1In_any x (-2147483647) 2147483647 _).mono ?_
  rintro e w1 ⟨rfl, rfl⟩
  go_wp2_with fail
  go_ret
  exact ⟨rfl, rfl⟩
end Go.Proofs.Ytkflinobmagiiaa
