/-
  Numbers with a point: the contracts of the model's arithmetic, and the exact laws.
-/
import Derived.Test.YtcooobnaocbdjaaProg
import Derived.Test.YtcooobnaocbdjaaSat
import Derived.Test.YtcooobnaocbdjaaFix
namespace Go.Proofs.Ytcooobnaocbdjaa
open Go.RowKit
set_option linter.unusedVariables false

theorem l1In_any (x lo hi : Int) (w : World) :
    Calls Try.prog 29 #[.int .i64 x, .int .i64 lo, .int .i64 hi] w fun e w' => e = .returned (.bool (inB lo hi x)) ∧ w = w' := by
  by_cases h1 : x < lo
  · have HD := Lib.hid (inB_no (hi := hi) (Or.inl h1))
    go_enter Try.func29, Try.ntmps29
    go_wp2
    go_ret
    exact ⟨by rw [HD.out] <;> rfl, rfl⟩
  · by_cases h2 : hi < x
    · have HD := Lib.hid (inB_no (lo := lo) (Or.inr h2))
      have h3 : decide (x ≤ hi) = false := by simpa using h2
      go_enter Try.func29, Try.ntmps29
      go_wp2
      go_ret
      exact ⟨by rw [HD.out] <;> rfl, rfl⟩
    · have h3 : lo ≤ x := by omega
      have h4 : x ≤ hi := by omega
      have HD := Lib.hid (inB_yes h3 h4)
      clear h1 h2
      go_enter Try.func29, Try.ntmps29
      go_wp2
      go_ret
      exact ⟨by rw [HD.out] <;> rfl, rfl⟩
end Go.Proofs.Ytcooobnaocbdjaa
