/-
  Numbers with a point: the contracts of the arithmetic, both sides.
-/
import Derived.Test.YtkflinobmagiiaaProg
import Derived.Test.YtkflinobmagiiaaSat
import Derived.Test.YtkflinobmagiiaaAs
import Derived.Outline
namespace Go.Proofs.Ytkflinobmagiiaa
open Go.RowKit
set_option linter.unusedVariables false

theorem fix_ret {a b : Int} (h : a = b) : Ending.returned (.int .i64 a) = .returned (.int .i64 b) := by rw [h]
theorem inRange_mid (x : Int) (w : World) (h0 : -2147483647 ≤ x) (h1 : x ≤ 2147483647) :
    Calls Try.prog 111 #[.int .i64 x] w fun e w' => e = .returned .nilIface ∧ w = w' := by
  go_enter Try.func111, Try.ntmps111
  go_wp2
  go_ret
  exact ⟨rfl, rfl⟩
theorem inRange_hi (x : Int) (w : World) (h0 : 2147483647 < x) :
    Calls Try.prog 111 #[.int .i64 x] w fun e w' => e = .returned (.iface 145 (.agg #[.int .i64 2147483647])) ∧ w = w' := by
  go_enter Try.func111, Try.ntmps111
  go_wp2
  go_ret
  exact ⟨rfl, rfl⟩
theorem inRange_lo (x : Int) (w : World) (h0 : x < -2147483647) :
    Calls Try.prog 111 #[.int .i64 x] w fun e w' => e = .returned (.iface 145 (.agg #[.int .i64 (-2147483647)])) ∧ w = w' := by
  go_enter Try.func111, Try.ntmps111
  go_wp2
  go_ret
  exact ⟨rfl, rfl⟩

def reluN (a : Int) : Int := if 0 < sat a then sat a else 0
def okB (x : Int) : Bool := inB (-2147483647) 2147483647 x
theorem okB_yes {x : Int} (h0 : -2147483647 ≤ x) (h1 : x ≤ 2147483647) : okB x = true := inB_yes h0 h1
theorem okB_no {x : Int} (h : x < -2147483647 ∨ 2147483647 < x) : okB x = false := inB_no h
theorem implFixOk_any (x : Int) (w : World) :
    Calls Try.prog 110 #[.int .i64 x] w fun e w' => e = .returned (.bool (okB x)) ∧ w = w' := by
  by_cases h1 : 2147483647 < x
  · have HS := Lib.hid (okB_no (Or.inr h1))
    go_enter Try.func110, Try.ntmps110
    go_wp2_with fail
    refine (inRange_hi x _ h1).mono ?_
    rintro e w' ⟨rfl, rfl⟩
    go_wp2_with fail
    go_ret
    exact ⟨by rw [HS.out] <;> rfl, rfl⟩
  · by_cases h2 : x < -2147483647
    · have HS := Lib.hid (okB_no (Or.inl h2))
      go_enter Try.func110, Try.ntmps110
      go_wp2_with fail
      refine (inRange_lo x _ h2).mono ?_
      rintro e w' ⟨rfl, rfl⟩
      go_wp2_with fail
      go_ret
      exact ⟨by rw [HS.out] <;> rfl, rfl⟩
    · have g1 : -2147483647 ≤ x := by omega
      have g2 : x ≤ 2147483647 := by omega
      have HS := Lib.hid (okB_yes g1 g2)
      clear h1 h2
      go_enter Try.func110, Try.ntmps110
      go_wp2_with fail
      refine (inRange_mid x _ g1 g2).mono ?_
      rintro e w' ⟨rfl, rfl⟩
      go_wp2_with fail
      go_ret
      exact ⟨by rw [HS.out] <;> rfl, rfl⟩
end Go.Proofs.Ytkflinobmagiiaa
