/-
  Numbers with a point: the contracts of the model's arithmetic, and the exact laws.
-/
import Derived.Test.YtgnjcfbfbpjndaaDoorProg
import Derived.Test.YtgnjcfbfbpjndaaDoorSat
import Derived.Test.YtgnjcfbfbpjndaaDoorFix
namespace Go.Proofs.YtgnjcfbfbpjndaaDoor
open Go.RowKit
set_option linter.unusedVariables false

theorem l2Sat_any (x : Int) (w : World) :
    Calls Tryd.prog 21 #[.int .i64 x] w fun e w' => e = .returned (.tuple #[.int .i64 (sat x), .bool (satB x)]) ∧ w = w' := by
  by_cases h1 : 2147483647 < x
  · have HS := Lib.hid (sat_hi h1)
    go_enter Tryd.func21, Tryd.ntmps21
    go_wp2
    go_ret2
    exact ⟨by rw [HS.out.1, HS.out.2] <;> rfl, rfl⟩
  · by_cases h2 : x < -2147483647
    · have HS := Lib.hid (sat_lo h2)
      go_enter Tryd.func21, Tryd.ntmps21
      go_wp2
      go_ret2
      exact ⟨by rw [HS.out.1, HS.out.2] <;> rfl, rfl⟩
    · have HS := Lib.hid (sat_mid (x := x) (by omega) (by omega))
      go_enter Tryd.func21, Tryd.ntmps21
      go_wp2
      go_ret2
      exact ⟨by rw [HS.out.1, HS.out.2] <;> rfl, rfl⟩
theorem l2In_any (x : Int) (w : World) :
    Calls Tryd.prog 22 #[.int .i64 x] w fun e w' => e = .returned (.int .i64 (sat x)) ∧ w = w' := by
  go_enter Tryd.func22, Tryd.ntmps22
  go_wp2_with fail
  refine (l2Sat_any x _).mono ?_
  rintro e w1 ⟨rfl, rfl⟩
  go_wp2_with fail
  go_ret
  exact ⟨rfl, rfl⟩
theorem specFixAdd_any (a b : Int) (w : World) :
    Calls Tryd.prog 13 #[.int .i64 a, .int .i64 b] w fun e w' => e = .returned (.tuple #[.int .i64 (addN a b), .bool (addB a b)]) ∧ w = w' := by
  obtain ⟨a0, a1⟩ := sat_range a
  obtain ⟨b0, b1⟩ := sat_range b
  go_enter Tryd.func13, Tryd.ntmps13
  go_wp2_with fail
  refine (l2In_any a _).mono ?_
  rintro e w1 ⟨rfl, rfl⟩
  go_wp2_with fail
  refine (l2In_any b _).mono ?_
  rintro e w2 ⟨rfl, rfl⟩
  go_wp2_with fail
  refine (l2Sat_any (sat a + sat b) _).mono ?_
  rintro e w3 ⟨rfl, rfl⟩
  go_wp2_with fail
  go_ret2
  exact ⟨rfl, rfl⟩
end Go.Proofs.YtgnjcfbfbpjndaaDoor
