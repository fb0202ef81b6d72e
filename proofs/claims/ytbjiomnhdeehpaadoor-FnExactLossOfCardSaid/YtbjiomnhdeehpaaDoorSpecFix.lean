/-
  Numbers with a point: the contracts of the model's arithmetic, and the exact laws.
-/
import Derived.Test.YtbjiomnhdeehpaaDoorProg
import Derived.Test.YtbjiomnhdeehpaaDoorSat
import Derived.Test.YtbjiomnhdeehpaaDoorFix
namespace Go.Proofs.YtbjiomnhdeehpaaDoor
open Go.RowKit
set_option linter.unusedVariables false

theorem l1In_any (x lo hi : Int) (w : World) :
    Calls Tryd.prog 49 #[.int .i64 x, .int .i64 lo, .int .i64 hi] w fun e w' => e = .returned (.bool (inB lo hi x)) ∧ w = w' := by
  by_cases h1 : x < lo
  · have HD := Lib.hid (inB_no (hi := hi) (Or.inl h1))
    go_enter Tryd.func49, Tryd.ntmps49
    go_wp2
    go_ret
    exact ⟨by rw [HD.out] <;> rfl, rfl⟩
  · by_cases h2 : hi < x
    · have HD := Lib.hid (inB_no (lo := lo) (Or.inr h2))
      have h3 : decide (x ≤ hi) = false := by simpa using h2
      go_enter Tryd.func49, Tryd.ntmps49
      go_wp2
      go_ret
      exact ⟨by rw [HD.out] <;> rfl, rfl⟩
    · have h3 : lo ≤ x := by omega
      have h4 : x ≤ hi := by omega
      have HD := Lib.hid (inB_yes h3 h4)
      clear h1 h2
      go_enter Tryd.func49, Tryd.ntmps49
      go_wp2
      go_ret
      exact ⟨by rw [HD.out] <;> rfl, rfl⟩
theorem specFixOk_any (x : Int) (w : World) :
    Calls Tryd.prog 48 #[.int .i64 x] w fun e w' => e = .returned (.bool (okB x)) ∧ w = w' := by
  go_enter Tryd.func48, Tryd.ntmps48
  go_wp2_with fail
  refine (l1In_any x (-2147483647) 2147483647 _).mono ?_
  rintro e w1 ⟨rfl, rfl⟩
  go_wp2_with fail
  go_ret
  exact ⟨rfl, rfl⟩
theorem l2Sat_any (x : Int) (w : World) :
    Calls Tryd.prog 40 #[.int .i64 x] w fun e w' => e = .returned (.tuple #[.int .i64 (sat x), .bool (satB x)]) ∧ w = w' := by
  by_cases h1 : 2147483647 < x
  · have HS := Lib.hid (sat_hi h1)
    go_enter Tryd.func40, Tryd.ntmps40
    go_wp2
    go_ret2
    exact ⟨by rw [HS.out.1, HS.out.2] <;> rfl, rfl⟩
  · by_cases h2 : x < -2147483647
    · have HS := Lib.hid (sat_lo h2)
      go_enter Tryd.func40, Tryd.ntmps40
      go_wp2
      go_ret2
      exact ⟨by rw [HS.out.1, HS.out.2] <;> rfl, rfl⟩
    · have HS := Lib.hid (sat_mid (x := x) (by omega) (by omega))
      go_enter Tryd.func40, Tryd.ntmps40
      go_wp2
      go_ret2
      exact ⟨by rw [HS.out.1, HS.out.2] <;> rfl, rfl⟩
theorem l2In_any (x : Int) (w : World) :
    Calls Tryd.prog 41 #[.int .i64 x] w fun e w' => e = .returned (.int .i64 (sat x)) ∧ w = w' := by
  go_enter Tryd.func41, Tryd.ntmps41
  go_wp2_with fail
  refine (l2Sat_any x _).mono ?_
  rintro e w1 ⟨rfl, rfl⟩
  go_wp2_with fail
  go_ret
  exact ⟨rfl, rfl⟩
theorem l2Floor_any (x : Int) (w : World) (h0 : -4611686014132420609 ≤ x) (h1 : x ≤ 4611686014132420609) :
    Calls Tryd.prog 42 #[.int .i64 x, .int .i64 65536] w fun e w' => e = .returned (.int .i64 (x / 65536)) ∧ w = w' := by
  by_cases h : 0 ≤ x
  · have hlt : decide (x < 0) = false := by simp; omega
    go_enter Tryd.func42, Tryd.ntmps42
    go_wp2
    all_goals (go_ret; exact ⟨rfl, rfl⟩)
  · have hx : x < 0 := by omega
    have hlt : decide (x < 0) = true := by simp; omega
    by_cases hm : x.tmod 65536 = 0
    · have HF := Lib.hid (floor_eq hx hm)
      have hb : (x.tmod 65536 != 0) = false := by rw [hm]; rfl
      clear hm h
      go_enter Tryd.func42, Tryd.ntmps42
      go_wp2
      all_goals (go_ret; exact ⟨fix_ret HF.out, rfl⟩)
    · have HF := Lib.hid (floor_ne hx hm)
      have hb : (x.tmod 65536 != 0) = true := by rw [bne_iff_ne]; exact hm
      have q0 : -70368744177665 ≤ x.tdiv 65536 := by rw [tdiv_lo hx]; omega
      have q1 : x.tdiv 65536 ≤ 0 := by rw [tdiv_lo hx]; omega
      clear hm h
      go_enter Tryd.func42, Tryd.ntmps42
      go_wp2
      all_goals (go_ret; exact ⟨fix_ret HF.out, rfl⟩)
theorem specFixAdd_any (a b : Int) (w : World) :
    Calls Tryd.prog 29 #[.int .i64 a, .int .i64 b] w fun e w' => e = .returned (.tuple #[.int .i64 (addN a b), .bool (addB a b)]) ∧ w = w' := by
  obtain ⟨a0, a1⟩ := sat_range a
  obtain ⟨b0, b1⟩ := sat_range b
  go_enter Tryd.func29, Tryd.ntmps29
  go_wp2_with fail
  refine (l2In_any a _).mono ?_
  rintro e w1 ⟨rfl, rfl⟩
  go_wp2_with fail
  refine (l2In_any b _).mono ?_
  rintro e w2 ⟨rfl, rfl⟩
  go_wp2_with fail
  refine (l2Sat_any (sat a + sat b) _).mono ?_
  rintro e w3 ⟨rfl, rfl⟩
  go_wp2_with fail
  go_ret2
  exact ⟨rfl, rfl⟩
theorem specFixSub_any (a b : Int) (w : World) :
    Calls Tryd.prog 27 #[.int .i64 a, .int .i64 b] w fun e w' => e = .returned (.tuple #[.int .i64 (subN a b), .bool (subB a b)]) ∧ w = w' := by
  obtain ⟨a0, a1⟩ := sat_range a
  obtain ⟨b0, b1⟩ := sat_range b
  go_enter Tryd.func27, Tryd.ntmps27
  go_wp2_with fail
  refine (l2In_any a _).mono ?_
  rintro e w1 ⟨rfl, rfl⟩
  go_wp2_with fail
  refine (l2In_any b _).mono ?_
  rintro e w2 ⟨rfl, rfl⟩
  go_wp2_with fail
  refine (l2Sat_any (sat a - sat b) _).mono ?_
  rintro e w3 ⟨rfl, rfl⟩
  go_wp2_with fail
  go_ret2
  exact ⟨rfl, rfl⟩
theorem specFixMul_any (a b : Int) (w : World) :
    Calls Tryd.prog 28 #[.int .i64 a, .int .i64 b] w fun e w' => e = .returned (.tuple #[.int .i64 (mulN a b), .bool (mulB a b)]) ∧ w = w' := by
  obtain ⟨a0, a1⟩ := sat_range a
  obtain ⟨b0, b1⟩ := sat_range b
  obtain ⟨m0, m1⟩ := mul_range a0 a1 b0 b1
  go_enter Tryd.func28, Tryd.ntmps28
  go_wp2_with fail
  refine (l2In_any a _).mono ?_
  rintro e w1 ⟨rfl, rfl⟩
  go_wp2_with fail
  refine (l2In_any b _).mono ?_
  rintro e w2 ⟨rfl, rfl⟩
  go_wp2_with fail
  refine (l2Floor_any (sat a * sat b) _ m0 m1).mono ?_
  rintro e w4 ⟨rfl, rfl⟩
  go_wp2_with fail
  refine (l2Sat_any (sat a * sat b / 65536) _).mono ?_
  rintro e w3 ⟨rfl, rfl⟩
  go_wp2_with fail
  go_ret2
  exact ⟨rfl, rfl⟩
end Go.Proofs.YtbjiomnhdeehpaaDoor
