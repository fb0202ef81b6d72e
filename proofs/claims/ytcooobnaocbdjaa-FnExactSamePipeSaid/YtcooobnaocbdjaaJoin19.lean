import Derived.Test.YtcooobnaocbdjaaJoin17
import Derived.Test.YtcooobnaocbdjaaJoin13
import Derived.Test.YtcooobnaocbdjaaJoin14
import Derived.Test.YtcooobnaocbdjaaJoin18
import Derived.Deep.DeepCutAuto
import Derived.Deep.RegionLaw
import Derived.Lib.QuietBelow
/-! YtcooobnaocbdjaaPMatV -/
section

namespace Go.Proofs.Ytcooobnaocbdjaa
open Go.RowKit
set_option linter.unusedVariables false

end Go.Proofs.Ytcooobnaocbdjaa

end

/-! YtcooobnaocbdjaaPOpS -/
section

namespace Go.Proofs.Ytcooobnaocbdjaa
open Go.RowKit Go.Sort
set_option linter.unusedVariables false

set_option maxRecDepth 100000 in
theorem specSameOp_any (w : World) (k i o : Int) (a1 : Option Addr) (n1 c1 : Nat) (xs : List Int) (k' i' o' : Int) (a2 : Option Addr) (n2 c2 : Nat) (ys : List Int) (h1 : IntsIn w.heap.size w a1 n1 xs) (h2 : IntsIn w.heap.size w a2 n2 ys) :
    Calls Try.prog 75 #[.agg #[.int .i64 k, .int .i64 i, .int .i64 o, .slice a1 n1 c1], .agg #[.int .i64 k', .int .i64 i', .int .i64 o', .slice a2 n2 c2]] w fun e w' => e = .returned (.bool (sameOpB k i o xs k' i' o' ys)) ∧ Below w.heap.size w w' := by
  have hal : Below w.heap.size w ((w.alloc (.cells #[.int .i64 k, .int .i64 i, .int .i64 o, .slice a1 n1 c1] 120 (0, 0))).alloc (.cells #[.int .i64 k', .int .i64 i', .int .i64 o', .slice a2 n2 c2] 120 (0, 0))) := ((Below.refl _ _).alloc (Nat.le_refl _) _).alloc (by simp) _
  have HS := Lib.hid (specSameVec_any _ a1 n1 c1 xs a2 n2 c2 ys ((h1.below hal (Nat.le_refl _)).le hal.size) ((h2.below hal (Nat.le_refl _)).le hal.size))
  have HA := Lib.hid hal
  clear h1 h2 hal
  unfold sameOpB
  by_cases hk : k = k'
  · subst hk
    by_cases hi : i = i'
    · subst hi
      by_cases ho : o = o'
      · subst ho
        rw [decide_eq_true rfl, decide_eq_true rfl, decide_eq_true rfl]
        go_enter Try.func75, Try.ntmps75
        go_wp2_with fail
        refine HS.out.mono ?_
        rintro e w1 ⟨rfl, hb⟩
        have HB := Lib.hid (HA.out.trans (hb.mono HA.out.size))
        clear hb
        go_wp2_with fail
        go_ret
        exact ⟨by simp, HB.out⟩
      · rw [decide_eq_true rfl, decide_eq_true rfl, decide_eq_false ho]
        have hne : (o == o') = false := by simpa using ho
        go_enter Try.func75, Try.ntmps75
        go_wp2_with fail
        go_ret
        exact ⟨by simp, HA.out⟩
    · rw [decide_eq_true rfl, decide_eq_false hi]
      have hne : (i == i') = false := by simpa using hi
      go_enter Try.func75, Try.ntmps75
      go_wp2_with fail
      go_ret
      exact ⟨by simp, HA.out⟩
  · rw [decide_eq_false hk]
    have hne : (k == k') = false := by simpa using hk
    go_enter Try.func75, Try.ntmps75
    go_wp2_with fail
    go_ret
    exact ⟨by simp, HA.out⟩
end Go.Proofs.Ytcooobnaocbdjaa

end
