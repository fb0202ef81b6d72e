/-
  The model's functions on operations.
-/
import Derived.Test.YtcooobnaocbdjaaOpM
import Derived.Test.YtcooobnaocbdjaaOpH
import Derived.Test.YtcooobnaocbdjaaMatT
import Derived.Test.YtcooobnaocbdjaaMatV
import Derived.Deep.DeepCutAuto
import Derived.Deep.RegionLaw
import Derived.Lib.QuietBelow
namespace Go.Proofs.Ytcooobnaocbdjaa
open Go.RowKit Go.Sort
set_option linter.unusedVariables false

theorem fwN_length (k i o : Int) (ps xs : List Int) : (fwN k i o ps xs).length ≤ 6 := by
  cases h : fwOk k i o ps xs with
  | false => rw [(fw_no h).1]; decide
  | true => exact (vecOkB_has (fw_size h).2).2.1

/-- What a kind's size is, once In and Out are right. -/
theorem opSz_no {k i o : Int} (h : inB 1 6 i = false ∨ inB 1 6 o = false) : opSz k i o = 0 := by
  unfold opSz
  rcases h with h | h <;> rw [h] <;> simp
theorem opSz_yes {k i o : Int} (hi : inB 1 6 i = true) (ho : inB 1 6 o = true) : opSz k i o = (if k = 1 ∨ k = 5 then i * o else if k = 2 then i else if k = 4 then 1 else 0) := by
  unfold opSz
  rw [hi, ho]
  rfl
theorem opOk_k {k i o : Int} {ps : List Int} (h : inB 1 5 k = false) : opOkB k i o ps = false := by unfold opOkB; rw [h]; simp
theorem opOk_i {k i o : Int} {ps : List Int} (h : inB 1 6 i = false) : opOkB k i o ps = false := by unfold opOkB; rw [h]; simp
theorem opOk_o {k i o : Int} {ps : List Int} (h : inB 1 6 o = false) : opOkB k i o ps = false := by unfold opOkB; rw [h]; simp
theorem opOk_d {k i o : Int} {ps : List Int} (h1 : ¬ k = 1) (h2 : ¬ i = o) : opOkB k i o ps = false := by unfold opOkB; rw [decide_eq_false h1, decide_eq_false h2]; simp
theorem opOk_l {k i o : Int} {ps : List Int} (h : ¬ (ps.length : Int) = opSz k i o) : opOkB k i o ps = false := by unfold opOkB; rw [decide_eq_false h]; simp
theorem opOk_all {k i o : Int} {ps : List Int} (h1 : inB 1 5 k = true) (h2 : inB 1 6 i = true) (h3 : inB 1 6 o = true) (h4 : k = 1 ∨ i = o) (h5 : (ps.length : Int) = opSz k i o) : opOkB k i o ps = ps.all okB := by
  unfold opOkB
  rw [h1, h2, h3, decide_eq_true h5]
  rcases h4 with h | h <;> simp [h]

set_option maxRecDepth 100000 in
theorem specSameOp_any (w : World) (k i o : Int) (a1 : Option Addr) (n1 c1 : Nat) (xs : List Int) (k' i' o' : Int) (a2 : Option Addr) (n2 c2 : Nat) (ys : List Int) (h1 : IntsIn w.heap.size w a1 n1 xs) (h2 : IntsIn w.heap.size w a2 n2 ys) :
    Calls Try.prog 75 #[.agg #[.int .i64 k, .int .i64 i, .int .i64 o, .slice a1 n1 c1], .agg #[.int .i64 k', .int .i64 i', .int .i64 o', .slice a2 n2 c2]] w fun e w' => e = .returned (.bool (sameOpB k i o xs k' i' o' ys)) ∧ Below w.heap.size w w' := by
  have hal : Below w.heap.size w ((w.alloc (.cells #[.int .i64 k, .int .i64 i, .int .i64 o, .slice a1 n1 c1] 120 (0, 0))).alloc (.cells #[.int .i64 k', .int .i64 i', .int .i64 o', .slice a2 n2 c2] 120 (0, 0))) := ((Below.refl _ _).alloc (Nat.le_refl _) _).alloc (by simp) _
  have HS := Lib.hid (specSameVec_any _ a1 n1 c1 xs a2 n2 c2 ys ((h1.below hal (Nat.le_refl _)).le hal.size) ((h2.below hal (Nat.le_refl _)).le hal.size))
  have HA := Lib.hid hal
  clear h1 h2 hal
  unfold sameOpB
  by_cases hk : k = k'
  · subst hk
    by_cases hi : i = i'
    · subst hi
      by_cases ho : o = o'
      · subst ho
        rw [decide_eq_true rfl, decide_eq_true rfl, decide_eq_true rfl]
        go_enter Try.func75, Try.ntmps75
        go_wp2_with fail
        refine HS.out.mono ?_
        rintro e w1 ⟨rfl, hb⟩
        have HB := Lib.hid (HA.out.trans (hb.mono HA.out.size))
        clear hb
        go_wp2_with fail
        go_ret
        exact ⟨by simp, HB.out⟩
      · rw [decide_eq_true rfl, decide_eq_true rfl, decide_eq_false ho]
        have hne : (o == o') = false := by simpa using ho
        go_enter Try.func75, Try.ntmps75
        go_wp2_with fail
        go_ret
        exact ⟨by simp, HA.out⟩
    · rw [decide_eq_true rfl, decide_eq_false hi]
      have hne : (i == i') = false := by simpa using hi
      go_enter Try.func75, Try.ntmps75
      go_wp2_with fail
      go_ret
      exact ⟨by simp, HA.out⟩
  · rw [decide_eq_false hk]
    have hne : (k == k') = false := by simpa using hk
    go_enter Try.func75, Try.ntmps75
    go_wp2_with fail
    go_ret
    exact ⟨by simp, HA.out⟩
end Go.Proofs.Ytcooobnaocbdjaa
