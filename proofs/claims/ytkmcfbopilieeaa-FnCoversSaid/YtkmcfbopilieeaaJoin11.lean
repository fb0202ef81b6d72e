import Derived.Test.YtkmcfbopilieeaaJoin10
import Derived.Deep.QuietTactic
import Derived.BigQuiet
import Derived.Test.YtkmcfbopilieeaaJoin5
/-! YtkmcfbopilieeaaVecS -/
section

namespace Go.Proofs.Ytkmcfbopilieeaa
open Go.RowKit
set_option linter.unusedVariables false

theorem Row.empty (w : World) (o : Obj) (h : o = .cells #[] 3 (0, 0)) : Row w.heap.size (w.alloc o) (.slice (some ⟨w.heap.size, 0, none⟩) 0 0) [] := by
  subst h
  exact ⟨rfl, .inr ⟨_, 0, #[], rfl, Nat.le_refl _, heap_alloc_new w _, Nat.le_refl _, Nat.zero_le _, rfl, rfl⟩⟩
theorem drewN_below {B : Nat} {w w' : World} (h : Below B w w') (m : Nat) : Below B w (w'.drewN m) := h.trans ⟨rfl, rfl, rfl, Nat.le_refl _, fun _ _ => rfl⟩
theorem Row.drewN {base : Nat} {w : World} {v : Value} {zs : List Int} (h : Row base w v zs) (m : Nat) : Row base (w.drewN m) v zs := h.below ⟨rfl, rfl, rfl, Nat.le_refl _, fun _ _ => rfl⟩

end Go.Proofs.Ytkmcfbopilieeaa

end

/-! YtkmcfbopilieeaaMatS -/
section

namespace Go.Proofs.Ytkmcfbopilieeaa
open Go.RowKit
set_option linter.unusedVariables false

theorem prod36 {r c : Int} (hr : inB 1 6 r = true) (hc : inB 1 6 c = true) : 1 ≤ r * c ∧ r * c ≤ 36 := by
  obtain ⟨a0, a1⟩ := inB_has hr
  obtain ⟨b0, b1⟩ := inB_has hc
  have h : r = 1 ∨ r = 2 ∨ r = 3 ∨ r = 4 ∨ r = 5 ∨ r = 6 := by omega
  rcases h with rfl | rfl | rfl | rfl | rfl | rfl <;> omega
theorem matOkB_all {r c : Int} {xs : List Int} (hr : inB 1 6 r = true) (hc : inB 1 6 c = true) (hl : (xs.length : Int) = r * c) : matOkB r c xs = xs.all okB := by
  unfold matOkB
  rw [hr, hc, decide_eq_true hl]
  simp
theorem matOkB_r {r c : Int} {xs : List Int} (hr : inB 1 6 r = false) : matOkB r c xs = false := by unfold matOkB; rw [hr]; rfl
theorem matOkB_c {r c : Int} {xs : List Int} (hc : inB 1 6 c = false) : matOkB r c xs = false := by unfold matOkB; rw [hc, Bool.and_false]; rfl
theorem matOkB_l {r c : Int} {xs : List Int} (hl : ¬ (xs.length : Int) = r * c) : matOkB r c xs = false := by unfold matOkB; rw [decide_eq_false hl, Bool.and_false]; rfl
theorem Row.form2 {base : Nat} {w : World} {v : Value} {n : Nat} {xs : List Int} (h : Row base w v xs) (hl : Hid (xs.length = n)) (hr : n ≤ 1048576) : ∃ a cap, v = .slice a n cap ∧ n ≤ cap ∧ IntsIn w.heap.size w a n xs := by
  obtain ⟨a, c, e, hi⟩ := h.form' hl hr
  subst e
  refine ⟨a, c, rfl, ?_, hi⟩
  have hl := hl.out
  rcases h.2 with ⟨e1, h0⟩ | ⟨g, cap, cur, e1, _, _, hc, _⟩
  · cases e1; omega
  · cases e1; omega

end Go.Proofs.Ytkmcfbopilieeaa

end
