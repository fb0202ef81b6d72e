import Derived.Test.YtkmcfbopilieeaaJoin9
import Derived.Test.YtkmcfbopilieeaaJoin14
import Derived.Test.YtkmcfbopilieeaaJoin12
/-! YtkmcfbopilieeaaMat -/
section

namespace Go.Proofs.Ytkmcfbopilieeaa
open Go.RowKit
set_option linter.unusedVariables false

theorem szIntS_ok (w : World) (a : Option Addr) (n c : Nat) (L : Int) (h0 : (n : Int) ≤ L) (h1 : L ≤ 1048576) :
    Calls Try.prog 83 #[.slice a n c, .int .i64 L] w fun e w' => e = .returned (.int .i64 (L - n)) ∧ w = w' := by
  have hd : decide (L - (n : Int) < 0) = false := decide_eq_false (by omega)
  go_enter Try.func83, Try.ntmps83
  go_wp2_with fail
  go_ret
  exact ⟨rfl, rfl⟩
theorem szIntS_big (w : World) (a : Option Addr) (n c : Nat) (L : Int) (h0 : L < (n : Int)) (hl : 0 ≤ L) (h1 : L ≤ 1048576) (hn : n ≤ 9223372036854775807) :
    Calls Try.prog 83 #[.slice a n c, .int .i64 L] w fun e w' => e = .returned (.int .i64 (-1)) ∧ w = w' := by
  have hd : decide (L - (n : Int) < 0) = true := decide_eq_true (by omega)
  go_enter Try.func83, Try.ntmps83
  go_wp2_with fail
  go_ret
  exact ⟨rfl, rfl⟩
theorem store3 {w : World} {g : Nat} {x y z : Value} {T : TypeId} (h : w.heap[g]? = some (.cells #[x, y, z] T (0, 0))) (a b c : Value) :
    (((w.setCell ⟨g, 0, none⟩ a).setCell ⟨g, 1, none⟩ b).setCell ⟨g, 2, none⟩ c).heap[g]? = some (.cells #[a, b, c] T (0, 0)) := by
  have h1 := heap_setCell_same w g 0 _ T a h
  have h2 := heap_setCell_same _ g 1 _ T b h1
  have h3 := heap_setCell_same _ g 2 _ T c h2
  exact h3
theorem Row.setBelow {base : Nat} {w : World} {v : Value} {zs : List Int} (h : Row base w v zs) {a : Addr} (ha : a.block < base) (u : Value) : Row base (w.setCell a u) v zs := ownsRow_setCell_below h ha u
theorem cells3 {w : World} {g : Nat} {x y z : Value} {T : TypeId} (h : w.heap[g]? = some (.cells #[x, y, z] T (0, 0))) :
    (w.cell? ⟨g, 0, none⟩ = some x ∧ w.cell? ⟨g, 1, none⟩ = some y ∧ w.cell? ⟨g, 2, none⟩ = some z) ∧ w.frozen? ⟨g, 0, none⟩ = false ∧ w.frozen? ⟨g, 1, none⟩ = false ∧ w.frozen? ⟨g, 2, none⟩ = false :=
  ⟨⟨by rw [cell_of_row _ _ _ _ _ _ h]; rfl, by rw [cell_of_row _ _ _ _ _ _ h]; rfl, by rw [cell_of_row _ _ _ _ _ _ h]; rfl⟩, frozen_of_row w g 0 _ _ h, frozen_of_row w g 1 _ _ h, frozen_of_row w g 2 _ _ h⟩

end Go.Proofs.Ytkmcfbopilieeaa

end

/-! YtkmcfbopilieeaaMatS -/
section

namespace Go.Proofs.Ytkmcfbopilieeaa
open Go.RowKit
set_option linter.unusedVariables false

theorem prod36 {r c : Int} (hr : inB 1 6 r = true) (hc : inB 1 6 c = true) : 1 ≤ r * c ∧ r * c ≤ 36 := by
  obtain ⟨a0, a1⟩ := inB_has hr
  obtain ⟨b0, b1⟩ := inB_has hc
  have h : r = 1 ∨ r = 2 ∨ r = 3 ∨ r = 4 ∨ r = 5 ∨ r = 6 := by omega
  rcases h with rfl | rfl | rfl | rfl | rfl | rfl <;> omega
theorem matOkB_all {r c : Int} {xs : List Int} (hr : inB 1 6 r = true) (hc : inB 1 6 c = true) (hl : (xs.length : Int) = r * c) : matOkB r c xs = xs.all okB := by
  unfold matOkB
  rw [hr, hc, decide_eq_true hl]
  simp
theorem matOkB_r {r c : Int} {xs : List Int} (hr : inB 1 6 r = false) : matOkB r c xs = false := by unfold matOkB; rw [hr]; rfl
theorem matOkB_c {r c : Int} {xs : List Int} (hc : inB 1 6 c = false) : matOkB r c xs = false := by unfold matOkB; rw [hc, Bool.and_false]; rfl
theorem matOkB_l {r c : Int} {xs : List Int} (hl : ¬ (xs.length : Int) = r * c) : matOkB r c xs = false := by unfold matOkB; rw [decide_eq_false hl, Bool.and_false]; rfl
theorem Row.form2 {base : Nat} {w : World} {v : Value} {n : Nat} {xs : List Int} (h : Row base w v xs) (hl : Hid (xs.length = n)) (hr : n ≤ 1048576) : ∃ a cap, v = .slice a n cap ∧ n ≤ cap ∧ IntsIn w.heap.size w a n xs := by
  obtain ⟨a, c, e, hi⟩ := h.form' hl hr
  subst e
  refine ⟨a, c, rfl, ?_, hi⟩
  have hl := hl.out
  rcases h.2 with ⟨e1, h0⟩ | ⟨g, cap, cur, e1, _, _, hc, _⟩
  · cases e1; omega
  · cases e1; omega

end Go.Proofs.Ytkmcfbopilieeaa

end
