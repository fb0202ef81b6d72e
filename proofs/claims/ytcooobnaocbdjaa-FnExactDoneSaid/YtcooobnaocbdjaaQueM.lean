/-
  Queues: what comes of them, as plain functions.
-/
import Derived.Test.YtcooobnaocbdjaaDeepQ
import Derived.Test.YtcooobnaocbdjaaVecOk
namespace Go.Proofs.Ytcooobnaocbdjaa
open Go.RowKit
set_option linter.unusedVariables false

def itemOkB (x : dItem) : Bool := vecOkB x.2 && inB 0 4 x.1
def queueOkB (q : dQueue) : Bool := q.2.all itemOkB && (inB 1 5 q.1 && decide ((q.2.length : Int) ≤ q.1))
theorem queueOk_has {q : dQueue} (h : queueOkB q = true) : (∀ x ∈ q.2, itemOkB x = true) ∧ 1 ≤ q.1 ∧ q.1 ≤ 5 ∧ (q.2.length : Int) ≤ q.1 := by
  unfold queueOkB inB at h
  simp only [Bool.and_eq_true, List.all_eq_true, decide_eq_true_eq] at h
  exact ⟨h.1, h.2.1.1, h.2.1.2, h.2.2⟩
theorem queueOk_at {q : dQueue} {j : Nat} {x : dItem} (hx : q.2[j]? = some x) (h : itemOkB x = false) : queueOkB q = false := by
  unfold queueOkB
  have : q.2.all itemOkB = false := by
    rw [List.all_eq_false]
    exact ⟨x, List.mem_of_getElem? hx, by rw [h]; simp⟩
  rw [this]
  rfl
theorem queueOk_all {q : dQueue} (h : ∀ (j : Nat) (x : dItem), q.2[j]? = some x → itemOkB x = true) : queueOkB q = (inB 1 5 q.1 && decide ((q.2.length : Int) ≤ q.1)) := by
  unfold queueOkB
  have : q.2.all itemOkB = true := by
    rw [List.all_eq_true]
    intro x hx
    obtain ⟨j, hj⟩ := List.mem_iff_getElem?.1 hx
    exact h j x hj
  rw [this]
  rfl
def pushB (q : dQueue) (x : dItem) : Bool := queueOkB q && (decide ((q.2.length : Int) < q.1) && itemOkB x)
def pushN (q : dQueue) (x : dItem) : dQueue := if pushB q x = true then (q.1, q.2 ++ [x]) else q
def popB (q : dQueue) : Bool := queueOkB q && decide (0 < q.2.length)
def popN (q : dQueue) : dQueue := if popB q = true then (q.1, q.2.drop 1) else q
def popX (q : dQueue) : dItem := if popB q = true then q.2.getD 0 (0, []) else (0, [])
/-- The numbers of the first items. -/
def numsTo (l : List dItem) : Nat → Nat
  | 0 => 0
  | k + 1 => numsTo l k + (l.getD k (0, [])).2.length
def queueWordsN (q : dQueue) : Int := if queueOkB q = true then (numsTo q.2 q.2.length : Int) else 0
theorem numsTo_bulk (l : List dItem) : ∀ k, k ≤ l.length → numsTo l k ≤ Shape.sum shItem.bulk l
  | 0, _ => Nat.zero_le _
  | k + 1, h => by
    have : ∀ j, j ≤ l.length → numsTo l j = Shape.sum shItem.bulk (l.take j) := by
      intro j
      induction j with
      | zero => intro _; rfl
      | succ j ih =>
        intro hj
        have hx : l[j]? = some (l.getD j (0, [])) := by
          rw [List.getElem?_eq_getElem (by omega)]
          simp [List.getD, show j < l.length by omega]
        rw [numsTo, ih (by omega), sum_take _ _ _ _ hx, shItem_bulk, bulk_ints]
    rw [this (k + 1) h]
    exact sum_take_le _ _ _
/-- What one item reads as. -/
theorem item_at {I : Nat → Prop} {w : World} {a : Option Addr} {n : Nat} {l : List dItem} (h : ListAt shItem I w a n l) (j : Nat) (hj : j < n) :
    ∃ b o x ax nx cx, l[j]? = some x ∧ a = some ⟨b, o, none⟩ ∧ I b ∧ w.cell? ⟨b, o + j * 2, none⟩ = some (.int .i64 x.1) ∧ w.cell? ⟨b, o + j * 2 + 1, none⟩ = some (.slice ax nx cx) ∧ nx ≤ cx ∧ cx ≤ 9223372036854775807 ∧ ListAt Shape.int I w ax nx x.2 := by
  obtain ⟨x, hx⟩ : ∃ x, l[j]? = some x := ⟨_, List.getElem?_eq_getElem (by rw [h.1]; exact hj)⟩
  obtain ⟨b, o, es, e, hb, hr, hs⟩ := h.2 j x hx
  obtain ⟨ax, nx, cx, rfl, h1, h2, h3⟩ := shItem_reads.1 hs
  refine ⟨b, o, x, ax, nx, cx, hx, e, hb, ?_, ?_, h1, h2, h3⟩
  · have := hr 0 _ rfl
    simpa [shItem_size] using this
  · have := hr 1 _ rfl
    simpa [shItem_size] using this
end Go.Proofs.Ytcooobnaocbdjaa
