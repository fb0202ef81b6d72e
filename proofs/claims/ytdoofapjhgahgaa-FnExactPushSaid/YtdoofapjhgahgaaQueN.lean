/-
  Queues: how large what comes of them is.
-/
import Derived.Test.YtdoofapjhgahgaaQueM
namespace Go.Proofs.Ytdoofapjhgahgaa
open Go.RowKit
set_option linter.unusedVariables false

theorem queue_bulk (q : dQueue) : shQueue.bulk q = q.2.length + Shape.sum shItem.bulk q.2 := by rw [shQueue_bulk]; rfl
theorem sum_drop_le {α : Type} (f : α → Nat) (xs : List α) : Shape.sum f (xs.drop 1) ≤ Shape.sum f xs := by
  cases xs with
  | nil => exact Nat.le_refl _
  | cons x xs => exact Nat.le_add_left _ _
theorem sum_drop_any {α : Type} (f : α → Nat) : ∀ (k : Nat) (xs : List α), Shape.sum f (xs.drop k) ≤ Shape.sum f xs
  | 0, _ => Nat.le_refl _
  | k + 1, xs => by
    have e : xs.drop (k + 1) = (xs.drop k).drop 1 := by rw [List.drop_drop]
    rw [e]
    exact Nat.le_trans (sum_drop_le f _) (sum_drop_any f k xs)
theorem drop_bulk (c : Int) (l : List dItem) (k : Nat) : shQueue.bulk (c, l.drop k) ≤ shQueue.bulk (c, l) := by
  rw [queue_bulk, queue_bulk]
  have := sum_drop_any shItem.bulk k l
  show (l.drop k).length + Shape.sum shItem.bulk (l.drop k) ≤ l.length + Shape.sum shItem.bulk l
  rw [List.length_drop]
  omega
theorem pop_bulk (q : dQueue) (h : shQueue.bulk q ≤ 1048576) : shQueue.bulk (popN q) ≤ 1048576 := by
  rw [queue_bulk] at h ⊢
  unfold popN
  split
  · have := sum_drop_le shItem.bulk q.2
    show (q.2.drop 1).length + Shape.sum shItem.bulk (q.2.drop 1) ≤ _
    rw [List.length_drop]
    omega
  · exact h
theorem popX_bulk (q : dQueue) (h : shQueue.bulk q ≤ 1048576) : shItem.bulk (popX q) ≤ 1048576 := by
  rw [queue_bulk] at h
  unfold popX
  split
  · cases e : q.2 with
    | nil => simp [shItem_bulk, bulk_ints]
    | cons x xs =>
      rw [e] at h
      have : Shape.sum shItem.bulk (x :: xs) = shItem.bulk x + Shape.sum shItem.bulk xs := rfl
      show shItem.bulk x ≤ _
      omega
  · simp [shItem_bulk, bulk_ints]
theorem item_small {x : dItem} (h : itemOkB x = true) : shItem.bulk x ≤ 6 := by
  unfold itemOkB vecOkB at h
  rw [shItem_bulk, bulk_ints]
  simp only [Bool.and_eq_true, decide_eq_true_eq] at h
  exact h.1.1.2
theorem sum_each {α : Type} (f : α → Nat) (c : Nat) : ∀ xs : List α, (∀ x ∈ xs, f x ≤ c) → Shape.sum f xs ≤ c * xs.length
  | [], _ => Nat.zero_le _
  | x :: xs, h => by
    have h1 := h x (List.mem_cons_self)
    have h2 := sum_each f c xs fun y hy => h y (List.mem_cons_of_mem _ hy)
    have e : Shape.sum f (x :: xs) = f x + Shape.sum f xs := rfl
    rw [e, List.length_cons, Nat.mul_succ]
    omega
theorem push_bulk (q : dQueue) (x : dItem) (h : shQueue.bulk q ≤ 1048576) : shQueue.bulk (pushN q x) ≤ 1048576 := by
  unfold pushN
  split
  · rename_i hp
    unfold pushB at hp
    simp only [Bool.and_eq_true, decide_eq_true_eq] at hp
    obtain ⟨hq, -, hx⟩ := hp
    obtain ⟨h1, -, h2, h3⟩ := queueOk_has hq
    rw [queue_bulk]
    show (q.2 ++ [x]).length + Shape.sum shItem.bulk (q.2 ++ [x]) ≤ _
    have h4 := sum_each shItem.bulk 6 (q.2 ++ [x]) fun y hy => by
      rcases List.mem_append.1 hy with hy | hy
      · exact item_small (h1 y hy)
      · rw [List.mem_singleton.1 hy]
        exact item_small hx
    rw [List.length_append, List.length_singleton] at h4 ⊢
    omega
  · exact h
end Go.Proofs.Ytdoofapjhgahgaa
