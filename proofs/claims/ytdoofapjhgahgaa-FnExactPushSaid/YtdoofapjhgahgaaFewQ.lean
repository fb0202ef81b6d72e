/-
  How many marks a datum takes.
-/
import Derived.Test.YtdoofapjhgahgaaMarkQ
namespace Go.Proofs.Ytdoofapjhgahgaa
open Go.RowKit
set_option linter.unusedVariables false
set_option linter.unusedSimpArgs false

theorem sum_few {α : Type} (f g : α → Nat) (h : ∀ x, f x ≤ 16 + 16 * g x) : ∀ l : List α, Shape.sum f l ≤ 16 * (l.length + Shape.sum g l)
  | [] => Nat.zero_le _
  | x :: l => by
    have h1 := sum_few f g h l
    have h2 := h x
    simp only [Shape.sum, List.length_cons]
    omega
theorem few_IntS (xs : List Int) : Shape.sum Owned.int.ct xs ≤ 16 * (Shape.list Shape.int).bulk xs := by
  rw [sum_ones, bulk_ints]
  omega
theorem ownItem_few (x : dItem) : ownItem.ctT x ≤ 16 * shItem.bulk x := by
  rw [ownItem_ctT, shItem_bulk]
  have e0 := few_IntS x.2
  omega
theorem ownItem_ct (x : dItem) : ownItem.ct x = ownItem.ctT x + 1 := by
  rw [ownItem_ctT]
  simp only [ownItem, Owned.struct, OwnedFields.cons, OwnedFields.last, Owned.int, Owned.bool, Owned.list]
  try omega
theorem few_ItemS (xs : List dItem) : Shape.sum ownItem.ct xs ≤ 16 * (Shape.list shItem).bulk xs := by
  refine sum_few ownItem.ct shItem.bulk (fun x => ?_) xs
  rw [ownItem_ct]
  have := ownItem_few x
  omega
theorem ownQueue_few (x : dQueue) : ownQueue.ctT x ≤ 16 * shQueue.bulk x := by
  rw [ownQueue_ctT, shQueue_bulk]
  have e0 := few_ItemS x.2
  omega
end Go.Proofs.Ytdoofapjhgahgaa
