/-
  How many marks a datum takes.
-/
import Derived.Test.YtpnifgpmleaohaaMark
namespace Go.Proofs.Ytpnifgpmleaohaa
open Go.RowKit
set_option linter.unusedVariables false
set_option linter.unusedSimpArgs false

theorem sum_few {α : Type} (f g : α → Nat) (h : ∀ x, f x ≤ 16 + 16 * g x) : ∀ l : List α, Shape.sum f l ≤ 16 * (l.length + Shape.sum g l)
  | [] => Nat.zero_le _
  | x :: l => by
    have h1 := sum_few f g h l
    have h2 := h x
    simp only [Shape.sum, List.length_cons]
    omega
theorem few_IntS (xs : List Int) : Shape.sum Owned.int.ct xs ≤ 16 * (Shape.list Shape.int).bulk xs := by
  rw [sum_ones, bulk_ints]
  omega
theorem ownOp_few (x : dOp) : ownOp.ctT x ≤ 16 * shOp.bulk x := by
  rw [ownOp_ctT, shOp_bulk]
  have e0 := few_IntS x.2.2.2
  omega
theorem ownOp_ct (x : dOp) : ownOp.ct x = ownOp.ctT x + 3 := by
  rw [ownOp_ctT]
  simp only [ownOp, Owned.struct, OwnedFields.cons, OwnedFields.last, Owned.int, Owned.bool, Owned.list]
  try omega
theorem few_OpS (xs : List dOp) : Shape.sum ownOp.ct xs ≤ 16 * (Shape.list shOp).bulk xs := by
  refine sum_few ownOp.ct shOp.bulk (fun x => ?_) xs
  rw [ownOp_ct]
  have := ownOp_few x
  omega
theorem ownRow_few (x : dRow) : ownRow.ctT x ≤ 16 * shRow.bulk x := by
  rw [ownRow_ctT, shRow_bulk]
  have e0 := few_IntS x
  omega
theorem ownRow_ct (x : dRow) : ownRow.ct x = ownRow.ctT x + 0 := by
  rw [ownRow_ctT]
  simp only [ownRow, Owned.struct, OwnedFields.cons, OwnedFields.last, Owned.int, Owned.bool, Owned.list]
  try omega
theorem few_RowS (xs : List dRow) : Shape.sum ownRow.ct xs ≤ 16 * (Shape.list shRow).bulk xs := by
  refine sum_few ownRow.ct shRow.bulk (fun x => ?_) xs
  rw [ownRow_ct]
  have := ownRow_few x
  omega
theorem ownPair_few (x : dPair) : ownPair.ctT x ≤ 16 * shPair.bulk x := by
  rw [ownPair_ctT, shPair_bulk]
  have e0 := few_IntS x.1
  have e1 := few_IntS x.2
  omega
theorem ownPair_ct (x : dPair) : ownPair.ct x = ownPair.ctT x + 0 := by
  rw [ownPair_ctT]
  simp only [ownPair, Owned.struct, OwnedFields.cons, OwnedFields.last, Owned.int, Owned.bool, Owned.list]
  try omega
theorem few_PairS (xs : List dPair) : Shape.sum ownPair.ct xs ≤ 16 * (Shape.list shPair).bulk xs := by
  refine sum_few ownPair.ct shPair.bulk (fun x => ?_) xs
  rw [ownPair_ct]
  have := ownPair_few x
  omega
theorem ownModel_few (x : dModel) : ownModel.ctT x ≤ 16 * shModel.bulk x := by
  rw [ownModel_ctT, shModel_bulk]
  have e0 := few_OpS x
  omega
theorem ownGrads_few (x : dGrads) : ownGrads.ctT x ≤ 16 * shGrads.bulk x := by
  rw [ownGrads_ctT, shGrads_bulk]
  have e0 := few_RowS x.1
  omega
end Go.Proofs.Ytpnifgpmleaohaa
