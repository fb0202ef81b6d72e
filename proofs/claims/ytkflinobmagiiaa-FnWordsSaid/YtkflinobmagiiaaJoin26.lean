import Derived.Test.YtkflinobmagiiaaJoin25
import Derived.Test.YtkflinobmagiiaaJoin24
import Derived.Test.YtkflinobmagiiaaJoin23
import Derived.Deep.AppendLies
/-! YtkflinobmagiiaaMark -/
section

namespace Go.Proofs.Ytkflinobmagiiaa
open Go.RowKit
set_option linter.unusedVariables false
set_option linter.unusedSimpArgs false

theorem sum_ones (xs : List Int) : Shape.sum Owned.int.ct xs = xs.length := by
  induction xs with
  | nil => rfl
  | cons x xs ih =>
    show 1 + Shape.sum Owned.int.ct xs = _
    rw [ih]
    simp
    omega
theorem mkL_ints : ∀ (xs : List Int) (k : Int), Owned.mkL Owned.int.mark Owned.int.ct xs k = marks k xs.length
  | [], k => rfl
  | x :: xs, k => by
    show k :: Owned.mkL Owned.int.mark Owned.int.ct xs (k + 1) = _
    rw [mkL_ints xs (k + 1)]
    unfold marks
    rw [List.length_cons, List.range_succ_eq_map, List.map_cons, List.map_map]
    congr 1
    · simp
    · refine List.map_congr_left fun j _ => ?_
      simp only [Function.comp]
      push_cast
      omega
theorem ownOp_ctT (x : dOp) : ownOp.ctT x = Shape.sum Owned.int.ct x.2.2.2 := by
  simp only [ownOp, Owned.struct, OwnedFields.cons, OwnedFields.last, Owned.int, Owned.bool, Owned.list]
  try omega
theorem ownRow_ctT (x : dRow) : ownRow.ctT x = Shape.sum Owned.int.ct x := by
  show Shape.sum _ _ = _
  rfl
theorem ownPair_ctT (x : dPair) : ownPair.ctT x = Shape.sum Owned.int.ct x.1 + Shape.sum Owned.int.ct x.2 := by
  simp only [ownPair, Owned.struct, OwnedFields.cons, OwnedFields.last, Owned.int, Owned.bool, Owned.list]
  try omega
theorem ownModel_ctT (x : dModel) : ownModel.ctT x = Shape.sum ownOp.ct x := by
  show Shape.sum _ _ = _
  rfl
theorem ownGrads_ctT (x : dGrads) : ownGrads.ctT x = Shape.sum ownRow.ct x.1 := by
  simp only [ownGrads, Owned.struct, OwnedFields.cons, OwnedFields.last, Owned.int, Owned.bool, Owned.list]
  try omega
end Go.Proofs.Ytkflinobmagiiaa

end

/-! YtkflinobmagiiaaFew -/
section

namespace Go.Proofs.Ytkflinobmagiiaa
open Go.RowKit
set_option linter.unusedVariables false
set_option linter.unusedSimpArgs false

theorem sum_few {α : Type} (f g : α → Nat) (h : ∀ x, f x ≤ 16 + 16 * g x) : ∀ l : List α, Shape.sum f l ≤ 16 * (l.length + Shape.sum g l)
  | [] => Nat.zero_le _
  | x :: l => by
    have h1 := sum_few f g h l
    have h2 := h x
    simp only [Shape.sum, List.length_cons]
    omega
theorem few_IntS (xs : List Int) : Shape.sum Owned.int.ct xs ≤ 16 * (Shape.list Shape.int).bulk xs := by
  rw [sum_ones, bulk_ints]
  omega
theorem ownOp_few (x : dOp) : ownOp.ctT x ≤ 16 * shOp.bulk x := by
  rw [ownOp_ctT, shOp_bulk]
  have e0 := few_IntS x.2.2.2
  omega
theorem ownOp_ct (x : dOp) : ownOp.ct x = ownOp.ctT x + 3 := by
  rw [ownOp_ctT]
  simp only [ownOp, Owned.struct, OwnedFields.cons, OwnedFields.last, Owned.int, Owned.bool, Owned.list]
  try omega
theorem few_OpS (xs : List dOp) : Shape.sum ownOp.ct xs ≤ 16 * (Shape.list shOp).bulk xs := by
  refine sum_few ownOp.ct shOp.bulk (fun x => ?_) xs
  rw [ownOp_ct]
  have := ownOp_few x
  omega
theorem ownRow_few (x : dRow) : ownRow.ctT x ≤ 16 * shRow.bulk x := by
  rw [ownRow_ctT, shRow_bulk]
  have e0 := few_IntS x
  omega
theorem ownRow_ct (x : dRow) : ownRow.ct x = ownRow.ctT x + 0 := by
  rw [ownRow_ctT]
  simp only [ownRow, Owned.struct, OwnedFields.cons, OwnedFields.last, Owned.int, Owned.bool, Owned.list]
  try omega
theorem few_RowS (xs : List dRow) : Shape.sum ownRow.ct xs ≤ 16 * (Shape.list shRow).bulk xs := by
  refine sum_few ownRow.ct shRow.bulk (fun x => ?_) xs
  rw [ownRow_ct]
  have := ownRow_few x
  omega
theorem ownPair_few (x : dPair) : ownPair.ctT x ≤ 16 * shPair.bulk x := by
  rw [ownPair_ctT, shPair_bulk]
  have e0 := few_IntS x.1
  have e1 := few_IntS x.2
  omega
theorem ownPair_ct (x : dPair) : ownPair.ct x = ownPair.ctT x + 0 := by
  rw [ownPair_ctT]
  simp only [ownPair, Owned.struct, OwnedFields.cons, OwnedFields.last, Owned.int, Owned.bool, Owned.list]
  try omega
theorem few_PairS (xs : List dPair) : Shape.sum ownPair.ct xs ≤ 16 * (Shape.list shPair).bulk xs := by
  refine sum_few ownPair.ct shPair.bulk (fun x => ?_) xs
  rw [ownPair_ct]
  have := ownPair_few x
  omega
theorem ownModel_few (x : dModel) : ownModel.ctT x ≤ 16 * shModel.bulk x := by
  rw [ownModel_ctT, shModel_bulk]
  have e0 := few_OpS x
  omega
theorem ownGrads_few (x : dGrads) : ownGrads.ctT x ≤ 16 * shGrads.bulk x := by
  rw [ownGrads_ctT, shGrads_bulk]
  have e0 := few_RowS x.1
  omega
end Go.Proofs.Ytkflinobmagiiaa

end

/-! YtkflinobmagiiaaSeqZ -/
section

namespace Go.Proofs.Ytkflinobmagiiaa
open Go.RowKit Go.Sort
set_option linter.unusedVariables false

theorem Row.made (w : World) (n : Nat) (h : n ≤ 9223372036854775807) : Row w.heap.size (w.alloc (.cells (madeCells #[.int .i64 0] n) 3 (0, 0))) (.slice (some ⟨w.heap.size, 0, none⟩) n n) (noughts n) := by
  have h1 : (noughts n).length = n := by unfold noughts; rw [List.length_replicate]
  have h2 : (madeCells #[.int .i64 0] n).toList = icells (noughts n) := by
    rw [toList_madeCells_one]
    unfold icells noughts
    rw [List.map_replicate]
  have h3 := World.ownsRow_lit (base := w.heap.size) (e := 3) (size := 1) w (madeCells #[.int .i64 0] n) n (Nat.le_refl _) (by unfold maxLen; omega) (by rw [size_madeCells, Nat.mul_one])
  unfold Row
  rw [h1, ← h2]
  exact h3
theorem Row.ownRow {base : Nat} {w : World} {u : Value} {x : List Int} (h : Row base w u x) : ownRow.owns (FromB base w.heap.size) w [u] x := h.own
theorem cellsG {w : World} {g : Nat} {x y z : Value} {T : TypeId} (h : w.heap[g]? = some (.cells #[x, y, z] T (0, 0))) :
    (w.cell? ⟨g, 0, none⟩ = some x ∧ w.cell? ⟨g, 1, none⟩ = some y ∧ w.cell? ⟨g, 2, none⟩ = some z) ∧ w.frozen? ⟨g, 0, none⟩ = false ∧ w.frozen? ⟨g, 1, none⟩ = false ∧ w.frozen? ⟨g, 2, none⟩ = false :=
  ⟨⟨by rw [cell_of_row _ _ _ _ _ _ h]; rfl, by rw [cell_of_row _ _ _ _ _ _ h]; rfl, by rw [cell_of_row _ _ _ _ _ _ h]; rfl⟩, frozen_of_row _ _ _ _ _ h, frozen_of_row _ _ _ _ _ h, frozen_of_row _ _ _ _ _ h⟩
theorem ListL.stored {α : Type} {S : Owned α} {T : TypeId} {lo hi : Nat} {w : World} {v : Value} {xs : List α} (h : ListL S T lo hi w v xs) (g i : Nat) (u : Value) (hg : g < lo) : ListL S T lo hi (w.setCell ⟨g, i, none⟩ u) v xs := by
  have hb : ∀ k, lo ≤ k → (w.setCell ⟨g, i, none⟩ u).heap[k]? = w.heap[k]? := fun k hk => heap_setCell_other _ _ _ _ (by show k ≠ g; omega)
  obtain ⟨us, G, h1, h2, h3, h4, h5⟩ := h.all
  refine ⟨by simpa using h.top, us, G, ⟨h1.1, h1.2.imp id ?_⟩, h2, fun j x hx => ?_, h4, h5⟩
  · rintro ⟨k, cap, cur, rfl, e1, e2, e3⟩
    exact ⟨k, cap, cur, rfl, e1, (hb k e1).trans e2, e3⟩
  · obtain ⟨es, q1, q2⟩ := h3 j x hx
    refine ⟨es, q1, S.owns_keep q2 ((Touched.set (F := fun b _ => b = g) w g i u rfl).same fun b o f f' => ?_)⟩
    have e : b = g := f
    have := (h4 j b o f').1
    omega
theorem Boxes.far {w w1 w4 : World} {A Z O : Array Value} {TA T : TypeId} (h : Boxes w w1 A Z O TA T) (hb : Below (w.heap.size + 3) w1 w4) : Boxes w w4 A Z O TA T :=
  ⟨h.below.trans (hb.mono (by omega)), Nat.le_trans h.size hb.size, (hb.block _ (by omega)).trans h.a, (hb.block _ (by omega)).trans h.z, (hb.block _ (by omega)).trans h.o⟩
theorem size_one' (w : World) (o : Obj) : (w.alloc o).heap.size = w.heap.size + 1 := by simp
theorem slices_one (a : Option Addr) (n c : Nat) : ∀ u ∈ [Value.slice a n c], u.oneCell' = true := by
  intro u hu
  rw [List.mem_singleton.1 hu]
  rfl
end Go.Proofs.Ytkflinobmagiiaa

end
