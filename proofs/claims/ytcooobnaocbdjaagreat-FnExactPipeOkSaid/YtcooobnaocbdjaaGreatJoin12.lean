import Derived.Test.YtcooobnaocbdjaaGreatJoin7
import Derived.Test.YtcooobnaocbdjaaGreatJoin11
import Derived.Test.YtcooobnaocbdjaaGreatJoin1
import Derived.Test.YtcooobnaocbdjaaGreatJoin6
/-! YtcooobnaocbdjaaGreatPModM -/
section

namespace Go.Proofs.YtcooobnaocbdjaaGreat
open Go.RowKit
set_option linter.unusedVariables false

def opAt (m : List dOp) (j : Nat) : dOp := m.getD j (0, 0, 0, [])
theorem opAt_get {m : List dOp} {j : Nat} {x : dOp} (h : m[j]? = some x) : opAt m j = x := by
  unfold opAt
  rw [List.getD_eq_getElem?_getD, h]
  rfl
/-- Is an operation right? -/
def dOpOk (x : dOp) : Bool := opOkB x.1 x.2.1 x.2.2.1 x.2.2.2
/-- Is the one at a place right, and fits it behind the one ahead? -/
def okAt (m : List dOp) (j : Nat) : Bool := dOpOk (opAt m j) && (decide (j = 0) || decide ((opAt m j).2.1 = (opAt m (j - 1)).2.2.1))
def modelOkB (m : List dOp) : Bool := (List.range m.length).all (okAt m) && inB 1 8 (m.length : Int)
theorem range_all {p : Nat → Bool} {n : Nat} (h : ∀ j, j < n → p j = true) : (List.range n).all p = true := List.all_eq_true.2 fun j hj => h j (List.mem_range.1 hj)
theorem range_some {p : Nat → Bool} {n k : Nat} (hk : k < n) (h : p k = false) : (List.range n).all p = false := List.all_eq_false.2 ⟨k, List.mem_range.2 hk, by rw [h]; decide⟩
theorem modelOk_no {m : List dOp} {k : Nat} (hk : k < m.length) (h : okAt m k = false) : modelOkB m = false := by
  unfold modelOkB
  rw [range_some hk h]
  rfl
theorem modelOk_all {m : List dOp} (h : ∀ j, j < m.length → okAt m j = true) : modelOkB m = inB 1 8 (m.length : Int) := by
  unfold modelOkB
  rw [range_all h]
  rfl
theorem okAt_bad {m : List dOp} {k : Nat} {x : dOp} (hx : m[k]? = some x) (h : dOpOk x = false) : okAt m k = false := by
  unfold okAt
  rw [opAt_get hx, h]
  rfl
theorem okAt_zero {m : List dOp} {x : dOp} (hx : m[0]? = some x) (h : dOpOk x = true) : okAt m 0 = true := by
  unfold okAt
  rw [opAt_get hx, h]
  rfl
theorem okAt_next {m : List dOp} {k j : Nat} {x y : dOp} (hx : m[k]? = some x) (hy : m[j]? = some y) (hk : k = j + 1) (h : dOpOk x = true) : okAt m k = decide (x.2.1 = y.2.2.1) := by
  subst hk
  unfold okAt
  rw [opAt_get hx, Nat.add_sub_cancel, opAt_get hy, h]
  simp
theorem modelOk_has {m : List dOp} (h : modelOkB m = true) : (∀ j, j < m.length → okAt m j = true) ∧ 1 ≤ m.length ∧ m.length ≤ 8 := by
  unfold modelOkB at h
  simp only [Bool.and_eq_true, List.all_eq_true, List.mem_range] at h
  have := inB_has h.2
  exact ⟨h.1, by omega, by omega⟩
def inOfN (m : List dOp) : Int := if modelOkB m then (opAt m 0).2.1 else 0
def outOfN (m : List dOp) : Int := if modelOkB m then (opAt m (m.length - 1)).2.2.1 else 0
def wordsN (m : List dOp) : Int := if modelOkB m then (Shape.sum (fun (x : dOp) => x.2.2.2.length) m : Nat) else 0
/-- Does a pair fit? -/
def pairOkB (i o : Int) (p : dPair) : Bool := vecOkB p.1 && vecOkB p.2 && decide ((p.1.length : Int) = i) && decide ((p.2.length : Int) = o)
def batchOkB (m : List dOp) (b : List dPair) : Bool := modelOkB m && inB 1 5 (b.length : Int) && b.all (pairOkB (inOfN m) (outOfN m))
def sameRowsB (a b : List dRow) : Bool := decide (a = b)
end Go.Proofs.YtcooobnaocbdjaaGreat

end

/-! YtcooobnaocbdjaaGreatPOpH -/
section

namespace Go.Proofs.YtcooobnaocbdjaaGreat
open Go.RowKit
set_option linter.unusedVariables false

theorem cells4 {w : World} {g : Nat} {x y z t : Value} {T : TypeId} (h : w.heap[g]? = some (.cells #[x, y, z, t] T (0, 0))) :
    (w.cell? ⟨g, 0, none⟩ = some x ∧ w.cell? ⟨g, 1, none⟩ = some y ∧ w.cell? ⟨g, 2, none⟩ = some z ∧ w.cell? ⟨g, 3, none⟩ = some t) ∧ w.frozen? ⟨g, 0, none⟩ = false ∧ w.frozen? ⟨g, 1, none⟩ = false ∧ w.frozen? ⟨g, 2, none⟩ = false ∧ w.frozen? ⟨g, 3, none⟩ = false :=
  ⟨⟨by rw [cell_of_row _ _ _ _ _ _ h]; rfl, by rw [cell_of_row _ _ _ _ _ _ h]; rfl, by rw [cell_of_row _ _ _ _ _ _ h]; rfl, by rw [cell_of_row _ _ _ _ _ _ h]; rfl⟩, frozen_of_row w g 0 _ _ h, frozen_of_row w g 1 _ _ h, frozen_of_row w g 2 _ _ h, frozen_of_row w g 3 _ _ h⟩

end Go.Proofs.YtcooobnaocbdjaaGreat

end
