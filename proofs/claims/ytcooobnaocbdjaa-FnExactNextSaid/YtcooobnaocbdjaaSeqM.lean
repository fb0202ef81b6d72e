/-
  Gradients of one alone: what comes of them, as plain functions.
-/
import Derived.Test.YtcooobnaocbdjaaModM
import Derived.Test.YtcooobnaocbdjaaOpB
import Derived.Test.YtcooobnaocbdjaaLossM
namespace Go.Proofs.Ytcooobnaocbdjaa
open Go.RowKit
set_option linter.unusedVariables false

/-- f 0, f 1, .. -/
def listK {α : Type} (f : Nat → α) : Nat → List α
  | 0 => []
  | k + 1 => listK f k ++ [f k]
theorem listK_length {α : Type} (f : Nat → α) (k : Nat) : (listK f k).length = k := by
  induction k with
  | zero => rfl
  | succ k ih => simp [listK, ih]
theorem listK_get {α : Type} (f : Nat → α) (k j : Nat) (h : j < k) : (listK f k)[j]? = some (f j) := by
  induction k with
  | zero => omega
  | succ k ih =>
    unfold listK
    by_cases hj : j < k
    · rw [List.getElem?_append_left (by rw [listK_length]; exact hj)]
      exact ih hj
    · obtain rfl : j = k := by omega
      rw [List.getElem?_append_right (by rw [listK_length]; exact Nat.le_refl _), listK_length, Nat.sub_self]
      rfl
theorem listK_congr {α : Type} {f g : Nat → α} {k : Nat} (h : ∀ j, j < k → f j = g j) : listK f k = listK g k := by
  induction k with
  | zero => rfl
  | succ k ih => simp [listK, ih fun j hj => h j (by omega), h k (by omega)]
theorem listK_sum {α : Type} (s : α → Nat) (f : Nat → α) (k B : Nat) (h : ∀ j, j < k → s (f j) ≤ B) : Shape.sum s (listK f k) ≤ k * B := by
  induction k with
  | zero => simp [listK, Shape.sum]
  | succ k ih =>
    unfold listK
    rw [Shape.sum_append]
    have h1 := ih fun j hj => h j (by omega)
    have h2 := h k (by omega)
    simp only [Shape.sum, Nat.add_zero]
    rw [Nat.add_mul]
    omega
def rowAt (l : List dRow) (j : Nat) : dRow := l.getD j []
theorem rowAt_get {l : List dRow} {j : Nat} {x : dRow} (h : l[j]? = some x) : rowAt l j = x := by
  unfold rowAt
  rw [List.getD_eq_getElem?_getD, h]
  rfl
def dNone : List dRow × Int × Bool := ([], 0, false)
/-- A row of noughts for each list of parameters. -/
def zeroRows (m : List dOp) : List dRow := if modelOkB m then listK (fun j => noughts (opAt m j).2.2.2.length) m.length else []
def zeroG (m : List dOp) : List dRow × Int × Bool := (zeroRows m, 0, false)
/-- As far as both go. -/
def addV (xs ys : List Int) : List Int := rowK addN xs ys (min xs.length ys.length)
def addVB (xs ys : List Int) : Bool := flagK addB xs ys (min xs.length ys.length)
def addRows (a b : List dRow) : List dRow := listK (fun j => addV (rowAt a j) (rowAt b j)) (min a.length b.length)
def addRowsB (a b : List dRow) : Bool := anyK (fun j => addVB (rowAt a j) (rowAt b j)) (min a.length b.length)
def addG (a b : List dRow × Int × Bool) : List dRow × Int × Bool := (addRows a.1 b.1, addN a.2.1 b.2.1, a.2.2 || b.2.2 || addRowsB a.1 b.1 || addB a.2.1 b.2.1)
def fwOp (o : dOp) (x : List Int) : List Int := fwN o.1 o.2.1 o.2.2.1 o.2.2.2 x
def fwOpB (o : dOp) (x : List Int) : Bool := fwB o.1 o.2.1 o.2.2.1 o.2.2.2 x
def bwOp (o : dOp) (x d : List Int) : List Int := bwN o.1 o.2.1 o.2.2.1 o.2.2.2 x d
def bwOpG (o : dOp) (x d : List Int) : List Int := bwG o.1 o.2.1 o.2.2.1 o.2.2.2 x d
def bwOpB (o : dOp) (x d : List Int) : Bool := bwB o.1 o.2.1 o.2.2.1 o.2.2.2 x d
/-- What goes into the operation at a place; whether any of it was out of the range. -/
def inK (m : List dOp) (x : List Int) : Nat → List Int
  | 0 => x
  | k + 1 => fwOp (opAt m k) (inK m x k)
def inKB (m : List dOp) (x : List Int) : Nat → Bool
  | 0 => false
  | k + 1 => inKB m x k || fwOpB (opAt m k) (inK m x k)
def insN (m : List dOp) (x : List Int) : List dRow := listK (inK m x) (m.length + 1)
/-- What comes back behind the last t operations. -/
def backK (m : List dOp) (x d : List Int) : Nat → List Int
  | 0 => d
  | t + 1 => bwOp (opAt m (m.length - 1 - t)) (inK m x (m.length - 1 - t)) (backK m x d t)
def backKB (m : List dOp) (x d : List Int) : Nat → Bool
  | 0 => false
  | t + 1 => backKB m x d t || bwOpB (opAt m (m.length - 1 - t)) (inK m x (m.length - 1 - t)) (backK m x d t)
def gradAt (m : List dOp) (x d : List Int) (j : Nat) : List Int := bwOpG (opAt m j) (inK m x j) (backK m x d (m.length - 1 - j))
def gradsN (m : List dOp) (x d : List Int) : List dRow := listK (gradAt m x d) m.length
def microG (m : List dOp) (p : dPair) : List dRow × Int × Bool :=
  if batchOkB m [p] then
    (gradsN m p.1 (rowP subN (inK m p.1 m.length) p.2), lossN (inK m p.1 m.length) p.2,
      inKB m p.1 m.length || lossB (inK m p.1 m.length) p.2 || flagP subB (inK m p.1 m.length) p.2 || backKB m p.1 (rowP subN (inK m p.1 m.length) p.2) m.length)
  else dNone
def pairAt (l : List dPair) (j : Nat) : dPair := l.getD j ([], [])
theorem pairAt_get {l : List dPair} {j : Nat} {x : dPair} (h : l[j]? = some x) : pairAt l j = x := by
  unfold pairAt
  rw [List.getD_eq_getElem?_getD, h]
  rfl
def seqK (m : List dOp) (b : List dPair) : Nat → List dRow × Int × Bool
  | 0 => zeroG m
  | k + 1 => addG (seqK m b k) (microG m (pairAt b k))
def seqG (m : List dOp) (b : List dPair) : List dRow × Int × Bool := if batchOkB m b then seqK m b b.length else dNone

/-! ### How much it is -/
def gradsBulk (g : List dRow × Int × Bool) : Nat := g.1.length + Shape.sum (fun (x : dRow) => x.length) g.1
theorem addV_length (xs ys : List Int) : (addV xs ys).length = min xs.length ys.length := rowK_length _ _ _ _
theorem fwOp_length (o : dOp) (x : List Int) : (fwOp o x).length ≤ 6 := fwN_length _ _ _ _ _
theorem bwOpG_length (o : dOp) (x d : List Int) : (bwOpG o x d).length ≤ 36 := bwG_length _ _ _ _ _ _
theorem rows_bulk {f : Nat → dRow} {n B : Nat} (h : ∀ j, j < n → (f j).length ≤ B) : (listK f n).length + Shape.sum (fun (x : dRow) => x.length) (listK f n) ≤ n + n * B := by
  rw [listK_length]
  have := listK_sum (fun (x : dRow) => x.length) f n B h
  omega
theorem micro_bulk (m : List dOp) (p : dPair) : gradsBulk (microG m p) ≤ 296 := by
  unfold microG gradsBulk
  cases h : batchOkB m [p] with
  | false => simp [dNone, Shape.sum]
  | true =>
    have h8 : m.length ≤ 8 := by
      have hm : modelOkB m = true := by
        unfold batchOkB at h
        simp only [Bool.and_eq_true] at h
        exact h.1.1
      exact (modelOk_has hm).2.2
    simp only [if_true]
    have := rows_bulk (f := gradAt m p.1 (rowP subN (inK m p.1 m.length) p.2)) (n := m.length) (B := 36) fun j hj => bwOpG_length _ _ _
    unfold gradsN
    omega
theorem opOk_len {k i o : Int} {ps : List Int} (h : opOkB k i o ps = true) : ps.length ≤ 36 := by
  unfold opOkB at h
  simp only [Bool.and_eq_true, decide_eq_true_eq] at h
  obtain ⟨⟨⟨⟨⟨-, hi⟩, ho⟩, -⟩, hl⟩, -⟩ := h
  unfold opSz at hl
  rw [hi, ho] at hl
  have hp := prod36 hi ho
  have := inB_has hi
  simp only [Bool.and_self, if_true] at hl
  split at hl
  · omega
  · split at hl
    · omega
    · split at hl <;> omega
theorem modelOk_small {m : List dOp} (h : modelOkB m = true) (j : Nat) (hj : j < m.length) : (opAt m j).2.2.2.length ≤ 36 := by
  have h1 := (modelOk_has h).1 j hj
  unfold okAt dOpOk at h1
  rw [Bool.and_eq_true] at h1
  have h2 := opOk_len h1.1
  omega
theorem zero_bulk (m : dModel) : shGrads.bulk (zeroG m) ≤ 1048576 := by
  rw [shGrads_bulk]
  show (zeroRows m).length + Shape.sum shRow.bulk (zeroRows m) ≤ 1048576
  have e : shRow.bulk = fun (x : dRow) => x.length := by
    funext x
    rw [shRow_bulk, bulk_ints]
  rw [e]
  unfold zeroRows
  cases h : modelOkB m with
  | false => simp [Shape.sum]
  | true =>
    have h8 := (modelOk_has h).2.2
    have := rows_bulk (f := fun j => noughts (opAt m j).2.2.2.length) (n := m.length) (B := 36) fun j hj => by
      show (noughts _).length ≤ 36
      unfold noughts
      rw [List.length_replicate]
      exact modelOk_small h j hj
    simp only [if_true]
    omega
theorem sum_get_le (s : dRow → Nat) (l : List dRow) : ∀ n, n ≤ l.length → Shape.sum (fun (x : dRow) => x.length) (listK (rowAt l) n) ≤ Shape.sum (fun (x : dRow) => x.length) l := by
  intro n hn
  have h : listK (rowAt l) n = l.take n := by
    apply List.ext_getElem?
    intro j
    by_cases hj : j < n
    · rw [listK_get _ _ _ hj, List.getElem?_take, if_pos hj, List.getElem?_eq_getElem (by omega), rowAt_get (List.getElem?_eq_getElem (by omega))]
    · rw [List.getElem?_eq_none (by rw [listK_length]; omega), List.getElem?_eq_none (by rw [List.length_take]; omega)]
  rw [h]
  exact sum_take_le _ _ _
theorem listK_sum_le {α β : Type} (s : α → Nat) (t : β → Nat) (f : Nat → α) (g : Nat → β) (h : ∀ j, s (f j) ≤ t (g j)) : ∀ n, Shape.sum s (listK f n) ≤ Shape.sum t (listK g n)
  | 0 => Nat.le_refl _
  | n + 1 => by
    unfold listK
    rw [Shape.sum_append, Shape.sum_append]
    have h1 := listK_sum_le s t f g h n
    have h2 := h n
    simp only [Shape.sum]
    omega
theorem add_bulk (x y : dGrads) : shGrads.bulk (addG x y) ≤ shGrads.bulk x := by
  rw [shGrads_bulk, shGrads_bulk]
  show (addRows x.1 y.1).length + Shape.sum shRow.bulk (addRows x.1 y.1) ≤ x.1.length + Shape.sum shRow.bulk x.1
  have e : shRow.bulk = fun (x : dRow) => x.length := by
    funext x
    rw [shRow_bulk, bulk_ints]
  rw [e]
  unfold addRows
  have h1 := listK_sum_le (fun (x : dRow) => x.length) (fun (x : dRow) => x.length) (fun j => addV (rowAt x.1 j) (rowAt y.1 j)) (rowAt x.1) (fun j => by
    show (addV _ _).length ≤ _
    rw [addV_length]
    omega) (min x.1.length y.1.length)
  have h2 := sum_get_le (fun x => x.length) x.1 (min x.1.length y.1.length) (by omega)
  rw [listK_length]
  omega
theorem bulk_grads (g : dGrads) : shGrads.bulk g = gradsBulk g := by
  rw [shGrads_bulk]
  show g.1.length + Shape.sum shRow.bulk g.1 = g.1.length + Shape.sum (fun (x : dRow) => x.length) g.1
  have e : shRow.bulk = fun (x : dRow) => x.length := by
    funext x
    rw [shRow_bulk, bulk_ints]
  rw [e]
theorem micro_small (m : dModel) (p : dPair) : shGrads.bulk (microG m p) ≤ 1048576 := by
  rw [bulk_grads]
  have := micro_bulk m p
  omega
theorem seqK_bulk (m : dModel) (b : List dPair) : ∀ k, shGrads.bulk (seqK m b k) ≤ 1048576
  | 0 => zero_bulk m
  | k + 1 => Nat.le_trans (add_bulk _ _) (seqK_bulk m b k)
theorem seq_small (m : dModel) (b : List dPair) : shGrads.bulk (seqG m b) ≤ 1048576 := by
  unfold seqG
  split
  · exact seqK_bulk m b _
  · rw [bulk_grads]
    simp [gradsBulk, dNone, Shape.sum]
end Go.Proofs.Ytcooobnaocbdjaa
