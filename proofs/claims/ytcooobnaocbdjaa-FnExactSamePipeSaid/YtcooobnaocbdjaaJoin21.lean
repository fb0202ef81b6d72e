import Derived.Test.YtcooobnaocbdjaaJoin5
import Derived.Test.YtcooobnaocbdjaaJoin13
import Derived.Test.YtcooobnaocbdjaaJoin20
/-! YtcooobnaocbdjaaPLossM -/
section

namespace Go.Proofs.Ytcooobnaocbdjaa
set_option linter.unusedVariables false

/-- Half, rounded down, of the sum of the squares of the differences; and whether any of it was out of the range. -/
def lossN (ys ts : List Int) : Int := dotN (rowP subN ys ts) (rowP subN ys ts) / 2
def lossB (ys ts : List Int) : Bool := flagP subB ys ts || dotB (rowP subN ys ts) (rowP subN ys ts)
theorem sub_self (x : Int) : subN x x = 0 ∧ subB x x = false := by
  have h : sat x - sat x = 0 := by omega
  unfold subN subB
  rw [h]
  exact ⟨rfl, rfl⟩
end Go.Proofs.Ytcooobnaocbdjaa

end

/-! YtcooobnaocbdjaaPSeqM -/
section

namespace Go.Proofs.Ytcooobnaocbdjaa
open Go.RowKit
set_option linter.unusedVariables false

/-- f 0, f 1, .. -/
def listK {α : Type} (f : Nat → α) : Nat → List α
  | 0 => []
  | k + 1 => listK f k ++ [f k]
def rowAt (l : List dRow) (j : Nat) : dRow := l.getD j []
def dNone : List dRow × Int × Bool := ([], 0, false)
/-- A row of noughts for each list of parameters. -/
def zeroRows (m : List dOp) : List dRow := if modelOkB m then listK (fun j => noughts (opAt m j).2.2.2.length) m.length else []
def zeroG (m : List dOp) : List dRow × Int × Bool := (zeroRows m, 0, false)
/-- As far as both go. -/
def addV (xs ys : List Int) : List Int := rowK addN xs ys (min xs.length ys.length)
def addVB (xs ys : List Int) : Bool := flagK addB xs ys (min xs.length ys.length)
def addRows (a b : List dRow) : List dRow := listK (fun j => addV (rowAt a j) (rowAt b j)) (min a.length b.length)
def addRowsB (a b : List dRow) : Bool := anyK (fun j => addVB (rowAt a j) (rowAt b j)) (min a.length b.length)
def addG (a b : List dRow × Int × Bool) : List dRow × Int × Bool := (addRows a.1 b.1, addN a.2.1 b.2.1, a.2.2 || b.2.2 || addRowsB a.1 b.1 || addB a.2.1 b.2.1)
def fwOp (o : dOp) (x : List Int) : List Int := fwN o.1 o.2.1 o.2.2.1 o.2.2.2 x
def fwOpB (o : dOp) (x : List Int) : Bool := fwB o.1 o.2.1 o.2.2.1 o.2.2.2 x
def bwOp (o : dOp) (x d : List Int) : List Int := bwN o.1 o.2.1 o.2.2.1 o.2.2.2 x d
def bwOpG (o : dOp) (x d : List Int) : List Int := bwG o.1 o.2.1 o.2.2.1 o.2.2.2 x d
def bwOpB (o : dOp) (x d : List Int) : Bool := bwB o.1 o.2.1 o.2.2.1 o.2.2.2 x d
/-- What goes into the operation at a place; whether any of it was out of the range. -/
def inK (m : List dOp) (x : List Int) : Nat → List Int
  | 0 => x
  | k + 1 => fwOp (opAt m k) (inK m x k)
def inKB (m : List dOp) (x : List Int) : Nat → Bool
  | 0 => false
  | k + 1 => inKB m x k || fwOpB (opAt m k) (inK m x k)
def insN (m : List dOp) (x : List Int) : List dRow := listK (inK m x) (m.length + 1)
/-- What comes back behind the last t operations. -/
def backK (m : List dOp) (x d : List Int) : Nat → List Int
  | 0 => d
  | t + 1 => bwOp (opAt m (m.length - 1 - t)) (inK m x (m.length - 1 - t)) (backK m x d t)
def backKB (m : List dOp) (x d : List Int) : Nat → Bool
  | 0 => false
  | t + 1 => backKB m x d t || bwOpB (opAt m (m.length - 1 - t)) (inK m x (m.length - 1 - t)) (backK m x d t)
def gradAt (m : List dOp) (x d : List Int) (j : Nat) : List Int := bwOpG (opAt m j) (inK m x j) (backK m x d (m.length - 1 - j))
def gradsN (m : List dOp) (x d : List Int) : List dRow := listK (gradAt m x d) m.length
def microG (m : List dOp) (p : dPair) : List dRow × Int × Bool :=
  if batchOkB m [p] then
    (gradsN m p.1 (rowP subN (inK m p.1 m.length) p.2), lossN (inK m p.1 m.length) p.2,
      inKB m p.1 m.length || lossB (inK m p.1 m.length) p.2 || flagP subB (inK m p.1 m.length) p.2 || backKB m p.1 (rowP subN (inK m p.1 m.length) p.2) m.length)
  else dNone
def pairAt (l : List dPair) (j : Nat) : dPair := l.getD j ([], [])
def seqK (m : List dOp) (b : List dPair) : Nat → List dRow × Int × Bool
  | 0 => zeroG m
  | k + 1 => addG (seqK m b k) (microG m (pairAt b k))
def seqG (m : List dOp) (b : List dPair) : List dRow × Int × Bool := if batchOkB m b then seqK m b b.length else dNone

/-! ### How much it is -/
def gradsBulk (g : List dRow × Int × Bool) : Nat := g.1.length + Shape.sum (fun (x : dRow) => x.length) g.1
end Go.Proofs.Ytcooobnaocbdjaa

end
