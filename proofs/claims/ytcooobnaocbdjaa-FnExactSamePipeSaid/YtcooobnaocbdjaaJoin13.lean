import Derived.Test.YtcooobnaocbdjaaJoin6
import Derived.Test.YtcooobnaocbdjaaJoin5
import Derived.Test.YtcooobnaocbdjaaJoin7
/-! YtcooobnaocbdjaaPOpM -/
section

namespace Go.Proofs.Ytcooobnaocbdjaa
set_option linter.unusedVariables false

/-- How many parameters a kind has. -/
def opSz (k i o : Int) : Int := if inB 1 6 i && inB 1 6 o then (if k = 1 ∨ k = 5 then i * o else if k = 2 then i else if k = 4 then 1 else 0) else 0
/-- Is it a right operation? -/
def opOkB (k i o : Int) (ps : List Int) : Bool := inB 1 5 k && inB 1 6 i && inB 1 6 o && (decide (k = 1) || decide (i = o)) && decide ((ps.length : Int) = opSz k i o) && ps.all okB
/-- What goes ahead. -/
def fwOk (k i o : Int) (ps xs : List Int) : Bool := opOkB k i o ps && vecOkB xs && decide ((xs.length : Int) = i)
def fwN (k i o : Int) (ps xs : List Int) : List Int :=
  if fwOk k i o ps xs then (if k = 1 then mvN o i ps xs else if k = 2 then rowP addN xs ps else if k = 3 then rowP (fun x _ => reluN x) xs xs else if k = 4 then scaleN (ps.getD 0 0) xs else rowP addN xs (mvN o i ps xs)) else []
def fwB (k i o : Int) (ps xs : List Int) : Bool :=
  fwOk k i o ps xs && (if k = 1 then mvB o i ps xs else if k = 2 then flagP addB xs ps else if k = 3 then false else if k = 4 then scaleB (ps.getD 0 0) xs else mvB o i ps xs || flagP addB xs (mvN o i ps xs))
/-- What goes back: ahead of it, the gradients, the mark. -/
def bwOk (k i o : Int) (ps xs ds : List Int) : Bool := fwOk k i o ps xs && vecOkB ds && decide ((ds.length : Int) = o)
def bwN (k i o : Int) (ps xs ds : List Int) : List Int :=
  if bwOk k i o ps xs ds then (if k = 1 then mbN o i ps ds else if k = 2 then ds else if k = 3 then rowP maskN xs ds else if k = 4 then scaleN (ps.getD 0 0) ds else rowP addN ds (mbN o i ps ds)) else []
def bwG (k i o : Int) (ps xs ds : List Int) : List Int :=
  if bwOk k i o ps xs ds then (if k = 1 ∨ k = 5 then outN ds xs else if k = 2 then ds else if k = 4 then [dotN ds xs] else []) else []
def bwB (k i o : Int) (ps xs ds : List Int) : Bool :=
  bwOk k i o ps xs ds && (if k = 1 then mbB o i ps ds || outB ds xs else if k = 2 then false else if k = 3 then false else if k = 4 then scaleB (ps.getD 0 0) ds || dotB ds xs else mbB o i ps ds || outB ds xs || flagP addB ds (mbN o i ps ds))
/-- How many products a step ahead takes. -/
def opCostN (k i o : Int) (ps : List Int) : Int := if opOkB k i o ps then (if k = 1 ∨ k = 5 then i * o else if k = 4 then i else 0) else 0
def sameOpB (k i o : Int) (ps : List Int) (k' i' o' : Int) (qs : List Int) : Bool := decide (k = k') && (decide (i = i') && (decide (o = o') && decide (ps = qs)))

/-! ### Sizes and ranges -/
def noughts (n : Nat) : List Int := List.replicate n 0
/-- All are nought. -/
def AllZ (xs : List Int) : Prop := ∀ j, xs.getD j 0 = 0
end Go.Proofs.Ytcooobnaocbdjaa

end

/-! YtcooobnaocbdjaaPModM -/
section

namespace Go.Proofs.Ytcooobnaocbdjaa
open Go.RowKit
set_option linter.unusedVariables false

def opAt (m : List dOp) (j : Nat) : dOp := m.getD j (0, 0, 0, [])
/-- Is an operation right? -/
def dOpOk (x : dOp) : Bool := opOkB x.1 x.2.1 x.2.2.1 x.2.2.2
/-- Is the one at a place right, and fits it behind the one ahead? -/
def okAt (m : List dOp) (j : Nat) : Bool := dOpOk (opAt m j) && (decide (j = 0) || decide ((opAt m j).2.1 = (opAt m (j - 1)).2.2.1))
def modelOkB (m : List dOp) : Bool := (List.range m.length).all (okAt m) && inB 1 8 (m.length : Int)
def inOfN (m : List dOp) : Int := if modelOkB m then (opAt m 0).2.1 else 0
def outOfN (m : List dOp) : Int := if modelOkB m then (opAt m (m.length - 1)).2.2.1 else 0
def wordsN (m : List dOp) : Int := if modelOkB m then (Shape.sum (fun (x : dOp) => x.2.2.2.length) m : Nat) else 0
/-- Does a pair fit? -/
def pairOkB (i o : Int) (p : dPair) : Bool := vecOkB p.1 && vecOkB p.2 && decide ((p.1.length : Int) = i) && decide ((p.2.length : Int) = o)
def batchOkB (m : List dOp) (b : List dPair) : Bool := modelOkB m && inB 1 5 (b.length : Int) && b.all (pairOkB (inOfN m) (outOfN m))
def sameRowsB (a b : List dRow) : Bool := decide (a = b)
end Go.Proofs.Ytcooobnaocbdjaa

end
