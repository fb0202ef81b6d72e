import Derived.Test.YtcooobnaocbdjaaJoin11
import Derived.Test.YtcooobnaocbdjaaJoin21
import Derived.Test.YtcooobnaocbdjaaJoin8
import Derived.Test.YtcooobnaocbdjaaJoin15
import Derived.Test.YtcooobnaocbdjaaJoin12
/-! YtcooobnaocbdjaaPStgM -/
section

namespace Go.Proofs.Ytcooobnaocbdjaa
open Go.RowKit
set_option linter.unusedVariables false

abbrev pcS (s : dStage) : Int := s.1
abbrev planS (s : dStage) : List dIns := s.2.1
abbrev opsS (s : dStage) : List dOp := s.2.2.1
abbrev lastS (s : dStage) : Bool := s.2.2.2.1
abbrev redoS (s : dStage) : Bool := s.2.2.2.2.1
abbrev stashS (s : dStage) : List dSaved := s.2.2.2.2.2.1
abbrev fullS (s : dStage) : List dRow := s.2.2.2.2.2.2.1
abbrev xS (s : dStage) : List Int := s.2.2.2.2.2.2.2.1
abbrev yS (s : dStage) : List Int := s.2.2.2.2.2.2.2.2.1
abbrev gS (s : dStage) : List Int := s.2.2.2.2.2.2.2.2.2.1
abbrev dS (s : dStage) : List Int := s.2.2.2.2.2.2.2.2.2.2.1
abbrev sumS (s : dStage) : dGrads := s.2.2.2.2.2.2.2.2.2.2.2
/-- The first that is saved of m. -/
def findN (l : List dSaved) (m : Int) : Int := match l.findIdx? (fun x => decide (x.1 = m)) with
  | some k => (k : Int)
  | none => -1
/-- Nothing, or a right vector of so many. -/
def handB (v : List Int) (n : Int) : Bool := decide (v.length = 0) || (vecOkB v && decide ((v.length : Int) = n))
/-- How many numbers rows have. -/
def wordsR (l : List dRow) : Nat := Shape.sum (fun (r : dRow) => r.length) l
def wordsH (l : List dSaved) : Nat := Shape.sum (fun (x : dSaved) => wordsR x.2) l
def ledgerN (s : dStage) : Int := (((xS s).length + (yS s).length + (gS s).length + (dS s).length + wordsH (stashS s) + wordsR (fullS s) : Nat) : Int)
/-- Are rows what a stage has saved? -/
def savedRowB (ops : List dOp) (r : List dRow) (i : Nat) : Bool := vecOkB (rowAt r i) && decide (((rowAt r i).length : Int) = if i = 0 then (opAt ops 0).2.1 else (opAt ops (i - 1)).2.2.1)
def savedB (redo : Bool) (ops : List dOp) (x : dSaved) : Bool := decide (x.2.length = if redo = true then 1 else ops.length + 1) && (List.range x.2.length).all (savedRowB ops x.2)
def sumRowB (s : dStage) (i : Nat) : Bool := decide ((rowAt (sumS s).1 i).length = (opAt (opsS s) i).2.2.2.length)
def stageOkB (s : dStage) : Bool :=
  modelOkB (opsS s) && inB 0 ((planS s).length : Int) (pcS s) && decide ((sumS s).1.length = (opsS s).length) && (List.range (opsS s).length).all (sumRowB s) && (stashS s).all (savedB (redoS s) (opsS s)) &&
    (handB (xS s) (inOfN (opsS s)) && handB (yS s) (outOfN (opsS s)) && handB (gS s) (outOfN (opsS s)) && handB (dS s) (inOfN (opsS s)))
/-- The four hands of a stage. -/
def handsB (s : dStage) : Bool := handB (xS s) (inOfN (opsS s)) && handB (yS s) (outOfN (opsS s)) && handB (gS s) (outOfN (opsS s)) && handB (dS s) (inOfN (opsS s))
def zeroStage : dStage := (0, [], [], false, false, [], [], [], [], [], [], ([], 0, false))
def newN (ops : List dOp) (plan : List dIns) (last redo : Bool) : dStage := if modelOkB ops = true then (0, plan, ops, last, redo, [], [], [], [], [], [], zeroG ops) else zeroStage
/-- What one that is saved reads as. -/
theorem saved_at {I : Nat → Prop} {w : World} {a : Option Addr} {n : Nat} {l : List dSaved} (h : ListAt shSaved I w a n l) (j : Nat) (hj : j < n) :
    ∃ b o x ax nx cx, l[j]? = some x ∧ a = some ⟨b, o, none⟩ ∧ I b ∧ w.cell? ⟨b, o + j * 2, none⟩ = some (.int .i64 x.1) ∧ w.cell? ⟨b, o + j * 2 + 1, none⟩ = some (.slice ax nx cx) ∧ nx ≤ cx ∧ cx ≤ 9223372036854775807 ∧ ListAt shRow I w ax nx x.2 := by
  obtain ⟨x, hx⟩ : ∃ x, l[j]? = some x := ⟨_, List.getElem?_eq_getElem (by rw [h.1]; exact hj)⟩
  obtain ⟨b, o, es, e, hb, hr, hs⟩ := h.2 j x hx
  obtain ⟨ax, nx, cx, rfl, h1, h2, h3⟩ := shSaved_reads.1 hs
  refine ⟨b, o, x, ax, nx, cx, hx, e, hb, ?_, ?_, h1, h2, h3⟩
  · have := hr 0 _ rfl
    simpa [shSaved_size] using this
  · have := hr 1 _ rfl
    simpa [shSaved_size] using this
/-- What one operation reads as. -/
theorem op_at {I : Nat → Prop} {w : World} {a : Option Addr} {n : Nat} {l : List dOp} (h : ListAt shOp I w a n l) (j : Nat) (hj : j < n) :
    ∃ b o x ax nx cx, l[j]? = some x ∧ a = some ⟨b, o, none⟩ ∧ I b ∧ w.cell? ⟨b, o + j * 4, none⟩ = some (.int .i64 x.1) ∧ w.cell? ⟨b, o + j * 4 + 1, none⟩ = some (.int .i64 x.2.1) ∧ w.cell? ⟨b, o + j * 4 + 2, none⟩ = some (.int .i64 x.2.2.1) ∧ w.cell? ⟨b, o + j * 4 + 3, none⟩ = some (.slice ax nx cx) ∧ nx ≤ cx ∧ cx ≤ 9223372036854775807 ∧ ListAt Shape.int I w ax nx x.2.2.2 := by
  obtain ⟨x, hx⟩ : ∃ x, l[j]? = some x := ⟨_, List.getElem?_eq_getElem (by rw [h.1]; exact hj)⟩
  obtain ⟨b, o, es, e, hb, hr, hs⟩ := h.2 j x hx
  obtain ⟨ax, nx, cx, rfl, h1, h2, h3⟩ := shOp_reads.1 hs
  refine ⟨b, o, x, ax, nx, cx, hx, e, hb, ?_, ?_, ?_, ?_, h1, h2, h3⟩
  · have := hr 0 _ rfl
    simpa [shOp_size] using this
  · have := hr 1 _ rfl
    simpa [shOp_size] using this
  · have := hr 2 _ rfl
    simpa [shOp_size] using this
  · have := hr 3 _ rfl
    simpa [shOp_size] using this
end Go.Proofs.Ytcooobnaocbdjaa

end

/-! YtcooobnaocbdjaaPQueM -/
section

namespace Go.Proofs.Ytcooobnaocbdjaa
open Go.RowKit
set_option linter.unusedVariables false

def itemOkB (x : dItem) : Bool := vecOkB x.2 && inB 0 4 x.1
def queueOkB (q : dQueue) : Bool := q.2.all itemOkB && (inB 1 5 q.1 && decide ((q.2.length : Int) ≤ q.1))
def pushB (q : dQueue) (x : dItem) : Bool := queueOkB q && (decide ((q.2.length : Int) < q.1) && itemOkB x)
def pushN (q : dQueue) (x : dItem) : dQueue := if pushB q x = true then (q.1, q.2 ++ [x]) else q
def popB (q : dQueue) : Bool := queueOkB q && decide (0 < q.2.length)
def popN (q : dQueue) : dQueue := if popB q = true then (q.1, q.2.drop 1) else q
def popX (q : dQueue) : dItem := if popB q = true then q.2.getD 0 (0, []) else (0, [])
/-- The numbers of the first items. -/
def numsTo (l : List dItem) : Nat → Nat
  | 0 => 0
  | k + 1 => numsTo l k + (l.getD k (0, [])).2.length
def queueWordsN (q : dQueue) : Int := if queueOkB q = true then (numsTo q.2 q.2.length : Int) else 0
/-- What one item reads as. -/
theorem item_at {I : Nat → Prop} {w : World} {a : Option Addr} {n : Nat} {l : List dItem} (h : ListAt shItem I w a n l) (j : Nat) (hj : j < n) :
    ∃ b o x ax nx cx, l[j]? = some x ∧ a = some ⟨b, o, none⟩ ∧ I b ∧ w.cell? ⟨b, o + j * 2, none⟩ = some (.int .i64 x.1) ∧ w.cell? ⟨b, o + j * 2 + 1, none⟩ = some (.slice ax nx cx) ∧ nx ≤ cx ∧ cx ≤ 9223372036854775807 ∧ ListAt Shape.int I w ax nx x.2 := by
  obtain ⟨x, hx⟩ : ∃ x, l[j]? = some x := ⟨_, List.getElem?_eq_getElem (by rw [h.1]; exact hj)⟩
  obtain ⟨b, o, es, e, hb, hr, hs⟩ := h.2 j x hx
  obtain ⟨ax, nx, cx, rfl, h1, h2, h3⟩ := shItem_reads.1 hs
  refine ⟨b, o, x, ax, nx, cx, hx, e, hb, ?_, ?_, h1, h2, h3⟩
  · have := hr 0 _ rfl
    simpa [shItem_size] using this
  · have := hr 1 _ rfl
    simpa [shItem_size] using this
end Go.Proofs.Ytcooobnaocbdjaa

end

/-! YtcooobnaocbdjaaPPipM -/
section

namespace Go.Proofs.Ytcooobnaocbdjaa
open Go.RowKit
set_option linter.unusedVariables false

abbrev batchP (p : dPipe) : List dPair := p.1
abbrev stagesP (p : dPipe) : List dStage := p.2.1
abbrev actsP (p : dPipe) : List dQueue := p.2.2.1
abbrev backsP (p : dPipe) : List dQueue := p.2.2.2
/-- How many instructions a stage has from Pc on. -/
def leftS (s : dStage) : Int := max 0 (wrap64 (((planS s).length : Int) - max 0 (pcS s)))
def leftA (l : List dStage) : Int := l.foldl (fun t s => wrap64 (t + leftS s)) 0
def leftN (p : dPipe) : Int := leftA (stagesP p)
def doneB (p : dPipe) : Bool := decide (0 < (stagesP p).length) && decide (leftN p = 0)
def stageAt (p : dPipe) (k : Nat) : dStage := (stagesP p).getD k zeroStage
/-- A stage's next instruction; the zero one where there is none. -/
def nextS (s : dStage) : dIns := if inB 0 (((planS s).length : Int) - 1) (pcS s) = true then (planS s).getD (pcS s).toNat (0, 0) else (0, 0)
def nextN (p : dPipe) (s : Int) : dIns := if inB 0 (((stagesP p).length : Int) - 1) s = true then nextS (stageAt p s.toNat) else (0, 0)
/-- Is a pipe right? -/
def insInB (m : Nat) (i : dIns) : Bool := inB 0 ((m : Int) - 1) i.2
def stageInB (n m k : Nat) (x : dStage) : Bool := stageOkB x && ((lastS x == decide (k + 1 = n)) && (planS x).all (insInB m))
def pairInB (x : dPair) : Bool := vecOkB x.1 && vecOkB x.2
def sizesInB (n a b m : Nat) : Bool := decide (1 ≤ n ∧ n ≤ 4 ∧ a + 1 = n ∧ b + 1 = n ∧ 1 ≤ m ∧ m ≤ 5)
def PipeOkP (p : dPipe) : Prop := (sizesInB (stagesP p).length (actsP p).length (backsP p).length (batchP p).length = true) ∧ (∀ (k : Nat) (x : dStage), (stagesP p)[k]? = some x → stageInB (stagesP p).length (batchP p).length k x = true) ∧
  (∀ (k : Nat) (q : dQueue), (actsP p)[k]? = some q → queueOkB q = true) ∧ (∀ (k : Nat) (q : dQueue), (backsP p)[k]? = some q → queueOkB q = true) ∧ ∀ (k : Nat) (x : dPair), (batchP p)[k]? = some x → pairInB x = true
def pipeOkB (p : dPipe) : Bool := sizesInB (stagesP p).length (actsP p).length (backsP p).length (batchP p).length && ((List.range (stagesP p).length).all (fun k => stageInB (stagesP p).length (batchP p).length k (stageAt p k)) &&
  ((actsP p).all queueOkB && ((backsP p).all queueOkB && (batchP p).all pairInB)))
/-- May stage s go on? -/
def itemsAt (l : List dQueue) (k : Int) : Int := ((l.getD k.toNat (0, [])).2.length : Int)
def capAt (l : List dQueue) (k : Int) : Int := (l.getD k.toNat (0, [])).1
def someB (l : List dQueue) (k : Int) : Bool := decide (0 ≤ k ∧ k < (l.length : Int)) && decide (0 < itemsAt l k)
def roomB (l : List dQueue) (k : Int) : Bool := decide (0 ≤ k ∧ k < (l.length : Int)) && decide (itemsAt l k < capAt l k)
def flushB (l : List dStage) : Bool := l.all (fun x => decide (leftS x ≤ 1))
def mayB (p : dPipe) (s : Int) : Bool :=
  if (nextN p s).1 = 1 then someB (actsP p) (s - 1) else if (nextN p s).1 = 2 then true else if (nextN p s).1 = 3 then roomB (actsP p) s else if (nextN p s).1 = 4 then someB (backsP p) s
  else if (nextN p s).1 = 5 then true else if (nextN p s).1 = 6 then true else if (nextN p s).1 = 7 then roomB (backsP p) (s - 1) else if (nextN p s).1 = 8 then flushB (stagesP p) else false
def enabledB (p : dPipe) (s : Int) : Bool := pipeOkB p && mayB p s
/-- Are two pipes alike? -/
instance decGrads : DecidableEq dGrads := inferInstance
instance decRows : DecidableEq (List dRow) := inferInstance
instance decSaved : DecidableEq (List dSaved) := inferInstance
instance decIns : DecidableEq (List dIns) := inferInstance
instance decOps : DecidableEq (List dOp) := inferInstance
instance decS0 : DecidableEq (List Int × dGrads) := instDecidableEqProd
instance decS1 : DecidableEq (List Int × List Int × dGrads) := instDecidableEqProd
instance decS2 : DecidableEq (List Int × List Int × List Int × dGrads) := instDecidableEqProd
instance decS3 : DecidableEq (List Int × List Int × List Int × List Int × dGrads) := instDecidableEqProd
instance decS4 : DecidableEq (List dRow × List Int × List Int × List Int × List Int × dGrads) := instDecidableEqProd
instance decS5 : DecidableEq (List dSaved × List dRow × List Int × List Int × List Int × List Int × dGrads) := instDecidableEqProd
instance decS6 : DecidableEq (Bool × List dSaved × List dRow × List Int × List Int × List Int × List Int × dGrads) := instDecidableEqProd
instance decS7 : DecidableEq (Bool × Bool × List dSaved × List dRow × List Int × List Int × List Int × List Int × dGrads) := instDecidableEqProd
instance decS8 : DecidableEq (List dOp × Bool × Bool × List dSaved × List dRow × List Int × List Int × List Int × List Int × dGrads) := instDecidableEqProd
instance decS9 : DecidableEq (List dIns × List dOp × Bool × Bool × List dSaved × List dRow × List Int × List Int × List Int × List Int × dGrads) := instDecidableEqProd
instance decS10 : DecidableEq (Int × List dIns × List dOp × Bool × Bool × List dSaved × List dRow × List Int × List Int × List Int × List Int × dGrads) := instDecidableEqProd
instance decStage : DecidableEq dStage := decS10
instance decPairs : DecidableEq (List dPair) := inferInstance
instance decQueues : DecidableEq (List dQueue) := inferInstance
instance decStages : DecidableEq (List dStage) := instDecidableEqList
instance decPq : DecidableEq (List dQueue × List dQueue) := instDecidableEqProd
instance decPs : DecidableEq (List dStage × List dQueue × List dQueue) := instDecidableEqProd
instance decPipe : DecidableEq dPipe := instDecidableEqProd
def samePipeB (p q : dPipe) : Bool := decide (p = q)
end Go.Proofs.Ytcooobnaocbdjaa

end
