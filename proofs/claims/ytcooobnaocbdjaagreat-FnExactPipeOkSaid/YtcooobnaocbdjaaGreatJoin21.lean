import Derived.Test.YtcooobnaocbdjaaGreatJoin11
import Derived.Test.YtcooobnaocbdjaaGreatJoin20
import Derived.Lib.QuietBelow
import Derived.Deep.QuietTactic
import Derived.Deep.RegionLaw
import Derived.BigQuiet
/-! YtcooobnaocbdjaaGreatPPipM -/
section

namespace Go.Proofs.YtcooobnaocbdjaaGreat
open Go.RowKit
set_option linter.unusedVariables false

abbrev batchP (p : dPipe) : List dPair := p.1
abbrev stagesP (p : dPipe) : List dStage := p.2.1
abbrev actsP (p : dPipe) : List dQueue := p.2.2.1
abbrev backsP (p : dPipe) : List dQueue := p.2.2.2
/-- How many instructions a stage has from Pc on. -/
def leftS (s : dStage) : Int := max 0 (wrap64 (((planS s).length : Int) - max 0 (pcS s)))
def leftA (l : List dStage) : Int := l.foldl (fun t s => wrap64 (t + leftS s)) 0
def leftN (p : dPipe) : Int := leftA (stagesP p)
def doneB (p : dPipe) : Bool := decide (0 < (stagesP p).length) && decide (leftN p = 0)
def stageAt (p : dPipe) (k : Nat) : dStage := (stagesP p).getD k zeroStage
theorem stageAt_get {p : dPipe} {k : Nat} {x : dStage} (hx : (stagesP p)[k]? = some x) : stageAt p k = x := by unfold stageAt; rw [List.getD_eq_getElem?_getD, hx]; rfl
/-- A stage's next instruction; the zero one where there is none. -/
def nextS (s : dStage) : dIns := if inB 0 (((planS s).length : Int) - 1) (pcS s) = true then (planS s).getD (pcS s).toNat (0, 0) else (0, 0)
def nextN (p : dPipe) (s : Int) : dIns := if inB 0 (((stagesP p).length : Int) - 1) s = true then nextS (stageAt p s.toNat) else (0, 0)
/-- Is a pipe right? -/
def insInB (m : Nat) (i : dIns) : Bool := inB 0 ((m : Int) - 1) i.2
def stageInB (n m k : Nat) (x : dStage) : Bool := stageOkB x && ((lastS x == decide (k + 1 = n)) && (planS x).all (insInB m))
def pairInB (x : dPair) : Bool := vecOkB x.1 && vecOkB x.2
def sizesInB (n a b m : Nat) : Bool := decide (1 ≤ n ∧ n ≤ 4 ∧ a + 1 = n ∧ b + 1 = n ∧ 1 ≤ m ∧ m ≤ 5)
def PipeOkP (p : dPipe) : Prop := (sizesInB (stagesP p).length (actsP p).length (backsP p).length (batchP p).length = true) ∧ (∀ (k : Nat) (x : dStage), (stagesP p)[k]? = some x → stageInB (stagesP p).length (batchP p).length k x = true) ∧
  (∀ (k : Nat) (q : dQueue), (actsP p)[k]? = some q → queueOkB q = true) ∧ (∀ (k : Nat) (q : dQueue), (backsP p)[k]? = some q → queueOkB q = true) ∧ ∀ (k : Nat) (x : dPair), (batchP p)[k]? = some x → pairInB x = true
def pipeOkB (p : dPipe) : Bool := sizesInB (stagesP p).length (actsP p).length (backsP p).length (batchP p).length && ((List.range (stagesP p).length).all (fun k => stageInB (stagesP p).length (batchP p).length k (stageAt p k)) &&
  ((actsP p).all queueOkB && ((backsP p).all queueOkB && (batchP p).all pairInB)))
theorem all_get {α : Type} {l : List α} {f : α → Bool} : l.all f = true ↔ ∀ (k : Nat) (x : α), l[k]? = some x → f x = true := by
  rw [List.all_eq_true]
  constructor
  · intro h k x hx
    exact h x (List.mem_of_getElem? hx)
  · intro h x hx
    obtain ⟨j, hj⟩ := List.mem_iff_getElem?.1 hx
    exact h j x hj
theorem pipeOk_iff (p : dPipe) : pipeOkB p = true ↔ PipeOkP p := by
  unfold pipeOkB PipeOkP
  simp only [Bool.and_eq_true, all_get]
  constructor
  · rintro ⟨h1, h2, h3, h4, h5⟩
    refine ⟨h1, fun k x hx => ?_, h3, h4, h5⟩
    have hk := (List.getElem?_eq_some_iff.1 hx).1
    have := h2 k k (List.getElem?_range hk)
    rwa [stageAt_get hx] at this
  · rintro ⟨h1, h2, h3, h4, h5⟩
    refine ⟨h1, fun k x hx => ?_, h3, h4, h5⟩
    obtain ⟨hk, e⟩ := List.getElem?_eq_some_iff.1 hx
    rw [List.getElem_range] at e
    subst e
    rw [List.length_range] at hk
    obtain ⟨y, hy⟩ : ∃ y, (stagesP p)[k]? = some y := ⟨_, List.getElem?_eq_getElem hk⟩
    rw [stageAt_get hy]
    exact h2 k y hy
theorem stageIn_has {n m k : Nat} {x : dStage} (h : stageInB n m k x = true) : stageOkB x = true ∧ lastS x = decide (k + 1 = n) ∧ ∀ i ∈ planS x, 0 ≤ i.2 ∧ i.2 < (m : Int) := by
  unfold stageInB at h
  rw [Bool.and_eq_true, Bool.and_eq_true, beq_iff_eq, List.all_eq_true] at h
  refine ⟨h.1, h.2.1, fun i hi => ?_⟩
  have := h.2.2 i hi
  unfold insInB inB at this
  have := of_decide_eq_true this
  omega
/-- May stage s go on? -/
def itemsAt (l : List dQueue) (k : Int) : Int := ((l.getD k.toNat (0, [])).2.length : Int)
def capAt (l : List dQueue) (k : Int) : Int := (l.getD k.toNat (0, [])).1
def someB (l : List dQueue) (k : Int) : Bool := decide (0 ≤ k ∧ k < (l.length : Int)) && decide (0 < itemsAt l k)
def roomB (l : List dQueue) (k : Int) : Bool := decide (0 ≤ k ∧ k < (l.length : Int)) && decide (itemsAt l k < capAt l k)
def flushB (l : List dStage) : Bool := l.all (fun x => decide (leftS x ≤ 1))
def mayB (p : dPipe) (s : Int) : Bool :=
  if (nextN p s).1 = 1 then someB (actsP p) (s - 1) else if (nextN p s).1 = 2 then true else if (nextN p s).1 = 3 then roomB (actsP p) s else if (nextN p s).1 = 4 then someB (backsP p) s
  else if (nextN p s).1 = 5 then true else if (nextN p s).1 = 6 then true else if (nextN p s).1 = 7 then roomB (backsP p) (s - 1) else if (nextN p s).1 = 8 then flushB (stagesP p) else false
def enabledB (p : dPipe) (s : Int) : Bool := pipeOkB p && mayB p s
/-- Are two pipes alike? -/
instance decGrads : DecidableEq dGrads := inferInstance
instance decRows : DecidableEq (List dRow) := inferInstance
instance decSaved : DecidableEq (List dSaved) := inferInstance
instance decIns : DecidableEq (List dIns) := inferInstance
instance decOps : DecidableEq (List dOp) := inferInstance
instance decS0 : DecidableEq (List Int × dGrads) := instDecidableEqProd
instance decS1 : DecidableEq (List Int × List Int × dGrads) := instDecidableEqProd
instance decS2 : DecidableEq (List Int × List Int × List Int × dGrads) := instDecidableEqProd
instance decS3 : DecidableEq (List Int × List Int × List Int × List Int × dGrads) := instDecidableEqProd
instance decS4 : DecidableEq (List dRow × List Int × List Int × List Int × List Int × dGrads) := instDecidableEqProd
instance decS5 : DecidableEq (List dSaved × List dRow × List Int × List Int × List Int × List Int × dGrads) := instDecidableEqProd
instance decS6 : DecidableEq (Bool × List dSaved × List dRow × List Int × List Int × List Int × List Int × dGrads) := instDecidableEqProd
instance decS7 : DecidableEq (Bool × Bool × List dSaved × List dRow × List Int × List Int × List Int × List Int × dGrads) := instDecidableEqProd
instance decS8 : DecidableEq (List dOp × Bool × Bool × List dSaved × List dRow × List Int × List Int × List Int × List Int × dGrads) := instDecidableEqProd
instance decS9 : DecidableEq (List dIns × List dOp × Bool × Bool × List dSaved × List dRow × List Int × List Int × List Int × List Int × dGrads) := instDecidableEqProd
instance decS10 : DecidableEq (Int × List dIns × List dOp × Bool × Bool × List dSaved × List dRow × List Int × List Int × List Int × List Int × dGrads) := instDecidableEqProd
instance decStage : DecidableEq dStage := decS10
instance decPairs : DecidableEq (List dPair) := inferInstance
instance decQueues : DecidableEq (List dQueue) := inferInstance
instance decStages : DecidableEq (List dStage) := instDecidableEqList
instance decPq : DecidableEq (List dQueue × List dQueue) := instDecidableEqProd
instance decPs : DecidableEq (List dStage × List dQueue × List dQueue) := instDecidableEqProd
instance decPipe : DecidableEq dPipe := instDecidableEqProd
def samePipeB (p q : dPipe) : Bool := decide (p = q)
end Go.Proofs.YtcooobnaocbdjaaGreat

end

/-! YtcooobnaocbdjaaGreatPPipS -/
section

namespace Go.Proofs.YtcooobnaocbdjaaGreat
open Go.RowKit Go.Sort
set_option linter.unusedVariables false
set_option linter.unusedSimpArgs false

theorem pipe_in {w : World} {es : List Value} {p : dPipe} (h : shPipe.reads (Under w.heap.size) w es p) (hb : shPipe.bulk p ≤ 1048576) :
    ∃ a0 n0 c0 a1 n1 c1 a2 n2 c2 a3 n3 c3, es = [.slice a0 n0 c0, .slice a1 n1 c1, .slice a2 n2 c2, .slice a3 n3 c3] ∧
      (n0 ≤ 1048576 ∧ ListAt shPair (Under w.heap.size) w a0 n0 (batchP p) ∧ Shape.sum shPair.bulk (batchP p) ≤ 1048576) ∧
      (n1 ≤ 1048576 ∧ ListAt shStage (Under w.heap.size) w a1 n1 (stagesP p) ∧ Shape.sum shStage.bulk (stagesP p) ≤ 1048576) ∧
      (n2 ≤ 1048576 ∧ ListAt shQueue (Under w.heap.size) w a2 n2 (actsP p) ∧ Shape.sum shQueue.bulk (actsP p) ≤ 1048576) ∧
      (n3 ≤ 1048576 ∧ ListAt shQueue (Under w.heap.size) w a3 n3 (backsP p) ∧ Shape.sum shQueue.bulk (backsP p) ≤ 1048576) := by
  obtain ⟨a0, n0, c0, a1, n1, c1, a2, n2, c2, a3, n3, c3, rfl, ⟨p0, q0, l0⟩, ⟨p1, q1, l1⟩, ⟨p2, q2, l2⟩, ⟨p3, q3, l3⟩⟩ := shPipe_reads.1 h
  rw [shPipe_bulk, bulk_list shPair l0, bulk_list shStage l1, bulk_list shQueue l2, bulk_list shQueue l3] at hb
  exact ⟨_, _, _, _, _, _, _, _, _, _, _, _, rfl, ⟨by omega, l0, by show Shape.sum _ p.1 ≤ _; omega⟩, ⟨by omega, l1, by show Shape.sum _ p.2.1 ≤ _; omega⟩, ⟨by omega, l2, by show Shape.sum _ p.2.2.1 ≤ _; omega⟩, ⟨by omega, l3, by show Shape.sum _ p.2.2.2 ≤ _; omega⟩⟩
theorem boxp {w : World} {g : Nat} {x0 x1 x2 x3 : Value} {T : TypeId} (h : w.heap[g]? = some (.cells #[x0, x1, x2, x3] T (0, 0))) :
    w.cell? ⟨g, 0, none⟩ = some x0 ∧ w.cell? ⟨g, 1, none⟩ = some x1 ∧ w.cell? ⟨g, 2, none⟩ = some x2 ∧ w.cell? ⟨g, 3, none⟩ = some x3 :=
  ⟨by rw [cell_of_row _ _ _ _ _ _ h]; rfl, by rw [cell_of_row _ _ _ _ _ _ h]; rfl, by rw [cell_of_row _ _ _ _ _ _ h]; rfl, by rw [cell_of_row _ _ _ _ _ _ h]; rfl⟩
theorem boxi {w : World} {g : Nat} {x y : Value} {T : TypeId} (h : w.heap[g]? = some (.cells #[x, y] T (0, 0))) : w.cell? ⟨g, 0, none⟩ = some x ∧ w.cell? ⟨g, 1, none⟩ = some y := by
  refine ⟨?_, ?_⟩ <;> rw [cell_of_row _ _ _ _ _ _ h] <;> rfl
theorem below_drewN {B : Nat} {w w' : World} (h : Below B w w') (n : Nat) : Below B w (w'.drewN n) := h.trans ⟨rfl, rfl, rfl, Nat.le_refl _, fun _ _ => rfl⟩
end Go.Proofs.YtcooobnaocbdjaaGreat

end
