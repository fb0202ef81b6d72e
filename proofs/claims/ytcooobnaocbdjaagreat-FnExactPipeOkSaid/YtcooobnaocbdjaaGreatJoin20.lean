import Derived.Test.YtcooobnaocbdjaaGreatJoin10
import Derived.Test.YtcooobnaocbdjaaGreatJoin19
import Derived.Test.YtcooobnaocbdjaaGreatJoin7
import Derived.Test.YtcooobnaocbdjaaGreatJoin13
/-! YtcooobnaocbdjaaGreatPStgM -/
section

namespace Go.Proofs.YtcooobnaocbdjaaGreat
open Go.RowKit
set_option linter.unusedVariables false

abbrev pcS (s : dStage) : Int := s.1
abbrev planS (s : dStage) : List dIns := s.2.1
abbrev opsS (s : dStage) : List dOp := s.2.2.1
abbrev lastS (s : dStage) : Bool := s.2.2.2.1
abbrev redoS (s : dStage) : Bool := s.2.2.2.2.1
abbrev stashS (s : dStage) : List dSaved := s.2.2.2.2.2.1
abbrev fullS (s : dStage) : List dRow := s.2.2.2.2.2.2.1
abbrev xS (s : dStage) : List Int := s.2.2.2.2.2.2.2.1
abbrev yS (s : dStage) : List Int := s.2.2.2.2.2.2.2.2.1
abbrev gS (s : dStage) : List Int := s.2.2.2.2.2.2.2.2.2.1
abbrev dS (s : dStage) : List Int := s.2.2.2.2.2.2.2.2.2.2.1
abbrev sumS (s : dStage) : dGrads := s.2.2.2.2.2.2.2.2.2.2.2
/-- The first that is saved of m. -/
def findN (l : List dSaved) (m : Int) : Int := match l.findIdx? (fun x => decide (x.1 = m)) with
  | some k => (k : Int)
  | none => -1
/-- Nothing, or a right vector of so many. -/
def handB (v : List Int) (n : Int) : Bool := decide (v.length = 0) || (vecOkB v && decide ((v.length : Int) = n))
/-- How many numbers rows have. -/
def wordsR (l : List dRow) : Nat := Shape.sum (fun (r : dRow) => r.length) l
def wordsH (l : List dSaved) : Nat := Shape.sum (fun (x : dSaved) => wordsR x.2) l
def ledgerN (s : dStage) : Int := (((xS s).length + (yS s).length + (gS s).length + (dS s).length + wordsH (stashS s) + wordsR (fullS s) : Nat) : Int)
/-- Are rows what a stage has saved? -/
def savedRowB (ops : List dOp) (r : List dRow) (i : Nat) : Bool := vecOkB (rowAt r i) && decide (((rowAt r i).length : Int) = if i = 0 then (opAt ops 0).2.1 else (opAt ops (i - 1)).2.2.1)
def savedB (redo : Bool) (ops : List dOp) (x : dSaved) : Bool := decide (x.2.length = if redo = true then 1 else ops.length + 1) && (List.range x.2.length).all (savedRowB ops x.2)
def sumRowB (s : dStage) (i : Nat) : Bool := decide ((rowAt (sumS s).1 i).length = (opAt (opsS s) i).2.2.2.length)
def stageOkB (s : dStage) : Bool :=
  modelOkB (opsS s) && inB 0 ((planS s).length : Int) (pcS s) && decide ((sumS s).1.length = (opsS s).length) && (List.range (opsS s).length).all (sumRowB s) && (stashS s).all (savedB (redoS s) (opsS s)) &&
    (handB (xS s) (inOfN (opsS s)) && handB (yS s) (outOfN (opsS s)) && handB (gS s) (outOfN (opsS s)) && handB (dS s) (inOfN (opsS s)))
theorem stageOk_model {s : dStage} (h : modelOkB (opsS s) = false) : stageOkB s = false := by unfold stageOkB; rw [h]; simp
theorem stageOk_pc {s : dStage} (h : inB 0 ((planS s).length : Int) (pcS s) = false) : stageOkB s = false := by unfold stageOkB; rw [h]; simp
theorem stageOk_rows {s : dStage} (h : (sumS s).1.length ≠ (opsS s).length) : stageOkB s = false := by unfold stageOkB; rw [decide_eq_false h]; simp
theorem stageOk_row {s : dStage} {k : Nat} (hk : k < (opsS s).length) (h : sumRowB s k = false) : stageOkB s = false := by unfold stageOkB; rw [range_some hk h]; simp
theorem stageOk_saved {s : dStage} {k : Nat} {x : dSaved} (hx : (stashS s)[k]? = some x) (h : savedB (redoS s) (opsS s) x = false) : stageOkB s = false := by
  unfold stageOkB
  have : (stashS s).all (savedB (redoS s) (opsS s)) = false := by
    rw [List.all_eq_false]
    exact ⟨x, List.mem_of_getElem? hx, by rw [h]; simp⟩
  rw [this]
  simp
/-- The four hands of a stage. -/
def handsB (s : dStage) : Bool := handB (xS s) (inOfN (opsS s)) && handB (yS s) (outOfN (opsS s)) && handB (gS s) (outOfN (opsS s)) && handB (dS s) (inOfN (opsS s))
theorem stageOk_hands {s : dStage} (h1 : modelOkB (opsS s) = true) (h2 : inB 0 ((planS s).length : Int) (pcS s) = true) (h3 : (sumS s).1.length = (opsS s).length) (h4 : ∀ j, j < (opsS s).length → sumRowB s j = true)
    (h5 : ∀ (j : Nat) (x : dSaved), (stashS s)[j]? = some x → savedB (redoS s) (opsS s) x = true) : stageOkB s = handsB s := by
  unfold stageOkB handsB
  have h6 : (stashS s).all (savedB (redoS s) (opsS s)) = true := by
    rw [List.all_eq_true]
    intro x hx
    obtain ⟨j, hj⟩ := List.mem_iff_getElem?.1 hx
    exact h5 j x hj
  rw [h1, h2, decide_eq_true h3, range_all h4, h6]
  simp
theorem saved_len {redo : Bool} {ops : List dOp} {x : dSaved} (h : x.2.length ≠ if redo = true then 1 else ops.length + 1) : savedB redo ops x = false := by unfold savedB; rw [decide_eq_false h]; rfl
theorem saved_row {redo : Bool} {ops : List dOp} {x : dSaved} {k : Nat} (hk : k < x.2.length) (h : savedRowB ops x.2 k = false) : savedB redo ops x = false := by unfold savedB; rw [range_some hk h]; simp
theorem saved_all {redo : Bool} {ops : List dOp} {x : dSaved} (h0 : x.2.length = if redo = true then 1 else ops.length + 1) (h : ∀ j, j < x.2.length → savedRowB ops x.2 j = true) : savedB redo ops x = true := by unfold savedB; rw [decide_eq_true h0, range_all h]; rfl
theorem savedRow_zero {ops : List dOp} {r : List dRow} {y : dRow} (hy : r[0]? = some y) : savedRowB ops r 0 = (vecOkB y && decide ((y.length : Int) = (opAt ops 0).2.1)) := by
  unfold savedRowB
  rw [rowAt_get hy]
  simp
theorem savedRow_next {ops : List dOp} {r : List dRow} {y : dRow} {k : Nat} {o : dOp} (hy : r[k + 1]? = some y) (ho : ops[k]? = some o) : savedRowB ops r (k + 1) = (vecOkB y && decide ((y.length : Int) = o.2.2.1)) := by
  unfold savedRowB
  rw [rowAt_get hy, if_neg (by omega), Nat.add_sub_cancel, opAt_get ho]
def zeroStage : dStage := (0, [], [], false, false, [], [], [], [], [], [], ([], 0, false))
def newN (ops : List dOp) (plan : List dIns) (last redo : Bool) : dStage := if modelOkB ops = true then (0, plan, ops, last, redo, [], [], [], [], [], [], zeroG ops) else zeroStage
/-- What one row reads as. -/
theorem row_at {I : Nat → Prop} {w : World} {a : Option Addr} {n : Nat} {l : List dRow} (h : ListAt shRow I w a n l) (j : Nat) (hj : j < n) :
    ∃ b o x ax nx cx, l[j]? = some x ∧ a = some ⟨b, o, none⟩ ∧ I b ∧ w.cell? ⟨b, o + j, none⟩ = some (.slice ax nx cx) ∧ nx ≤ cx ∧ cx ≤ 9223372036854775807 ∧ ListAt Shape.int I w ax nx x := by
  obtain ⟨x, hx⟩ : ∃ x, l[j]? = some x := ⟨_, List.getElem?_eq_getElem (by rw [h.1]; exact hj)⟩
  obtain ⟨b, o, es, e, hb, hr, hs⟩ := h.2 j x hx
  obtain ⟨ax, nx, cx, rfl, h1, h2, h3⟩ := shRow_reads.1 hs
  refine ⟨b, o, x, ax, nx, cx, hx, e, hb, ?_, h1, h2, h3⟩
  have := hr 0 _ rfl
  simpa [shRow_size] using this
/-- What one that is saved reads as. -/
theorem saved_at {I : Nat → Prop} {w : World} {a : Option Addr} {n : Nat} {l : List dSaved} (h : ListAt shSaved I w a n l) (j : Nat) (hj : j < n) :
    ∃ b o x ax nx cx, l[j]? = some x ∧ a = some ⟨b, o, none⟩ ∧ I b ∧ w.cell? ⟨b, o + j * 2, none⟩ = some (.int .i64 x.1) ∧ w.cell? ⟨b, o + j * 2 + 1, none⟩ = some (.slice ax nx cx) ∧ nx ≤ cx ∧ cx ≤ 9223372036854775807 ∧ ListAt shRow I w ax nx x.2 := by
  obtain ⟨x, hx⟩ : ∃ x, l[j]? = some x := ⟨_, List.getElem?_eq_getElem (by rw [h.1]; exact hj)⟩
  obtain ⟨b, o, es, e, hb, hr, hs⟩ := h.2 j x hx
  obtain ⟨ax, nx, cx, rfl, h1, h2, h3⟩ := shSaved_reads.1 hs
  refine ⟨b, o, x, ax, nx, cx, hx, e, hb, ?_, ?_, h1, h2, h3⟩
  · have := hr 0 _ rfl
    simpa [shSaved_size] using this
  · have := hr 1 _ rfl
    simpa [shSaved_size] using this
/-- What one operation reads as. -/
theorem op_at {I : Nat → Prop} {w : World} {a : Option Addr} {n : Nat} {l : List dOp} (h : ListAt shOp I w a n l) (j : Nat) (hj : j < n) :
    ∃ b o x ax nx cx, l[j]? = some x ∧ a = some ⟨b, o, none⟩ ∧ I b ∧ w.cell? ⟨b, o + j * 4, none⟩ = some (.int .i64 x.1) ∧ w.cell? ⟨b, o + j * 4 + 1, none⟩ = some (.int .i64 x.2.1) ∧ w.cell? ⟨b, o + j * 4 + 2, none⟩ = some (.int .i64 x.2.2.1) ∧ w.cell? ⟨b, o + j * 4 + 3, none⟩ = some (.slice ax nx cx) ∧ nx ≤ cx ∧ cx ≤ 9223372036854775807 ∧ ListAt Shape.int I w ax nx x.2.2.2 := by
  obtain ⟨x, hx⟩ : ∃ x, l[j]? = some x := ⟨_, List.getElem?_eq_getElem (by rw [h.1]; exact hj)⟩
  obtain ⟨b, o, es, e, hb, hr, hs⟩ := h.2 j x hx
  obtain ⟨ax, nx, cx, rfl, h1, h2, h3⟩ := shOp_reads.1 hs
  refine ⟨b, o, x, ax, nx, cx, hx, e, hb, ?_, ?_, ?_, ?_, h1, h2, h3⟩
  · have := hr 0 _ rfl
    simpa [shOp_size] using this
  · have := hr 1 _ rfl
    simpa [shOp_size] using this
  · have := hr 2 _ rfl
    simpa [shOp_size] using this
  · have := hr 3 _ rfl
    simpa [shOp_size] using this
end Go.Proofs.YtcooobnaocbdjaaGreat

end

/-! YtcooobnaocbdjaaGreatPQueM -/
section

namespace Go.Proofs.YtcooobnaocbdjaaGreat
open Go.RowKit
set_option linter.unusedVariables false

def itemOkB (x : dItem) : Bool := vecOkB x.2 && inB 0 4 x.1
def queueOkB (q : dQueue) : Bool := q.2.all itemOkB && (inB 1 5 q.1 && decide ((q.2.length : Int) ≤ q.1))
theorem queueOk_has {q : dQueue} (h : queueOkB q = true) : (∀ x ∈ q.2, itemOkB x = true) ∧ 1 ≤ q.1 ∧ q.1 ≤ 5 ∧ (q.2.length : Int) ≤ q.1 := by
  unfold queueOkB inB at h
  simp only [Bool.and_eq_true, List.all_eq_true, decide_eq_true_eq] at h
  exact ⟨h.1, h.2.1.1, h.2.1.2, h.2.2⟩
theorem queueOk_at {q : dQueue} {j : Nat} {x : dItem} (hx : q.2[j]? = some x) (h : itemOkB x = false) : queueOkB q = false := by
  unfold queueOkB
  have : q.2.all itemOkB = false := by
    rw [List.all_eq_false]
    exact ⟨x, List.mem_of_getElem? hx, by rw [h]; simp⟩
  rw [this]
  rfl
theorem queueOk_all {q : dQueue} (h : ∀ (j : Nat) (x : dItem), q.2[j]? = some x → itemOkB x = true) : queueOkB q = (inB 1 5 q.1 && decide ((q.2.length : Int) ≤ q.1)) := by
  unfold queueOkB
  have : q.2.all itemOkB = true := by
    rw [List.all_eq_true]
    intro x hx
    obtain ⟨j, hj⟩ := List.mem_iff_getElem?.1 hx
    exact h j x hj
  rw [this]
  rfl
def pushB (q : dQueue) (x : dItem) : Bool := queueOkB q && (decide ((q.2.length : Int) < q.1) && itemOkB x)
def pushN (q : dQueue) (x : dItem) : dQueue := if pushB q x = true then (q.1, q.2 ++ [x]) else q
def popB (q : dQueue) : Bool := queueOkB q && decide (0 < q.2.length)
def popN (q : dQueue) : dQueue := if popB q = true then (q.1, q.2.drop 1) else q
def popX (q : dQueue) : dItem := if popB q = true then q.2.getD 0 (0, []) else (0, [])
/-- The numbers of the first items. -/
def numsTo (l : List dItem) : Nat → Nat
  | 0 => 0
  | k + 1 => numsTo l k + (l.getD k (0, [])).2.length
def queueWordsN (q : dQueue) : Int := if queueOkB q = true then (numsTo q.2 q.2.length : Int) else 0
/-- What one item reads as. -/
theorem item_at {I : Nat → Prop} {w : World} {a : Option Addr} {n : Nat} {l : List dItem} (h : ListAt shItem I w a n l) (j : Nat) (hj : j < n) :
    ∃ b o x ax nx cx, l[j]? = some x ∧ a = some ⟨b, o, none⟩ ∧ I b ∧ w.cell? ⟨b, o + j * 2, none⟩ = some (.int .i64 x.1) ∧ w.cell? ⟨b, o + j * 2 + 1, none⟩ = some (.slice ax nx cx) ∧ nx ≤ cx ∧ cx ≤ 9223372036854775807 ∧ ListAt Shape.int I w ax nx x.2 := by
  obtain ⟨x, hx⟩ : ∃ x, l[j]? = some x := ⟨_, List.getElem?_eq_getElem (by rw [h.1]; exact hj)⟩
  obtain ⟨b, o, es, e, hb, hr, hs⟩ := h.2 j x hx
  obtain ⟨ax, nx, cx, rfl, h1, h2, h3⟩ := shItem_reads.1 hs
  refine ⟨b, o, x, ax, nx, cx, hx, e, hb, ?_, ?_, h1, h2, h3⟩
  · have := hr 0 _ rfl
    simpa [shItem_size] using this
  · have := hr 1 _ rfl
    simpa [shItem_size] using this
end Go.Proofs.YtcooobnaocbdjaaGreat

end
