import Derived.Test.YtpnifgpmleaohaaGreatDoorJoin24
import Derived.Test.YtpnifgpmleaohaaGreatDoorJoin34
import Derived.Test.YtpnifgpmleaohaaGreatDoorJoin14
import Derived.Test.YtpnifgpmleaohaaGreatDoorJoin6
import Derived.Deep.QuietTactic
import Derived.BigQuiet
/-! YtpnifgpmleaohaaGreatDoorZSeqG -/
section

namespace Go.Proofs.YtpnifgpmleaohaaGreatDoor
open Go.RowKit Go.Sort
set_option linter.unusedVariables false

theorem batch_one {m : List dOp} {p : dPair} (h : batchOkB m [p] = true) : modelOkB m = true ∧ 1 ≤ p.1.length ∧ p.1.length ≤ 6 ∧ p.2.length ≤ 6 := by
  unfold batchOkB pairOkB at h
  simp only [Bool.and_eq_true, List.all_cons, List.all_nil, and_true] at h
  have h1 := h.2.1.1.1
  have h2 := h.2.1.1.2
  unfold vecOkB at h1 h2
  simp only [Bool.and_eq_true, decide_eq_true_eq] at h1 h2
  exact ⟨h.1.1, h1.1.1, h1.1.2, h2.1.2⟩
end Go.Proofs.YtpnifgpmleaohaaGreatDoor

end

/-! YtpnifgpmleaohaaGreatDoorZSeqA -/
section

namespace Go.Proofs.YtpnifgpmleaohaaGreatDoor
open Go.RowKit Go.Sort
set_option linter.unusedVariables false

/-- Four boxes that a call lays ahead. -/
structure Four (w wr : World) (A B Z O : Array Value) (TA TB T : TypeId) : Prop where
  below : Below w.heap.size w wr
  size : w.heap.size + 4 ≤ wr.heap.size
  a : wr.heap[w.heap.size]? = some (.cells A TA (0, 0))
  b : wr.heap[w.heap.size + 1]? = some (.cells B TB (0, 0))
  z : wr.heap[w.heap.size + 1 + 1]? = some (.cells Z T (0, 0))
  o : wr.heap[w.heap.size + 1 + 1 + 1]? = some (.cells O T (0, 0))
theorem Four.start (w : World) (A B Z O : Array Value) (TA TB T : TypeId) : Four w ((((w.alloc (.cells A TA (0, 0))).alloc (.cells B TB (0, 0))).alloc (.cells Z T (0, 0))).alloc (.cells O T (0, 0))) A B Z O TA TB T where
  below := ((((Below.refl _ _).alloc (Nat.le_refl _) _).alloc (by simp) _).alloc (by simp; omega) _).alloc (by simp; omega) _
  size := by simp
  a := by
    rw [Below.heap_alloc _ _ _ (by simp; try omega), Below.heap_alloc _ _ _ (by simp; try omega), Below.heap_alloc _ _ _ (by simp)]
    exact heap_alloc_new w _
  b := by
    rw [Below.heap_alloc _ _ _ (by simp; try omega), Below.heap_alloc _ _ _ (by simp)]
    have := heap_alloc_new (w.alloc (.cells A TA (0, 0))) (.cells B TB (0, 0))
    simpa using this
  z := by
    rw [Below.heap_alloc _ _ _ (by simp)]
    have := heap_alloc_new ((w.alloc (.cells A TA (0, 0))).alloc (.cells B TB (0, 0))) (.cells Z T (0, 0))
    simpa using this
  o := by
    have := heap_alloc_new (((w.alloc (.cells A TA (0, 0))).alloc (.cells B TB (0, 0))).alloc (.cells Z T (0, 0))) (.cells O T (0, 0))
    simpa using this
theorem Four.far {w w1 w4 : World} {A B Z O : Array Value} {TA TB T : TypeId} (h : Four w w1 A B Z O TA TB T) (hb : Below (w.heap.size + 4) w1 w4) : Four w w4 A B Z O TA TB T :=
  ⟨h.below.trans (hb.mono (by omega)), Nat.le_trans h.size hb.size, (hb.block _ (by omega)).trans h.a, (hb.block _ (by omega)).trans h.b, (hb.block _ (by omega)).trans h.z, (hb.block _ (by omega)).trans h.o⟩
theorem Four.call {w w1 w4 : World} {A B Z O : Array Value} {TA TB T : TypeId} (h : Four w w1 A B Z O TA TB T) (hb : Below w1.heap.size w1 w4) : Four w w4 A B Z O TA TB T := h.far (hb.mono h.size)
theorem Four.store {w wr : World} {A B Z O : Array Value} {TA TB T : TypeId} (h : Four w wr A B Z O TA TB T) (i : Nat) (v : Value) : Four w (wr.setCell ⟨w.heap.size + 1 + 1 + 1, i, none⟩ v) A B Z (O.setIfInBounds i v) TA TB T :=
  ⟨h.below.setCell (p := ⟨w.heap.size + 1 + 1 + 1, i, none⟩) (by show w.heap.size ≤ w.heap.size + 1 + 1 + 1; omega) v, by have := h.size; simpa using this,
    (heap_setCell_other _ _ _ _ (by show w.heap.size ≠ w.heap.size + 1 + 1 + 1; omega)).trans h.a, (heap_setCell_other _ _ _ _ (by show w.heap.size + 1 ≠ w.heap.size + 1 + 1 + 1; omega)).trans h.b, (heap_setCell_other _ _ _ _ (by show w.heap.size + 1 + 1 ≠ w.heap.size + 1 + 1 + 1; omega)).trans h.z,
    heap_setCell_same wr _ i O T v h.o⟩
end Go.Proofs.YtpnifgpmleaohaaGreatDoor

end
