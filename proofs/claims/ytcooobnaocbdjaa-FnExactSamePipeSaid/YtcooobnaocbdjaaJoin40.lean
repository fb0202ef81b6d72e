/-
  The program's SameGrads.
-/
import Derived.Test.YtcooobnaocbdjaaJoin27
import Derived.Test.YtcooobnaocbdjaaJoin39
namespace Go.Proofs.Ytcooobnaocbdjaa
open Go.RowKit
set_option linter.unusedVariables false

theorem cellsQ {w : World} {g : Nat} {x y z : Value} {T : TypeId} (h : w.heap[g]? = some (.cells #[x, y, z] T (0, 0))) :
    w.cell? ⟨g, 0, none⟩ = some x ∧ w.cell? ⟨g, 1, none⟩ = some y ∧ w.cell? ⟨g, 2, none⟩ = some z :=
  ⟨by rw [cell_of_row _ _ _ _ _ _ h]; rfl, by rw [cell_of_row _ _ _ _ _ _ h]; rfl, by rw [cell_of_row _ _ _ _ _ _ h]; rfl⟩
set_option maxRecDepth 100000 in
theorem implSameGrads_d (w : World) (es : List Value) (x : dGrads) (h : shGrads.reads (Under w.heap.size) w es x) (hb : shGrads.bulk x ≤ 1048576) (es' : List Value) (y : dGrads) (h' : shGrads.reads (Under w.heap.size) w es' y) (hb' : shGrads.bulk y ≤ 1048576) :
    Calls Try.prog 83 #[.agg es.toArray, .agg es'.toArray] w fun e w' => e = .returned (.bool (sameGradsB x y)) ∧ Below w.heap.size w w' := by
  obtain ⟨a, n, c, rfl, h1, h2, h3⟩ := shGrads_reads.1 h
  obtain ⟨a', n', c', rfl, g1, g2, g3⟩ := shGrads_reads.1 h'
  rw [shGrads_bulk] at hb hb'
  have hal : Below w.heap.size w ((w.alloc (.cells #[.slice a n c, .int .i64 x.2.1, .bool x.2.2] 45 (0, 0))).alloc (.cells #[.slice a' n' c', .int .i64 y.2.1, .bool y.2.2] 45 (0, 0))) := ((Below.refl _ _).alloc (Nat.le_refl _) _).alloc (by simp) _
  have hA : ((w.alloc (.cells #[.slice a n c, .int .i64 x.2.1, .bool x.2.2] 45 (0, 0))).alloc (.cells #[.slice a' n' c', .int .i64 y.2.1, .bool y.2.2] 45 (0, 0))).heap[w.heap.size]? = some (.cells #[.slice a n c, .int .i64 x.2.1, .bool x.2.2] 45 (0, 0)) := by
    rw [Below.heap_alloc _ _ _ (by simp)]
    exact heap_alloc_new w _
  have hB : ((w.alloc (.cells #[.slice a n c, .int .i64 x.2.1, .bool x.2.2] 45 (0, 0))).alloc (.cells #[.slice a' n' c', .int .i64 y.2.1, .bool y.2.2] 45 (0, 0))).heap[w.heap.size + 1]? = some (.cells #[.slice a' n' c', .int .i64 y.2.1, .bool y.2.2] 45 (0, 0)) := by
    have := heap_alloc_new (w.alloc (.cells #[.slice a n c, .int .i64 x.2.1, .bool x.2.2] 45 (0, 0))) (.cells #[.slice a' n' c', .int .i64 y.2.1, .bool y.2.2] 45 (0, 0))
    simpa using this
  have hsz : ((w.alloc (.cells #[.slice a n c, .int .i64 x.2.1, .bool x.2.2] 45 (0, 0))).alloc (.cells #[.slice a' n' c', .int .i64 y.2.1, .bool y.2.2] 45 (0, 0))).heap.size = w.heap.size + 2 := by simp
  have HS := Lib.hid (implSameRows_d _ a n c x.1 ((h3.below hal (Nat.le_refl _)).le hal.size) h1 h2 hb a' n' c' y.1 ((g3.below hal (Nat.le_refl _)).le hal.size) g1 g2 hb')
  have HA := Lib.hid hal
  have HBA := Lib.hid hA
  have HBB := Lib.hid hB
  obtain ⟨L, hL⟩ : ∃ L, x.2.1 = L := ⟨_, rfl⟩
  obtain ⟨S, hS⟩ : ∃ S, x.2.2 = S := ⟨_, rfl⟩
  obtain ⟨M, hM⟩ : ∃ M, y.2.1 = M := ⟨_, rfl⟩
  obtain ⟨T, hT⟩ : ∃ T, y.2.2 = T := ⟨_, rfl⟩
  unfold sameGradsB
  rw [hL, hS, hM, hT] at HS HA HBA HBB hsz
  rw [hL, hS, hM, hT]
  obtain ⟨q, hq⟩ : ∃ q, sameRowsB x.1 y.1 = q := ⟨_, rfl⟩
  rw [hq] at HS ⊢
  clear h h' h3 g3 hal hL hS hM hT hq hb hb' hA hB
  go_enter Try.func83, Try.ntmps83
  go_wp2_with fail
  generalize (w.alloc (.cells #[.slice a n c, .int .i64 L, .bool S] 45 (0, 0))).alloc (.cells #[.slice a' n' c', .int .i64 M, .bool T] 45 (0, 0)) = wa at HS HA HBA HBB hsz ⊢
  refine HS.out.mono ?_
  rintro e w1 ⟨rfl, hb⟩
  have HB := Lib.hid (HA.out.trans (hb.mono HA.out.size))
  have q1 := (hb.block w.heap.size (by omega)).trans HBA.out
  have q2 := (hb.block (w.heap.size + 1) (by omega)).trans HBB.out
  obtain ⟨c0, c1, c2⟩ := cellsQ q1
  obtain ⟨d0, d1, d2⟩ := cellsQ q2
  clear hb q1 q2
  cases q
  · go_wp2_with fail
    go_ret
    exact ⟨by simp, HB.out⟩
  · by_cases e1 : L = M
    · subst e1
      by_cases e2 : S = T
      · subst e2
        have hSS : (S == S) = true := by simp
        go_wp2_with fail
        go_ret
        exact ⟨by simp, HB.out⟩
      · have hne : (S == T) = false := by simpa using e2
        have E2 := Lib.hid (decide_eq_false e2)
        clear e2
        go_wp2_with fail
        go_ret
        exact ⟨by rw [E2.out]; simp, HB.out⟩
    · have hne : (L == M) = false := by simpa using e1
      have E1 := Lib.hid (decide_eq_false e1)
      clear e1
      go_wp2_with fail
      go_ret
      exact ⟨by rw [E1.out]; simp, HB.out⟩
end Go.Proofs.Ytcooobnaocbdjaa
