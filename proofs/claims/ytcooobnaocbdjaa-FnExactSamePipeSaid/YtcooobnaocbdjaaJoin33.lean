/-
  Pipes: the model's SamePipe: stages and pipes (mksams.py).
-/
import Derived.Test.YtcooobnaocbdjaaJoin28
import Derived.Test.YtcooobnaocbdjaaJoin29
import Derived.Test.YtcooobnaocbdjaaJoin30
import Derived.Test.YtcooobnaocbdjaaJoin31
import Derived.Test.YtcooobnaocbdjaaJoin32
import Derived.Laws.StructEq
namespace Go.Proofs.Ytcooobnaocbdjaa
open Go.RowKit Go.Sort
set_option linter.unusedVariables false
set_option linter.unusedSimpArgs false

theorem specSameRows_r (w : World) (a : Option Addr) (n c : Nat) (xs : List dRow) (h : ListAt shRow (Under w.heap.size) w a n xs) (hl : n + Shape.sum shRow.bulk xs ≤ 1048576) (a' : Option Addr) (n' c' : Nat) (ys : List dRow) (h' : ListAt shRow (Under w.heap.size) w a' n' ys) (hl' : n' + Shape.sum shRow.bulk ys ≤ 1048576) (R : Bool) (hR : R = true ↔ xs = ys) :
    Calls Try.prog 73 #[.slice a n c, .slice a' n' c'] w fun e w' => e = .returned (.bool R) ∧ Below w.heap.size w w' := by
  have := specSameRows_c w a n c xs h (by rw [bulk_list shRow h]; exact hl) a' n' c' ys h' (by rw [bulk_list shRow h']; exact hl')
  unfold sameRowsB at this
  rwa [dec_of hR] at this
theorem specSameGrads_r (w : World) (es : List Value) (x : dGrads) (h : shGrads.reads (Under w.heap.size) w es x) (hb : shGrads.bulk x ≤ 1048576) (es' : List Value) (y : dGrads) (h' : shGrads.reads (Under w.heap.size) w es' y) (hb' : shGrads.bulk y ≤ 1048576) (R : Bool) (hR : R = true ↔ x = y) :
    Calls Try.prog 74 #[.agg es.toArray, .agg es'.toArray] w fun e w' => e = .returned (.bool R) ∧ Below w.heap.size w w' := by
  have := specSameGrads_d w es x h hb es' y h' hb'
  have e : sameGradsB x y = R := by
    rw [Bool.eq_iff_iff, hR]
    unfold sameGradsB sameRowsB
    simp only [Bool.and_eq_true, decide_eq_true_eq]
    constructor
    · rintro ⟨h1, h2, h3⟩
      exact Prod.ext h3 (Prod.ext h1 h2)
    · rintro rfl
      exact ⟨rfl, rfl, rfl⟩
  rwa [e] at this
theorem specSameOp_r (w : World) (k i o : Int) (a1 : Option Addr) (n1 c1 : Nat) (x : dOp) (k' i' o' : Int) (a2 : Option Addr) (n2 c2 : Nat) (y : dOp) (e1 : x.1 = k) (e2 : x.2.1 = i) (e3 : x.2.2.1 = o) (f1 : y.1 = k') (f2 : y.2.1 = i') (f3 : y.2.2.1 = o') (h1 : IntsIn w.heap.size w a1 n1 x.2.2.2) (h2 : IntsIn w.heap.size w a2 n2 y.2.2.2) (g1 : n1 ≤ c1) (g2 : n2 ≤ c2) (g3 : c1 ≤ 9223372036854775807) (g4 : c2 ≤ 9223372036854775807) (R : Bool) (hR : R = true ↔ x = y) :
    Calls Try.prog 75 #[.agg #[.int .i64 k, .int .i64 i, .int .i64 o, .slice a1 n1 c1], .agg #[.int .i64 k', .int .i64 i', .int .i64 o', .slice a2 n2 c2]] w fun e w' => e = .returned (.bool R) ∧ Below w.heap.size w w' := by
  have := specSameOp_any w k i o a1 n1 c1 x.2.2.2 k' i' o' a2 n2 c2 y.2.2.2 h1 h2
  have e : sameOpB k i o x.2.2.2 k' i' o' y.2.2.2 = R := by
    rw [Bool.eq_iff_iff, hR, ← e1, ← e2, ← e3, ← f1, ← f2, ← f3]
    unfold sameOpB
    simp only [Bool.and_eq_true, decide_eq_true_eq]
    constructor
    · rintro ⟨h1, h2, h3, h4⟩
      exact Prod.ext h1 (Prod.ext h2 (Prod.ext h3 h4))
    · rintro rfl
      exact ⟨rfl, rfl, rfl, rfl⟩
  rw [← e]
  exact this
set_option maxRecDepth 100000 in
set_option maxHeartbeats 6400000 in
theorem specSameStage_d (w : World) (es : List Value) (x : dStage) (h : shStage.reads (Under w.heap.size) w es x) (hb : shStage.bulk x ≤ 1048576) (es' : List Value) (y : dStage) (h' : shStage.reads (Under w.heap.size) w es' y) (hb' : shStage.bulk y ≤ 1048576) (R : Bool) (hR : R = true ↔ x = y) :
    Calls Try.prog 48 #[.agg es.toArray, .agg es'.toArray] w fun e w' => e = .returned (.bool R) ∧ Below w.heap.size w w' := by
  obtain ⟨j0, nj0, cj0, j1, nj1, cj1, j2, nj2, cj2, j3, nj3, cj3, j4, nj4, cj4, j5, nj5, cj5, j6, nj6, cj6, j7, nj7, cj7, j8, nj8, cj8, rfl, ⟨pj0, rj0, l0⟩, ⟨pj1, rj1, l1⟩, ⟨pj2, rj2, l2⟩, ⟨pj3, rj3, l3⟩, ⟨pj4, rj4, l4⟩, ⟨pj5, rj5, l5⟩, ⟨pj6, rj6, l6⟩, ⟨pj7, rj7, l7⟩, ⟨pj8, rj8, l8⟩⟩ := shStage_reads.1 h
  obtain ⟨b0, nb0, cb0, b1, nb1, cb1, b2, nb2, cb2, b3, nb3, cb3, b4, nb4, cb4, b5, nb5, cb5, b6, nb6, cb6, b7, nb7, cb7, b8, nb8, cb8, rfl, ⟨pb0, rb0, m0⟩, ⟨pb1, rb1, m1⟩, ⟨pb2, rb2, m2⟩, ⟨pb3, rb3, m3⟩, ⟨pb4, rb4, m4⟩, ⟨pb5, rb5, m5⟩, ⟨pb6, rb6, m6⟩, ⟨pb7, rb7, m7⟩, ⟨pb8, rb8, m8⟩⟩ := shStage_reads.1 h'
  rw [shStage_bulk, bulk_ins, bulk_list shOp l1, bulk_list shSaved l2, bulk_list shRow l3, bulk_ints, bulk_ints, bulk_ints, bulk_ints, bulk_list shRow l8] at hb
  rw [shStage_bulk, bulk_ins, bulk_list shOp m1, bulk_list shSaved m2, bulk_list shRow m3, bulk_ints, bulk_ints, bulk_ints, bulk_ints, bulk_list shRow m8] at hb'
  have HNO := Lib.hid fun (hn : ¬ x = y) => no_of hR hn
  have HYES := Lib.hid hR.2
  have v0 : x.2.1.length = nj0 := l0.1
  have u0 : y.2.1.length = nb0 := m0.1
  have v4 : x.2.2.2.2.2.2.2.1.length = nj4 := l4.1
  have u4 : y.2.2.2.2.2.2.2.1.length = nb4 := m4.1
  have v5 : x.2.2.2.2.2.2.2.2.1.length = nj5 := l5.1
  have u5 : y.2.2.2.2.2.2.2.2.1.length = nb5 := m5.1
  have v6 : x.2.2.2.2.2.2.2.2.2.1.length = nj6 := l6.1
  have u6 : y.2.2.2.2.2.2.2.2.2.1.length = nb6 := m6.1
  have v7 : x.2.2.2.2.2.2.2.2.2.2.1.length = nj7 := l7.1
  have u7 : y.2.2.2.2.2.2.2.2.2.2.1.length = nb7 := m7.1
  obtain ⟨q0, hq0⟩ : ∃ q, x.1 = q := ⟨_, rfl⟩
  obtain ⟨q3, hq3⟩ : ∃ q, x.2.2.2.1 = q := ⟨_, rfl⟩
  obtain ⟨q4, hq4⟩ : ∃ q, x.2.2.2.2.1 = q := ⟨_, rfl⟩
  obtain ⟨q12, hq12⟩ : ∃ q, x.2.2.2.2.2.2.2.2.2.2.2.2.1 = q := ⟨_, rfl⟩
  obtain ⟨q13, hq13⟩ : ∃ q, x.2.2.2.2.2.2.2.2.2.2.2.2.2 = q := ⟨_, rfl⟩
  obtain ⟨r0, hr0⟩ : ∃ q, y.1 = q := ⟨_, rfl⟩
  obtain ⟨r3, hr3⟩ : ∃ q, y.2.2.2.1 = q := ⟨_, rfl⟩
  obtain ⟨r4, hr4⟩ : ∃ q, y.2.2.2.2.1 = q := ⟨_, rfl⟩
  obtain ⟨r12, hr12⟩ : ∃ q, y.2.2.2.2.2.2.2.2.2.2.2.2.1 = q := ⟨_, rfl⟩
  obtain ⟨r13, hr13⟩ : ∃ q, y.2.2.2.2.2.2.2.2.2.2.2.2.2 = q := ⟨_, rfl⟩
  have L0 := Lib.hid l0
  have M0 := Lib.hid m0
  have bd0 : nj0 ≤ 1048576 := by omega
  have L1 := Lib.hid l1
  have M1 := Lib.hid m1
  have bd1 : nj1 ≤ 1048576 := by omega
  have SX1 : Hid (nj1 + Shape.sum shOp.bulk x.2.2.1 ≤ 1048576) := Lib.hid (by omega)
  have SY1 : Hid (nb1 + Shape.sum shOp.bulk y.2.2.1 ≤ 1048576) := Lib.hid (by omega)
  have L2 := Lib.hid l2
  have M2 := Lib.hid m2
  have bd2 : nj2 ≤ 1048576 := by omega
  have SX2 : Hid (nj2 + Shape.sum shSaved.bulk x.2.2.2.2.2.1 ≤ 1048576) := Lib.hid (by omega)
  have SY2 : Hid (nb2 + Shape.sum shSaved.bulk y.2.2.2.2.2.1 ≤ 1048576) := Lib.hid (by omega)
  have sx3 : nj3 + Shape.sum shRow.bulk x.2.2.2.2.2.2.1 ≤ 1048576 := by omega
  have sy3 : nb3 + Shape.sum shRow.bulk y.2.2.2.2.2.2.1 ≤ 1048576 := by omega
  have sx8 : nj8 + Shape.sum shRow.bulk x.2.2.2.2.2.2.2.2.2.2.2.1 ≤ 1048576 := by omega
  have sy8 : nb8 + Shape.sum shRow.bulk y.2.2.2.2.2.2.2.2.2.2.2.1 ≤ 1048576 := by omega
  obtain ⟨eFull, heFull⟩ := bool_of (x.2.2.2.2.2.2.1 = y.2.2.2.2.2.2.1)
  have CFull := Lib.hid fun (wx : World) (hx : Below w.heap.size w wx) => specSameRows_r wx j3 nj3 cj3 _ ((l3.below hx (Nat.le_refl _)).le hx.size) sx3 b3 nb3 cb3 _ ((m3.below hx (Nat.le_refl _)).le hx.size) sy3 eFull heFull
  have NFull : Hid (eFull = false → ¬ x = y) := Lib.hid fun h1 h2 => by
    rw [← Bool.not_eq_true, heFull] at h1
    exact h1 (by rw [h2])
  have YFull : Hid (eFull = true → x.2.2.2.2.2.2.1 = y.2.2.2.2.2.2.1) := Lib.hid heFull.1
  obtain ⟨eX, heX⟩ := bool_of (x.2.2.2.2.2.2.2.1 = y.2.2.2.2.2.2.2.1)
  have CX := Lib.hid fun (wx : World) (hx : Below w.heap.size w wx) => specSameVec_r wx j4 nj4 cj4 _ b4 nb4 cb4 _ (((l4.ints (by omega)).below hx (Nat.le_refl _)).le hx.size) (((m4.ints (by omega)).below hx (Nat.le_refl _)).le hx.size) eX heX
  have NX : Hid (eX = false → ¬ x = y) := Lib.hid fun h1 h2 => by
    rw [← Bool.not_eq_true, heX] at h1
    exact h1 (by rw [h2])
  have YX : Hid (eX = true → x.2.2.2.2.2.2.2.1 = y.2.2.2.2.2.2.2.1) := Lib.hid heX.1
  obtain ⟨eY, heY⟩ := bool_of (x.2.2.2.2.2.2.2.2.1 = y.2.2.2.2.2.2.2.2.1)
  have CY := Lib.hid fun (wx : World) (hx : Below w.heap.size w wx) => specSameVec_r wx j5 nj5 cj5 _ b5 nb5 cb5 _ (((l5.ints (by omega)).below hx (Nat.le_refl _)).le hx.size) (((m5.ints (by omega)).below hx (Nat.le_refl _)).le hx.size) eY heY
  have NY : Hid (eY = false → ¬ x = y) := Lib.hid fun h1 h2 => by
    rw [← Bool.not_eq_true, heY] at h1
    exact h1 (by rw [h2])
  have YY : Hid (eY = true → x.2.2.2.2.2.2.2.2.1 = y.2.2.2.2.2.2.2.2.1) := Lib.hid heY.1
  obtain ⟨eG, heG⟩ := bool_of (x.2.2.2.2.2.2.2.2.2.1 = y.2.2.2.2.2.2.2.2.2.1)
  have CG := Lib.hid fun (wx : World) (hx : Below w.heap.size w wx) => specSameVec_r wx j6 nj6 cj6 _ b6 nb6 cb6 _ (((l6.ints (by omega)).below hx (Nat.le_refl _)).le hx.size) (((m6.ints (by omega)).below hx (Nat.le_refl _)).le hx.size) eG heG
  have NG : Hid (eG = false → ¬ x = y) := Lib.hid fun h1 h2 => by
    rw [← Bool.not_eq_true, heG] at h1
    exact h1 (by rw [h2])
  have YG : Hid (eG = true → x.2.2.2.2.2.2.2.2.2.1 = y.2.2.2.2.2.2.2.2.2.1) := Lib.hid heG.1
  obtain ⟨eD, heD⟩ := bool_of (x.2.2.2.2.2.2.2.2.2.2.1 = y.2.2.2.2.2.2.2.2.2.2.1)
  have CD := Lib.hid fun (wx : World) (hx : Below w.heap.size w wx) => specSameVec_r wx j7 nj7 cj7 _ b7 nb7 cb7 _ (((l7.ints (by omega)).below hx (Nat.le_refl _)).le hx.size) (((m7.ints (by omega)).below hx (Nat.le_refl _)).le hx.size) eD heD
  have ND : Hid (eD = false → ¬ x = y) := Lib.hid fun h1 h2 => by
    rw [← Bool.not_eq_true, heD] at h1
    exact h1 (by rw [h2])
  have YD : Hid (eD = true → x.2.2.2.2.2.2.2.2.2.2.1 = y.2.2.2.2.2.2.2.2.2.2.1) := Lib.hid heD.1
  obtain ⟨eSum, heSum⟩ := bool_of (x.2.2.2.2.2.2.2.2.2.2.2 = y.2.2.2.2.2.2.2.2.2.2.2)
  have CSum := Lib.hid fun (wx : World) (hx : Below w.heap.size w wx) => specSameGrads_r wx [.slice j8 nj8 cj8, .int .i64 q12, .bool q13] x.2.2.2.2.2.2.2.2.2.2.2 (shGrads_reads.2 ⟨_, _, _, by rw [hq12, hq13], pj8, rj8, (l8.below hx (Nat.le_refl _)).le hx.size⟩) (by rw [shGrads_bulk, bulk_list shRow l8]; omega) [.slice b8 nb8 cb8, .int .i64 r12, .bool r13] y.2.2.2.2.2.2.2.2.2.2.2 (shGrads_reads.2 ⟨_, _, _, by rw [hr12, hr13], pb8, rb8, (m8.below hx (Nat.le_refl _)).le hx.size⟩) (by rw [shGrads_bulk, bulk_list shRow m8]; omega) eSum heSum
  have NSum : Hid (eSum = false → ¬ x = y) := Lib.hid fun h1 h2 => by
    rw [← Bool.not_eq_true, heSum] at h1
    exact h1 (by rw [h2])
  have YSum : Hid (eSum = true → x.2.2.2.2.2.2.2.2.2.2.2 = y.2.2.2.2.2.2.2.2.2.2.2) := Lib.hid heSum.1
  have QPc : Hid (x.1 = q0) := Lib.hid hq0
  have SPc : Hid (y.1 = r0) := Lib.hid hr0
  have QLast : Hid (x.2.2.2.1 = q3) := Lib.hid hq3
  have SLast : Hid (y.2.2.2.1 = r3) := Lib.hid hr3
  have QRedo : Hid (x.2.2.2.2.1 = q4) := Lib.hid hq4
  have SRedo : Hid (y.2.2.2.2.1 = r4) := Lib.hid hr4
  rw [hq0, hq3, hq4, hq12, hq13, hr0, hr3, hr4, hr12, hr13]
  have hal := ((Below.refl w.heap.size w).alloc (Nat.le_refl _) (.cells #[.int .i64 q0, .slice j0 nj0 cj0, .slice j1 nj1 cj1, .bool q3, .bool q4, .slice j2 nj2 cj2, .slice j3 nj3 cj3, .slice j4 nj4 cj4, .slice j5 nj5 cj5, .slice j6 nj6 cj6, .slice j7 nj7 cj7, .slice j8 nj8 cj8, .int .i64 q12, .bool q13] 60 (0, 0))).alloc (by simp) (.cells #[.int .i64 r0, .slice b0 nb0 cb0, .slice b1 nb1 cb1, .bool r3, .bool r4, .slice b2 nb2 cb2, .slice b3 nb3 cb3, .slice b4 nb4 cb4, .slice b5 nb5 cb5, .slice b6 nb6 cb6, .slice b7 nb7 cb7, .slice b8 nb8 cb8, .int .i64 r12, .bool r13] 60 (0, 0))
  have hA : ((w.alloc (.cells #[.int .i64 q0, .slice j0 nj0 cj0, .slice j1 nj1 cj1, .bool q3, .bool q4, .slice j2 nj2 cj2, .slice j3 nj3 cj3, .slice j4 nj4 cj4, .slice j5 nj5 cj5, .slice j6 nj6 cj6, .slice j7 nj7 cj7, .slice j8 nj8 cj8, .int .i64 q12, .bool q13] 60 (0, 0))).alloc (.cells #[.int .i64 r0, .slice b0 nb0 cb0, .slice b1 nb1 cb1, .bool r3, .bool r4, .slice b2 nb2 cb2, .slice b3 nb3 cb3, .slice b4 nb4 cb4, .slice b5 nb5 cb5, .slice b6 nb6 cb6, .slice b7 nb7 cb7, .slice b8 nb8 cb8, .int .i64 r12, .bool r13] 60 (0, 0))).heap[w.heap.size]? = some (.cells #[.int .i64 q0, .slice j0 nj0 cj0, .slice j1 nj1 cj1, .bool q3, .bool q4, .slice j2 nj2 cj2, .slice j3 nj3 cj3, .slice j4 nj4 cj4, .slice j5 nj5 cj5, .slice j6 nj6 cj6, .slice j7 nj7 cj7, .slice j8 nj8 cj8, .int .i64 q12, .bool q13] 60 (0, 0)) := by
    rw [Below.heap_alloc _ _ _ (by simp)]
    exact heap_alloc_new w _
  have hC : ((w.alloc (.cells #[.int .i64 q0, .slice j0 nj0 cj0, .slice j1 nj1 cj1, .bool q3, .bool q4, .slice j2 nj2 cj2, .slice j3 nj3 cj3, .slice j4 nj4 cj4, .slice j5 nj5 cj5, .slice j6 nj6 cj6, .slice j7 nj7 cj7, .slice j8 nj8 cj8, .int .i64 q12, .bool q13] 60 (0, 0))).alloc (.cells #[.int .i64 r0, .slice b0 nb0 cb0, .slice b1 nb1 cb1, .bool r3, .bool r4, .slice b2 nb2 cb2, .slice b3 nb3 cb3, .slice b4 nb4 cb4, .slice b5 nb5 cb5, .slice b6 nb6 cb6, .slice b7 nb7 cb7, .slice b8 nb8 cb8, .int .i64 r12, .bool r13] 60 (0, 0))).heap[w.heap.size + 1]? = some (.cells #[.int .i64 r0, .slice b0 nb0 cb0, .slice b1 nb1 cb1, .bool r3, .bool r4, .slice b2 nb2 cb2, .slice b3 nb3 cb3, .slice b4 nb4 cb4, .slice b5 nb5 cb5, .slice b6 nb6 cb6, .slice b7 nb7 cb7, .slice b8 nb8 cb8, .int .i64 r12, .bool r13] 60 (0, 0)) := by
    have := heap_alloc_new (w.alloc (.cells #[.int .i64 q0, .slice j0 nj0 cj0, .slice j1 nj1 cj1, .bool q3, .bool q4, .slice j2 nj2 cj2, .slice j3 nj3 cj3, .slice j4 nj4 cj4, .slice j5 nj5 cj5, .slice j6 nj6 cj6, .slice j7 nj7 cj7, .slice j8 nj8 cj8, .int .i64 q12, .bool q13] 60 (0, 0))) (.cells #[.int .i64 r0, .slice b0 nb0 cb0, .slice b1 nb1 cb1, .bool r3, .bool r4, .slice b2 nb2 cb2, .slice b3 nb3 cb3, .slice b4 nb4 cb4, .slice b5 nb5 cb5, .slice b6 nb6 cb6, .slice b7 nb7 cb7, .slice b8 nb8 cb8, .int .i64 r12, .bool r13] 60 (0, 0))
    simpa using this
  have hS : w.heap.size + 1 < ((w.alloc (.cells #[.int .i64 q0, .slice j0 nj0 cj0, .slice j1 nj1 cj1, .bool q3, .bool q4, .slice j2 nj2 cj2, .slice j3 nj3 cj3, .slice j4 nj4 cj4, .slice j5 nj5 cj5, .slice j6 nj6 cj6, .slice j7 nj7 cj7, .slice j8 nj8 cj8, .int .i64 q12, .bool q13] 60 (0, 0))).alloc (.cells #[.int .i64 r0, .slice b0 nb0 cb0, .slice b1 nb1 cb1, .bool r3, .bool r4, .slice b2 nb2 cb2, .slice b3 nb3 cb3, .slice b4 nb4 cb4, .slice b5 nb5 cb5, .slice b6 nb6 cb6, .slice b7 nb7 cb7, .slice b8 nb8 cb8, .int .i64 r12, .bool r13] 60 (0, 0))).heap.size := by simp
  have HA := Lib.hid hal
  have XA := Lib.hid hA
  have XC := Lib.hid hC
  have HS := Lib.hid hS
  clear h h' hb hb' hR hal hA hC hS pj0 rj0 l0 pb0 rb0 m0 pj1 rj1 l1 pb1 rb1 m1 pj2 rj2 l2 pb2 rb2 m2 pj3 rj3 l3 pb3 rb3 m3 pj4 rj4 l4 pb4 rb4 m4 pj5 rj5 l5 pb5 rb5 m5 pj6 rj6 l6 pb6 rb6 m6 pj7 rj7 l7 pb7 rb7 m7 pj8 rj8 l8 pb8 rb8 m8 sx3 sy3 sx8 sy8 hq0 hq3 hq4 hq12 hq13 hr0 hr3 hr4 hr12 hr13 heFull heX heY heG heD heSum
  clear v0 u0 v4 u4 v5 u5 v6 u6 v7 u7
  by_cases dPc : q0 = r0
  case neg =>
    obtain rfl : R = false := HNO.out fun e => dPc (by rw [← QPc.out, ← SPc.out, e])
    with_reducible apply sameStage_pc
    exact dPc
  subst dPc
  by_cases dLast : q3 = r3
  case neg =>
    obtain rfl : R = false := HNO.out fun e => dLast (by rw [← QLast.out, ← SLast.out, e])
    cases q3 <;> cases r3 <;> first | exact absurd rfl dLast | with_reducible apply sameStage_last_true | with_reducible apply sameStage_last_false
  subst dLast
  by_cases dRedo : q4 = r4
  case neg =>
    obtain rfl : R = false := HNO.out fun e => dRedo (by rw [← QRedo.out, ← SRedo.out, e])
    cases q4 <;> cases r4 <;> first | exact absurd rfl dRedo | with_reducible apply sameStage_redo_true | with_reducible apply sameStage_redo_false
  subst dRedo
  by_cases dPlan : nj0 = nb0
  case neg =>
    obtain rfl : R = false := HNO.out fun e => dPlan (by rw [← L0.out.1, ← M0.out.1, e])
    with_reducible apply sameStage_plan
    exact dPlan
  subst dPlan
  by_cases dOps : nj1 = nb1
  case neg =>
    obtain rfl : R = false := HNO.out fun e => dOps (by rw [← L1.out.1, ← M1.out.1, e])
    with_reducible apply sameStage_ops
    exact dOps
  subst dOps
  by_cases dStash : nj2 = nb2
  case neg =>
    obtain rfl : R = false := HNO.out fun e => dStash (by rw [← L2.out.1, ← M2.out.1, e])
    with_reducible apply sameStage_stash
    exact dStash
  subst dStash
  go_enter Try.func48, Try.ntmps48
  go_wp2_with fail
  refine (CFull.out _ HA.out).mono ?_
  rintro e w1 ⟨rfl, hb⟩
  have B0 := Lib.hid (HA.out.trans (hb.mono HA.out.size))
  have XA0 := Lib.hid ((hb.block w.heap.size (by have := HS.out; omega)).trans XA.out)
  have XC0 := Lib.hid ((hb.block (w.heap.size + 1) HS.out).trans XC.out)
  have HS0 := Lib.hid (Nat.lt_of_lt_of_le HS.out hb.size)
  clear hb
  cases eFull
  · obtain rfl : R = false := HNO.out (NFull.out (by first | rfl | trivial))
    as_aux_lemma =>
      go_wp2_with fail
      go_ret
      exact ⟨rfl, B0.out⟩
  have z7 := boxs XA0.out 7 _ rfl
  have y7 := boxs XC0.out 7 _ rfl
  go_wp2_with fail
  clear z7 y7
  refine (CX.out _ B0.out).mono ?_
  rintro e w2 ⟨rfl, hb⟩
  have B1 := Lib.hid (B0.out.trans (hb.mono B0.out.size))
  have XA1 := Lib.hid ((hb.block w.heap.size (by have := HS0.out; omega)).trans XA0.out)
  have XC1 := Lib.hid ((hb.block (w.heap.size + 1) HS0.out).trans XC0.out)
  have HS1 := Lib.hid (Nat.lt_of_lt_of_le HS0.out hb.size)
  clear hb
  cases eX
  · obtain rfl : R = false := HNO.out (NX.out (by first | rfl | trivial))
    as_aux_lemma =>
      go_wp2_with fail
      go_ret
      exact ⟨rfl, B1.out⟩
  have z8 := boxs XA1.out 8 _ rfl
  have y8 := boxs XC1.out 8 _ rfl
  go_wp2_with fail
  clear z8 y8
  refine (CY.out _ B1.out).mono ?_
  rintro e w3 ⟨rfl, hb⟩
  have B2 := Lib.hid (B1.out.trans (hb.mono B1.out.size))
  have XA2 := Lib.hid ((hb.block w.heap.size (by have := HS1.out; omega)).trans XA1.out)
  have XC2 := Lib.hid ((hb.block (w.heap.size + 1) HS1.out).trans XC1.out)
  have HS2 := Lib.hid (Nat.lt_of_lt_of_le HS1.out hb.size)
  clear hb
  cases eY
  · obtain rfl : R = false := HNO.out (NY.out (by first | rfl | trivial))
    as_aux_lemma =>
      go_wp2_with fail
      go_ret
      exact ⟨rfl, B2.out⟩
  have z9 := boxs XA2.out 9 _ rfl
  have y9 := boxs XC2.out 9 _ rfl
  go_wp2_with fail
  clear z9 y9
  refine (CG.out _ B2.out).mono ?_
  rintro e w4 ⟨rfl, hb⟩
  have B3 := Lib.hid (B2.out.trans (hb.mono B2.out.size))
  have XA3 := Lib.hid ((hb.block w.heap.size (by have := HS2.out; omega)).trans XA2.out)
  have XC3 := Lib.hid ((hb.block (w.heap.size + 1) HS2.out).trans XC2.out)
  have HS3 := Lib.hid (Nat.lt_of_lt_of_le HS2.out hb.size)
  clear hb
  cases eG
  · obtain rfl : R = false := HNO.out (NG.out (by first | rfl | trivial))
    as_aux_lemma =>
      go_wp2_with fail
      go_ret
      exact ⟨rfl, B3.out⟩
  have z10 := boxs XA3.out 10 _ rfl
  have y10 := boxs XC3.out 10 _ rfl
  go_wp2_with fail
  clear z10 y10
  refine (CD.out _ B3.out).mono ?_
  rintro e w5 ⟨rfl, hb⟩
  have B4 := Lib.hid (B3.out.trans (hb.mono B3.out.size))
  have XA4 := Lib.hid ((hb.block w.heap.size (by have := HS3.out; omega)).trans XA3.out)
  have XC4 := Lib.hid ((hb.block (w.heap.size + 1) HS3.out).trans XC3.out)
  have HS4 := Lib.hid (Nat.lt_of_lt_of_le HS3.out hb.size)
  clear hb
  cases eD
  · obtain rfl : R = false := HNO.out (ND.out (by first | rfl | trivial))
    as_aux_lemma =>
      go_wp2_with fail
      go_ret
      exact ⟨rfl, B4.out⟩
  have z11 := boxs XA4.out 11 _ rfl
  have y11 := boxs XC4.out 11 _ rfl
  have z12 := boxs XA4.out 12 _ rfl
  have y12 := boxs XC4.out 12 _ rfl
  have z13 := boxs XA4.out 13 _ rfl
  have y13 := boxs XC4.out 13 _ rfl
  go_wp2_with fail
  clear z11 y11 z12 y12 z13 y13
  refine (CSum.out _ B4.out).mono ?_
  rintro e w6 ⟨rfl, hb⟩
  have B5 := Lib.hid (B4.out.trans (hb.mono B4.out.size))
  have XA5 := Lib.hid ((hb.block w.heap.size (by have := HS4.out; omega)).trans XA4.out)
  have XC5 := Lib.hid ((hb.block (w.heap.size + 1) HS4.out).trans XC4.out)
  have HS5 := Lib.hid (Nat.lt_of_lt_of_le HS4.out hb.size)
  clear hb
  cases eSum
  · obtain rfl : R = false := HNO.out (NSum.out (by first | rfl | trivial))
    as_aux_lemma =>
      go_wp2_with fail
      go_ret
      exact ⟨rfl, B5.out⟩
  have CELX := Lib.hid fun (wx : World) (hx : Below w6.heap.size w6 wx) => (hx.block w.heap.size (by have := HS5.out; omega)).trans XA5.out
  have CELY := Lib.hid fun (wx : World) (hx : Below w6.heap.size w6 wx) => (hx.block (w.heap.size + 1) HS5.out).trans XC5.out
  have z1 := boxs (CELX.out _ (Below.refl _ _)) 1 _ rfl
  have y1 := boxs (CELY.out _ (Below.refl _ _)) 1 _ rfl
  go_wp2_with fail
  clear z1 y1
  go_loopw [5] (fun i wx => ∃ k : Nat, k ≤ nj0 ∧ i = .int .i64 k ∧ Hid (∀ t : Nat, t < k → (x.2.1)[t]? = (y.2.1)[t]?) ∧ Below w6.heap.size w6 wx) (fun i _ => nj0 - (intOf i).toNat)
  case atStart => exact ⟨0, Nat.zero_le _, rfl, Lib.hid fun t ht => absurd ht (Nat.not_lt_zero _), Below.refl _ _⟩
  case round =>
    obtain ⟨k, hk, rfl, hin, hbx⟩ := hrel
    have hww : Below w.heap.size w wr := B5.out.trans (hbx.mono B5.out.size)
    have hsw := hww.size
    have hsx := hbx.size
    have z1 := boxs (CELX.out wr hbx) 1 _ rfl
    have y1 := boxs (CELY.out wr hbx) 1 _ rfl
    by_cases hlt : k < nj0
    · have hlb := hlt
      obtain ⟨u, hu⟩ : ∃ u, (x.2.1)[k]? = some u := ⟨_, List.getElem?_eq_getElem (by rw [show (x.2.1).length = nj0 from L0.out.1]; exact hlt)⟩
      obtain ⟨v, hv⟩ : ∃ v, (y.2.1)[k]? = some v := ⟨_, List.getElem?_eq_getElem (by rw [show (y.2.1).length = nj0 from M0.out.1]; exact hlb)⟩
      obtain ⟨b5, o5, e5, hbB5, f0, f1⟩ := plan_at L0.out k hlt
      obtain ⟨b6, o6, e6, hbB6, f2, f3⟩ := plan_at M0.out k hlb
      subst e5
      subst e6
      rw [show (x.2.1).getD k (0, 0) = u by rw [List.getD_eq_getElem?_getD, hu]; rfl] at f0 f1
      rw [show (y.2.1).getD k (0, 0) = v by rw [List.getD_eq_getElem?_getD, hv]; rfl] at f2 f3
      obtain ⟨A0, hA0⟩ : ∃ K, u.1 = K := ⟨_, rfl⟩
      obtain ⟨A1, hA1⟩ : ∃ K, u.2 = K := ⟨_, rfl⟩
      obtain ⟨A2, hA2⟩ : ∃ K, v.1 = K := ⟨_, rfl⟩
      obtain ⟨A3, hA3⟩ : ∃ K, v.2 = K := ⟨_, rfl⟩
      rw [hA0] at f0
      rw [hA1] at f1
      rw [hA2] at f2
      rw [hA3] at f3
      have c0 := (hww.cell (p := ⟨b5, o5 + k * 2, none⟩) hbB5).trans f0
      have c1 := (hww.cell (p := ⟨b5, o5 + k * 2 + 1, none⟩) hbB5).trans f1
      have c2 := (hww.cell (p := ⟨b6, o6 + k * 2, none⟩) hbB6).trans f2
      have c3 := (hww.cell (p := ⟨b6, o6 + k * 2 + 1, none⟩) hbB6).trans f3
      have HNE := Lib.hid fun (hne : u ≠ v) => HNO.out fun e => by
        have h1 : (x.2.1)[k]? = (y.2.1)[k]? := by rw [e]
        rw [hu, hv] at h1
        exact hne (Option.some.inj h1)
      have HX := Lib.hid hu
      have HY := Lib.hid hv
      have HBX := Lib.hid hbx
      have HH0 := Lib.hid hA0
      have HH1 := Lib.hid hA1
      have HH2 := Lib.hid hA2
      have HH3 := Lib.hid hA3
      clear f0 f1 f2 f3 hu hv hA0 hA1 hA2 hA3 hbx hww
      by_cases e0 : A0 = A2
      case neg =>
        have k0 : (A0 == A2) = false := beq_eq_false_iff_ne.2 e0
        obtain rfl : R = false := HNE.out fun e => e0 (by rw [← HH0.out, ← HH2.out, e])
        clear e0
        go_upto_region 6 with fail
        go_quiet (fail)
        go_wp2_with fail
        go_ret
        exact ⟨rfl, below_drewN (B5.out.trans (HBX.out.mono B5.out.size)) _⟩
      have k0 : (A0 == A2) = true := beq_iff_eq.2 e0
      have E0 := Lib.hid e0
      clear e0
      by_cases e1 : A1 = A3
      case neg =>
        have k1 : (A1 == A3) = false := beq_eq_false_iff_ne.2 e1
        obtain rfl : R = false := HNE.out fun e => e1 (by rw [← HH1.out, ← HH3.out, e])
        clear e1
        go_upto_region 6 with fail
        go_quiet (fail)
        go_wp2_with fail
        go_ret
        exact ⟨rfl, below_drewN (B5.out.trans (HBX.out.mono B5.out.size)) _⟩
      have k1 : (A1 == A3) = true := beq_iff_eq.2 e1
      have HEQ : Hid (u = v) := Lib.hid (Prod.ext (by rw [HH0.out, HH2.out, E0.out]) (by rw [HH1.out, HH3.out, e1]))
      clear e1
      go_upto_region 6 with fail
      go_quiet (fail)
      go_wp2_with fail
      go_roundw
      case rel =>
        refine ⟨k + 1, by omega, by go_num, Lib.hid fun t ht => ?_, below_drewN HBX.out _⟩
        by_cases e : t = k
        · subst e
          rw [HX.out, HY.out, HEQ.out]
        · exact hin.out t (by omega)
      case measure => simp [intOf]; omega
    · obtain rfl : k = nj0 := by omega
      have EPlan : Hid (x.2.1 = y.2.1) := Lib.hid (same_list (by rw [show (x.2.1).length = k from L0.out.1, show (y.2.1).length = k from M0.out.1]) fun t ht => hin.out t (by rw [← show (x.2.1).length = k from L0.out.1]; exact ht))
      have HBPlan := Lib.hid hbx
      clear hin hbx hww hsw hsx
      have z2 := boxs (CELX.out _ HBPlan.out) 2 _ rfl
      have y2 := boxs (CELY.out _ HBPlan.out) 2 _ rfl
      go_wp2_with fail
      clear z2 y2 z1 y1
      go_loopw [6] (fun i wx => ∃ k : Nat, k ≤ nj1 ∧ i = .int .i64 k ∧ Hid (∀ t : Nat, t < k → (x.2.2.1)[t]? = (y.2.2.1)[t]?) ∧ Below w6.heap.size w6 wx) (fun i _ => nj1 - (intOf i).toNat)
      case atStart => exact ⟨0, Nat.zero_le _, rfl, Lib.hid fun t ht => absurd ht (Nat.not_lt_zero _), HBPlan.out⟩
      case round =>
        obtain ⟨k, hk, rfl, hin, hbx⟩ := hrel
        have hww : Below w.heap.size w wr := B5.out.trans (hbx.mono B5.out.size)
        have hsw := hww.size
        have hsx := hbx.size
        have z2 := boxs (CELX.out wr hbx) 2 _ rfl
        have y2 := boxs (CELY.out wr hbx) 2 _ rfl
        by_cases hlt : k < nj1
        · have hlb := hlt
          obtain ⟨b5, o5, u, au, nu, cu, hu, e5, hbB5, f0, f1, f2, f3, g1, g2, lu⟩ := op_at L1.out k hlt
          obtain ⟨b6, o6, v, av, nv, cv, hv, e6, hbB6, f4, f5, f6, f7, g3, g4, lv⟩ := op_at M1.out k hlb
          subst e5
          subst e6
          have hbu := bulk_mem shOp.bulk _ k u hu
          have hbv := bulk_mem shOp.bulk _ k v hv
          rw [shOp_bulk, bulk_ints, lu.1] at hbu
          rw [shOp_bulk, bulk_ints, lv.1] at hbv
          obtain ⟨A0, hA0⟩ : ∃ K, u.1 = K := ⟨_, rfl⟩
          obtain ⟨A1, hA1⟩ : ∃ K, u.2.1 = K := ⟨_, rfl⟩
          obtain ⟨A2, hA2⟩ : ∃ K, u.2.2.1 = K := ⟨_, rfl⟩
          obtain ⟨A4, hA4⟩ : ∃ K, v.1 = K := ⟨_, rfl⟩
          obtain ⟨A5, hA5⟩ : ∃ K, v.2.1 = K := ⟨_, rfl⟩
          obtain ⟨A6, hA6⟩ : ∃ K, v.2.2.1 = K := ⟨_, rfl⟩
          rw [hA0] at f0
          rw [hA1] at f1
          rw [hA2] at f2
          rw [hA4] at f4
          rw [hA5] at f5
          rw [hA6] at f6
          have c0 := (hww.cell (p := ⟨b5, o5 + k * 4, none⟩) hbB5).trans f0
          have c1 := (hww.cell (p := ⟨b5, o5 + k * 4 + 1, none⟩) hbB5).trans f1
          have c2 := (hww.cell (p := ⟨b5, o5 + k * 4 + 2, none⟩) hbB5).trans f2
          have c3 := (hww.cell (p := ⟨b5, o5 + k * 4 + 3, none⟩) hbB5).trans f3
          have c4 := (hww.cell (p := ⟨b6, o6 + k * 4, none⟩) hbB6).trans f4
          have c5 := (hww.cell (p := ⟨b6, o6 + k * 4 + 1, none⟩) hbB6).trans f5
          have c6 := (hww.cell (p := ⟨b6, o6 + k * 4 + 2, none⟩) hbB6).trans f6
          have c7 := (hww.cell (p := ⟨b6, o6 + k * 4 + 3, none⟩) hbB6).trans f7
          obtain ⟨p, hp⟩ := bool_of (u = v)
          have HC := Lib.hid fun (w2 : World) (hx : Below w.heap.size wr w2) => specSameOp_r w2 A0 A1 A2 au nu cu u A4 A5 A6 av nv cv v hA0 hA1 hA2 hA4 hA5 hA6 (((lu.ints (by have := SX1.out; omega)).below (hww.trans hx) (Nat.le_refl _)).le (hww.trans hx).size) (((lv.ints (by have := SY1.out; omega)).below (hww.trans hx) (Nat.le_refl _)).le (hww.trans hx).size) g1 g3 g2 g4 p hp
          have HNE := Lib.hid fun (hne : u ≠ v) => HNO.out fun e => by
            have h1 : (x.2.2.1)[k]? = (y.2.2.1)[k]? := by rw [e]
            rw [hu, hv] at h1
            exact hne (Option.some.inj h1)
          have HX := Lib.hid hu
          have HY := Lib.hid hv
          have HBX := Lib.hid hbx
          have HP := Lib.hid hp
          clear f0 f1 f2 f3 f4 f5 f6 f7 hu hv hA0 hA1 hA2 hA4 hA5 hA6 lu lv hbu hbv hbx hp g1 g2 g3 g4 hww
          cases p
          · obtain rfl : R = false := HNE.out fun e => by
              have := HP.out.2 e
              cases this
            go_upto_region 11 with fail
            have kk0 := cell_regrown z2
            have kk1 := cell_regrown y2
            have kk2 := cell_regrown c0
            have kk3 := cell_regrown c1
            have kk4 := cell_regrown c2
            have kk5 := cell_regrown c3
            have kk6 := cell_regrown c4
            have kk7 := cell_regrown c5
            have kk8 := cell_regrown c6
            have kk9 := cell_regrown c7
            have cC0 := fun d os => Calls.regrown_of (w := wr) (d := d) (os := os) (HC.out _ ((below_regrown wr d os).mono hsw))
            have CC0 := Lib.hid cC0
            clear z2 y2 c0 c1 c2 c3 c4 c5 c6 c7 cC0
            refine wp_region_quiet_below (by kernel_rfl) (by kernel_rfl) ?_
            repeat (go_big_quiet_step (with_reducible first | exact CC0.out _ _))
            refine wpQuiet_nil ?_
            intro _ hw'
            obtain ⟨⟨dq, osq⟩, hw''⟩ := hw'
            subst hw''
            have hwq := below_regrown wr dq osq
            generalize grow (redrawn wr dq) osq = wq at hwq ⊢
            have HW := Lib.hid hwq
            clear hwq kk0 kk1 kk2 kk3 kk4 kk5 kk6 kk7 kk8 kk9
            have HWX := Lib.hid (HW.out.mono hsx)
            go_wp2_with fail
            go_ret
            exact ⟨rfl, B5.out.trans ((HBX.out.trans (HWX.out)).mono B5.out.size)⟩
          · have HEQ : Hid (u = v) := Lib.hid (HP.out.1 rfl)
            go_upto_region 11 with fail
            have kk0 := cell_regrown z2
            have kk1 := cell_regrown y2
            have kk2 := cell_regrown c0
            have kk3 := cell_regrown c1
            have kk4 := cell_regrown c2
            have kk5 := cell_regrown c3
            have kk6 := cell_regrown c4
            have kk7 := cell_regrown c5
            have kk8 := cell_regrown c6
            have kk9 := cell_regrown c7
            have cC0 := fun d os => Calls.regrown_of (w := wr) (d := d) (os := os) (HC.out _ ((below_regrown wr d os).mono hsw))
            have CC0 := Lib.hid cC0
            clear z2 y2 c0 c1 c2 c3 c4 c5 c6 c7 cC0
            refine wp_region_quiet_below (by kernel_rfl) (by kernel_rfl) ?_
            repeat (go_big_quiet_step (with_reducible first | exact CC0.out _ _))
            refine wpQuiet_nil ?_
            intro _ hw'
            obtain ⟨⟨dq, osq⟩, hw''⟩ := hw'
            subst hw''
            have hwq := below_regrown wr dq osq
            generalize grow (redrawn wr dq) osq = wq at hwq ⊢
            have HW := Lib.hid hwq
            clear hwq kk0 kk1 kk2 kk3 kk4 kk5 kk6 kk7 kk8 kk9
            have HWX := Lib.hid (HW.out.mono hsx)
            go_wp2_with fail
            go_roundw
            case rel =>
              refine ⟨k + 1, by omega, by go_num, Lib.hid fun t ht => ?_, HBX.out.trans HWX.out⟩
              by_cases e : t = k
              · subst e
                rw [HX.out, HY.out, HEQ.out]
              · exact hin.out t (by omega)
            case measure => simp [intOf]; omega
        · obtain rfl : k = nj1 := by omega
          have EOps : Hid (x.2.2.1 = y.2.2.1) := Lib.hid (same_list (by rw [show (x.2.2.1).length = k from L1.out.1, show (y.2.2.1).length = k from M1.out.1]) fun t ht => hin.out t (by rw [← show (x.2.2.1).length = k from L1.out.1]; exact ht))
          have HBOps := Lib.hid hbx
          clear hin hbx hww hsw hsx
          have z5 := boxs (CELX.out _ HBOps.out) 5 _ rfl
          have y5 := boxs (CELY.out _ HBOps.out) 5 _ rfl
          go_wp2_with fail
          clear z5 y5 z2 y2
          go_loopw [7] (fun i wx => ∃ k : Nat, k ≤ nj2 ∧ i = .int .i64 k ∧ Hid (∀ t : Nat, t < k → (x.2.2.2.2.2.1)[t]? = (y.2.2.2.2.2.1)[t]?) ∧ Below w6.heap.size w6 wx) (fun i _ => nj2 - (intOf i).toNat)
          case atStart => exact ⟨0, Nat.zero_le _, rfl, Lib.hid fun t ht => absurd ht (Nat.not_lt_zero _), HBOps.out⟩
          case round =>
            obtain ⟨k, hk, rfl, hin, hbx⟩ := hrel
            have hww : Below w.heap.size w wr := B5.out.trans (hbx.mono B5.out.size)
            have hsw := hww.size
            have hsx := hbx.size
            have z5 := boxs (CELX.out wr hbx) 5 _ rfl
            have y5 := boxs (CELY.out wr hbx) 5 _ rfl
            by_cases hlt : k < nj2
            · have hlb := hlt
              obtain ⟨b5, o5, u, au, nu, cu, hu, e5, hbB5, f0, f1, g1, g2, lu⟩ := saved_at L2.out k hlt
              obtain ⟨b6, o6, v, av, nv, cv, hv, e6, hbB6, f2, f3, g3, g4, lv⟩ := saved_at M2.out k hlb
              subst e5
              subst e6
              have hbu := bulk_mem shSaved.bulk _ k u hu
              have hbv := bulk_mem shSaved.bulk _ k v hv
              rw [shSaved_bulk, bulk_list shRow lu] at hbu
              rw [shSaved_bulk, bulk_list shRow lv] at hbv
              obtain ⟨A, hA⟩ : ∃ K, u.1 = K := ⟨_, rfl⟩
              obtain ⟨A', hA'⟩ : ∃ K, v.1 = K := ⟨_, rfl⟩
              rw [hA] at f0
              rw [hA'] at f2
              have c0 := (hww.cell (p := ⟨b5, o5 + k * 2, none⟩) hbB5).trans f0
              have c1 := (hww.cell (p := ⟨b5, o5 + k * 2 + 1, none⟩) hbB5).trans f1
              have c2 := (hww.cell (p := ⟨b6, o6 + k * 2, none⟩) hbB6).trans f2
              have c3 := (hww.cell (p := ⟨b6, o6 + k * 2 + 1, none⟩) hbB6).trans f3
              obtain ⟨p, hp⟩ := bool_of (u.2 = v.2)
              have HC := Lib.hid fun (w2 : World) (hx : Below w.heap.size wr w2) => specSameRows_r w2 au nu cu u.2 ((lu.below (hww.trans hx) (Nat.le_refl _)).le (hww.trans hx).size) (by have := SX2.out; omega) av nv cv v.2 ((lv.below (hww.trans hx) (Nat.le_refl _)).le (hww.trans hx).size) (by have := SY2.out; omega) p hp
              have HNE := Lib.hid fun (hne : u ≠ v) => HNO.out fun e => by
                have h1 : (x.2.2.2.2.2.1)[k]? = (y.2.2.2.2.2.1)[k]? := by rw [e]
                rw [hu, hv] at h1
                exact hne (Option.some.inj h1)
              have HX := Lib.hid hu
              have HY := Lib.hid hv
              have HBX := Lib.hid hbx
              have HA1 := Lib.hid hA
              have HA2 := Lib.hid hA'
              have HP := Lib.hid hp
              clear f0 f1 f2 f3 hu hv hA hA' lu lv hbu hbv hbx hp g1 g2 g3 g4 hww
              by_cases e2 : A = A'
              case neg =>
                have k2 : (A != A') = true := by simpa using e2
                obtain rfl : R = false := HNE.out fun e => e2 (by rw [← HA1.out, ← HA2.out, e])
                clear e2
                go_upto_region 16 with fail
                have kk0 := cell_regrown z5
                have kk1 := cell_regrown y5
                have kk2 := cell_regrown c0
                have kk3 := cell_regrown c1
                have kk4 := cell_regrown c2
                have kk5 := cell_regrown c3
                have cC0 := fun d os => Calls.regrown_of (w := wr) (d := d) (os := os) (HC.out _ ((below_regrown wr d os).mono hsw))
                have CC0 := Lib.hid cC0
                clear z5 y5 c0 c1 c2 c3 cC0
                refine wp_region_quiet_below (by kernel_rfl) (by kernel_rfl) ?_
                repeat (go_big_quiet_step (with_reducible first | exact CC0.out _ _))
                refine wpQuiet_nil ?_
                intro _ hw'
                obtain ⟨⟨dq, osq⟩, hw''⟩ := hw'
                subst hw''
                have hwq := below_regrown wr dq osq
                generalize grow (redrawn wr dq) osq = wq at hwq ⊢
                have HW := Lib.hid hwq
                clear hwq kk0 kk1 kk2 kk3 kk4 kk5
                have HWX := Lib.hid (HW.out.mono hsx)
                go_wp2_with fail
                go_ret
                exact ⟨rfl, B5.out.trans ((HBX.out.trans (HWX.out)).mono B5.out.size)⟩
              have k2 : (A != A') = false := by simpa using e2
              have E2 := Lib.hid e2
              clear e2
              cases p
              · obtain rfl : R = false := HNE.out fun e => by
                  have := HP.out.2 (by rw [e])
                  cases this
                go_upto_region 16 with fail
                have kk0 := cell_regrown z5
                have kk1 := cell_regrown y5
                have kk2 := cell_regrown c0
                have kk3 := cell_regrown c1
                have kk4 := cell_regrown c2
                have kk5 := cell_regrown c3
                have cC0 := fun d os => Calls.regrown_of (w := wr) (d := d) (os := os) (HC.out _ ((below_regrown wr d os).mono hsw))
                have CC0 := Lib.hid cC0
                clear z5 y5 c0 c1 c2 c3 cC0
                refine wp_region_quiet_below (by kernel_rfl) (by kernel_rfl) ?_
                repeat (go_big_quiet_step (with_reducible first | exact CC0.out _ _))
                refine wpQuiet_nil ?_
                intro _ hw'
                obtain ⟨⟨dq, osq⟩, hw''⟩ := hw'
                subst hw''
                have hwq := below_regrown wr dq osq
                generalize grow (redrawn wr dq) osq = wq at hwq ⊢
                have HW := Lib.hid hwq
                clear hwq kk0 kk1 kk2 kk3 kk4 kk5
                have HWX := Lib.hid (HW.out.mono hsx)
                go_wp2_with fail
                go_ret
                exact ⟨rfl, B5.out.trans ((HBX.out.trans (HWX.out)).mono B5.out.size)⟩
              · have HEQ : Hid (u = v) := Lib.hid (Prod.ext (by rw [HA1.out, HA2.out, E2.out]) (HP.out.1 rfl))
                go_upto_region 16 with fail
                have kk0 := cell_regrown z5
                have kk1 := cell_regrown y5
                have kk2 := cell_regrown c0
                have kk3 := cell_regrown c1
                have kk4 := cell_regrown c2
                have kk5 := cell_regrown c3
                have cC0 := fun d os => Calls.regrown_of (w := wr) (d := d) (os := os) (HC.out _ ((below_regrown wr d os).mono hsw))
                have CC0 := Lib.hid cC0
                clear z5 y5 c0 c1 c2 c3 cC0
                refine wp_region_quiet_below (by kernel_rfl) (by kernel_rfl) ?_
                repeat (go_big_quiet_step (with_reducible first | exact CC0.out _ _))
                refine wpQuiet_nil ?_
                intro _ hw'
                obtain ⟨⟨dq, osq⟩, hw''⟩ := hw'
                subst hw''
                have hwq := below_regrown wr dq osq
                generalize grow (redrawn wr dq) osq = wq at hwq ⊢
                have HW := Lib.hid hwq
                clear hwq kk0 kk1 kk2 kk3 kk4 kk5
                have HWX := Lib.hid (HW.out.mono hsx)
                go_wp2_with fail
                go_roundw
                case rel =>
                  refine ⟨k + 1, by omega, by go_num, Lib.hid fun t ht => ?_, HBX.out.trans HWX.out⟩
                  by_cases e : t = k
                  · subst e
                    rw [HX.out, HY.out, HEQ.out]
                  · exact hin.out t (by omega)
                case measure => simp [intOf]; omega
            · obtain rfl : k = nj2 := by omega
              have EStash : Hid (x.2.2.2.2.2.1 = y.2.2.2.2.2.1) := Lib.hid (same_list (by rw [show (x.2.2.2.2.2.1).length = k from L2.out.1, show (y.2.2.2.2.2.1).length = k from M2.out.1]) fun t ht => hin.out t (by rw [← show (x.2.2.2.2.2.1).length = k from L2.out.1]; exact ht))
              have HBStash := Lib.hid hbx
              clear hin hbx hww hsw hsx
              obtain rfl : R = true := HYES.out (Prod.ext (QPc.out.trans SPc.out.symm) (Prod.ext (EPlan.out) (Prod.ext (EOps.out) (Prod.ext (QLast.out.trans SLast.out.symm) (Prod.ext (QRedo.out.trans SRedo.out.symm) (Prod.ext (EStash.out) (Prod.ext (YFull.out (by first | rfl | trivial)) (Prod.ext (YX.out (by first | rfl | trivial)) (Prod.ext (YY.out (by first | rfl | trivial)) (Prod.ext (YG.out (by first | rfl | trivial)) (Prod.ext (YD.out (by first | rfl | trivial)) (YSum.out (by first | rfl | trivial)))))))))))))
              go_wp2_with fail
              go_ret
              exact ⟨rfl, B5.out.trans (HBStash.out.mono B5.out.size)⟩
end Go.Proofs.Ytcooobnaocbdjaa
