/-
  Pipes: the program's SamePipe: stages compared, and pipes (mksame.py Stage).
-/
import Derived.Test.YtcooobnaocbdjaaJoin41
namespace Go.Proofs.Ytcooobnaocbdjaa
open Go.RowKit Go.Sort
set_option linter.unusedVariables false
set_option linter.unusedSimpArgs false

set_option maxRecDepth 100000 in
set_option maxHeartbeats 6400000 in
theorem implSameStage_d (w : World) (es : List Value) (x : dStage) (h : shStage.reads (Under w.heap.size) w es x) (hb : shStage.bulk x ≤ 1048576) (es' : List Value) (y : dStage) (h' : shStage.reads (Under w.heap.size) w es' y) (hb' : shStage.bulk y ≤ 1048576) (R : Bool) (hR : R = true ↔ x = y) :
    Calls Try.prog 53 #[.agg es.toArray, .agg es'.toArray] w fun e w' => e = .returned (.bool R) ∧ Below w.heap.size w w' := by
  obtain ⟨j0, nj0, cj0, j1, nj1, cj1, j2, nj2, cj2, j3, nj3, cj3, j4, nj4, cj4, j5, nj5, cj5, j6, nj6, cj6, j7, nj7, cj7, j8, nj8, cj8, rfl, ⟨pj0, rj0, l0⟩, ⟨pj1, rj1, l1⟩, ⟨pj2, rj2, l2⟩, ⟨pj3, rj3, l3⟩, ⟨pj4, rj4, l4⟩, ⟨pj5, rj5, l5⟩, ⟨pj6, rj6, l6⟩, ⟨pj7, rj7, l7⟩, ⟨pj8, rj8, l8⟩⟩ := shStage_reads.1 h
  obtain ⟨b0, nb0, cb0, b1, nb1, cb1, b2, nb2, cb2, b3, nb3, cb3, b4, nb4, cb4, b5, nb5, cb5, b6, nb6, cb6, b7, nb7, cb7, b8, nb8, cb8, rfl, ⟨pb0, rb0, m0⟩, ⟨pb1, rb1, m1⟩, ⟨pb2, rb2, m2⟩, ⟨pb3, rb3, m3⟩, ⟨pb4, rb4, m4⟩, ⟨pb5, rb5, m5⟩, ⟨pb6, rb6, m6⟩, ⟨pb7, rb7, m7⟩, ⟨pb8, rb8, m8⟩⟩ := shStage_reads.1 h'
  rw [shStage_bulk, bulk_ins, bulk_list shOp l1, bulk_list shSaved l2, bulk_list shRow l3, bulk_ints, bulk_ints, bulk_ints, bulk_ints, bulk_list shRow l8] at hb
  rw [shStage_bulk, bulk_ins, bulk_list shOp m1, bulk_list shSaved m2, bulk_list shRow m3, bulk_ints, bulk_ints, bulk_ints, bulk_ints, bulk_list shRow m8] at hb'
  have HNO := Lib.hid fun (hn : ¬ x = y) => no_of hR hn
  have HYES := Lib.hid hR.2
  have v0 : x.2.1.length = nj0 := l0.1
  have u0 : y.2.1.length = nb0 := m0.1
  have v4 : x.2.2.2.2.2.2.2.1.length = nj4 := l4.1
  have u4 : y.2.2.2.2.2.2.2.1.length = nb4 := m4.1
  have v5 : x.2.2.2.2.2.2.2.2.1.length = nj5 := l5.1
  have u5 : y.2.2.2.2.2.2.2.2.1.length = nb5 := m5.1
  have v6 : x.2.2.2.2.2.2.2.2.2.1.length = nj6 := l6.1
  have u6 : y.2.2.2.2.2.2.2.2.2.1.length = nb6 := m6.1
  have v7 : x.2.2.2.2.2.2.2.2.2.2.1.length = nj7 := l7.1
  have u7 : y.2.2.2.2.2.2.2.2.2.2.1.length = nb7 := m7.1
  obtain ⟨q0, hq0⟩ : ∃ q, x.1 = q := ⟨_, rfl⟩
  obtain ⟨q3, hq3⟩ : ∃ q, x.2.2.2.1 = q := ⟨_, rfl⟩
  obtain ⟨q4, hq4⟩ : ∃ q, x.2.2.2.2.1 = q := ⟨_, rfl⟩
  obtain ⟨q12, hq12⟩ : ∃ q, x.2.2.2.2.2.2.2.2.2.2.2.2.1 = q := ⟨_, rfl⟩
  obtain ⟨q13, hq13⟩ : ∃ q, x.2.2.2.2.2.2.2.2.2.2.2.2.2 = q := ⟨_, rfl⟩
  obtain ⟨r0, hr0⟩ : ∃ q, y.1 = q := ⟨_, rfl⟩
  obtain ⟨r3, hr3⟩ : ∃ q, y.2.2.2.1 = q := ⟨_, rfl⟩
  obtain ⟨r4, hr4⟩ : ∃ q, y.2.2.2.2.1 = q := ⟨_, rfl⟩
  obtain ⟨r12, hr12⟩ : ∃ q, y.2.2.2.2.2.2.2.2.2.2.2.2.1 = q := ⟨_, rfl⟩
  obtain ⟨r13, hr13⟩ : ∃ q, y.2.2.2.2.2.2.2.2.2.2.2.2.2 = q := ⟨_, rfl⟩
  obtain ⟨e1, he1⟩ := bool_of (x.2.1 = y.2.1)
  have C1 := Lib.hid fun (wx : World) (hx : Below w.heap.size w wx) => equal_Ins wx j0 nj0 cj0 _ ((l0.below hx (Nat.le_refl _)).le hx.size) (by omega) b0 nb0 cb0 _ ((m0.below hx (Nat.le_refl _)).le hx.size) e1 he1
  have N1 : Hid (e1 = false → ¬ x = y) := Lib.hid fun h1 h2 => by
    rw [← Bool.not_eq_true, he1] at h1
    exact h1 (by rw [h2])
  have Y1 : Hid (e1 = true → x.2.1 = y.2.1) := Lib.hid he1.1
  obtain ⟨e2, he2⟩ := bool_of (x.2.2.1 = y.2.2.1)
  have C2 := Lib.hid fun (wx : World) (hx : Below w.heap.size w wx) => equalFunc_Op wx j1 nj1 cj1 _ ((l1.below hx (Nat.le_refl _)).le hx.size) (by omega) (by omega) b1 nb1 cb1 _ ((m1.below hx (Nat.le_refl _)).le hx.size) (by omega) e2 he2
  have N2 : Hid (e2 = false → ¬ x = y) := Lib.hid fun h1 h2 => by
    rw [← Bool.not_eq_true, he2] at h1
    exact h1 (by rw [h2])
  have Y2 : Hid (e2 = true → x.2.2.1 = y.2.2.1) := Lib.hid he2.1
  obtain ⟨e5, he5⟩ := bool_of (x.2.2.2.2.2.1 = y.2.2.2.2.2.1)
  have C5 := Lib.hid fun (wx : World) (hx : Below w.heap.size w wx) => equalFunc_Saved wx j2 nj2 cj2 _ ((l2.below hx (Nat.le_refl _)).le hx.size) (by omega) (by omega) b2 nb2 cb2 _ ((m2.below hx (Nat.le_refl _)).le hx.size) (by omega) e5 he5
  have N5 : Hid (e5 = false → ¬ x = y) := Lib.hid fun h1 h2 => by
    rw [← Bool.not_eq_true, he5] at h1
    exact h1 (by rw [h2])
  have Y5 : Hid (e5 = true → x.2.2.2.2.2.1 = y.2.2.2.2.2.1) := Lib.hid he5.1
  obtain ⟨e6, he6⟩ := bool_of (x.2.2.2.2.2.2.1 = y.2.2.2.2.2.2.1)
  have C6 := Lib.hid fun (wx : World) (hx : Below w.heap.size w wx) => implSameRows_r wx j3 nj3 cj3 _ ((l3.below hx (Nat.le_refl _)).le hx.size) (by omega) (by omega) (by omega) b3 nb3 cb3 _ ((m3.below hx (Nat.le_refl _)).le hx.size) (by omega) pj3 rj3 pb3 rb3 e6 he6
  have N6 : Hid (e6 = false → ¬ x = y) := Lib.hid fun h1 h2 => by
    rw [← Bool.not_eq_true, he6] at h1
    exact h1 (by rw [h2])
  have Y6 : Hid (e6 = true → x.2.2.2.2.2.2.1 = y.2.2.2.2.2.2.1) := Lib.hid he6.1
  obtain ⟨e7, he7⟩ := bool_of (x.2.2.2.2.2.2.2.1 = y.2.2.2.2.2.2.2.1)
  have C7 := Lib.hid fun (wx : World) (hx : Below w.heap.size w wx) => implSameVec_r wx j4 nj4 cj4 _ b4 nb4 cb4 _ (((l4.ints (by omega)).below hx (Nat.le_refl _)).le hx.size) (((m4.ints (by omega)).below hx (Nat.le_refl _)).le hx.size) e7 he7
  have N7 : Hid (e7 = false → ¬ x = y) := Lib.hid fun h1 h2 => by
    rw [← Bool.not_eq_true, he7] at h1
    exact h1 (by rw [h2])
  have Y7 : Hid (e7 = true → x.2.2.2.2.2.2.2.1 = y.2.2.2.2.2.2.2.1) := Lib.hid he7.1
  obtain ⟨e8, he8⟩ := bool_of (x.2.2.2.2.2.2.2.2.1 = y.2.2.2.2.2.2.2.2.1)
  have C8 := Lib.hid fun (wx : World) (hx : Below w.heap.size w wx) => implSameVec_r wx j5 nj5 cj5 _ b5 nb5 cb5 _ (((l5.ints (by omega)).below hx (Nat.le_refl _)).le hx.size) (((m5.ints (by omega)).below hx (Nat.le_refl _)).le hx.size) e8 he8
  have N8 : Hid (e8 = false → ¬ x = y) := Lib.hid fun h1 h2 => by
    rw [← Bool.not_eq_true, he8] at h1
    exact h1 (by rw [h2])
  have Y8 : Hid (e8 = true → x.2.2.2.2.2.2.2.2.1 = y.2.2.2.2.2.2.2.2.1) := Lib.hid he8.1
  obtain ⟨e9, he9⟩ := bool_of (x.2.2.2.2.2.2.2.2.2.1 = y.2.2.2.2.2.2.2.2.2.1)
  have C9 := Lib.hid fun (wx : World) (hx : Below w.heap.size w wx) => implSameVec_r wx j6 nj6 cj6 _ b6 nb6 cb6 _ (((l6.ints (by omega)).below hx (Nat.le_refl _)).le hx.size) (((m6.ints (by omega)).below hx (Nat.le_refl _)).le hx.size) e9 he9
  have N9 : Hid (e9 = false → ¬ x = y) := Lib.hid fun h1 h2 => by
    rw [← Bool.not_eq_true, he9] at h1
    exact h1 (by rw [h2])
  have Y9 : Hid (e9 = true → x.2.2.2.2.2.2.2.2.2.1 = y.2.2.2.2.2.2.2.2.2.1) := Lib.hid he9.1
  obtain ⟨e10, he10⟩ := bool_of (x.2.2.2.2.2.2.2.2.2.2.1 = y.2.2.2.2.2.2.2.2.2.2.1)
  have C10 := Lib.hid fun (wx : World) (hx : Below w.heap.size w wx) => implSameVec_r wx j7 nj7 cj7 _ b7 nb7 cb7 _ (((l7.ints (by omega)).below hx (Nat.le_refl _)).le hx.size) (((m7.ints (by omega)).below hx (Nat.le_refl _)).le hx.size) e10 he10
  have N10 : Hid (e10 = false → ¬ x = y) := Lib.hid fun h1 h2 => by
    rw [← Bool.not_eq_true, he10] at h1
    exact h1 (by rw [h2])
  have Y10 : Hid (e10 = true → x.2.2.2.2.2.2.2.2.2.2.1 = y.2.2.2.2.2.2.2.2.2.2.1) := Lib.hid he10.1
  obtain ⟨e11, he11⟩ := bool_of (x.2.2.2.2.2.2.2.2.2.2.2 = y.2.2.2.2.2.2.2.2.2.2.2)
  have C11 := Lib.hid fun (wx : World) (hx : Below w.heap.size w wx) => implSameGrads_r wx [.slice j8 nj8 cj8, .int .i64 q12, .bool q13] x.2.2.2.2.2.2.2.2.2.2.2 (shGrads_reads.2 ⟨_, _, _, by rw [hq12, hq13], pj8, rj8, (l8.below hx (Nat.le_refl _)).le hx.size⟩) (by rw [shGrads_bulk, bulk_list shRow l8]; omega) [.slice b8 nb8 cb8, .int .i64 r12, .bool r13] y.2.2.2.2.2.2.2.2.2.2.2 (shGrads_reads.2 ⟨_, _, _, by rw [hr12, hr13], pb8, rb8, (m8.below hx (Nat.le_refl _)).le hx.size⟩) (by rw [shGrads_bulk, bulk_list shRow m8]; omega) e11 he11
  have N11 : Hid (e11 = false → ¬ x = y) := Lib.hid fun h1 h2 => by
    rw [← Bool.not_eq_true, he11] at h1
    exact h1 (by rw [h2])
  have Y11 : Hid (e11 = true → x.2.2.2.2.2.2.2.2.2.2.2 = y.2.2.2.2.2.2.2.2.2.2.2) := Lib.hid he11.1
  have Q0 : Hid (x.1 = q0) := Lib.hid hq0
  have S0 : Hid (y.1 = r0) := Lib.hid hr0
  have Q3 : Hid (x.2.2.2.1 = q3) := Lib.hid hq3
  have S3 : Hid (y.2.2.2.1 = r3) := Lib.hid hr3
  have Q4 : Hid (x.2.2.2.2.1 = q4) := Lib.hid hq4
  have S4 : Hid (y.2.2.2.2.1 = r4) := Lib.hid hr4
  rw [hq0, hq3, hq4, hq12, hq13, hr0, hr3, hr4, hr12, hr13]
  have hal := ((Below.refl w.heap.size w).alloc (Nat.le_refl _) (.cells #[.int .i64 q0, .slice j0 nj0 cj0, .slice j1 nj1 cj1, .bool q3, .bool q4, .slice j2 nj2 cj2, .slice j3 nj3 cj3, .slice j4 nj4 cj4, .slice j5 nj5 cj5, .slice j6 nj6 cj6, .slice j7 nj7 cj7, .slice j8 nj8 cj8, .int .i64 q12, .bool q13] 60 (0, 0))).alloc (by simp) (.cells #[.int .i64 r0, .slice b0 nb0 cb0, .slice b1 nb1 cb1, .bool r3, .bool r4, .slice b2 nb2 cb2, .slice b3 nb3 cb3, .slice b4 nb4 cb4, .slice b5 nb5 cb5, .slice b6 nb6 cb6, .slice b7 nb7 cb7, .slice b8 nb8 cb8, .int .i64 r12, .bool r13] 60 (0, 0))
  have hA : ((w.alloc (.cells #[.int .i64 q0, .slice j0 nj0 cj0, .slice j1 nj1 cj1, .bool q3, .bool q4, .slice j2 nj2 cj2, .slice j3 nj3 cj3, .slice j4 nj4 cj4, .slice j5 nj5 cj5, .slice j6 nj6 cj6, .slice j7 nj7 cj7, .slice j8 nj8 cj8, .int .i64 q12, .bool q13] 60 (0, 0))).alloc (.cells #[.int .i64 r0, .slice b0 nb0 cb0, .slice b1 nb1 cb1, .bool r3, .bool r4, .slice b2 nb2 cb2, .slice b3 nb3 cb3, .slice b4 nb4 cb4, .slice b5 nb5 cb5, .slice b6 nb6 cb6, .slice b7 nb7 cb7, .slice b8 nb8 cb8, .int .i64 r12, .bool r13] 60 (0, 0))).heap[w.heap.size]? = some (.cells #[.int .i64 q0, .slice j0 nj0 cj0, .slice j1 nj1 cj1, .bool q3, .bool q4, .slice j2 nj2 cj2, .slice j3 nj3 cj3, .slice j4 nj4 cj4, .slice j5 nj5 cj5, .slice j6 nj6 cj6, .slice j7 nj7 cj7, .slice j8 nj8 cj8, .int .i64 q12, .bool q13] 60 (0, 0)) := by
    rw [Below.heap_alloc _ _ _ (by simp)]
    exact heap_alloc_new w _
  have hC : ((w.alloc (.cells #[.int .i64 q0, .slice j0 nj0 cj0, .slice j1 nj1 cj1, .bool q3, .bool q4, .slice j2 nj2 cj2, .slice j3 nj3 cj3, .slice j4 nj4 cj4, .slice j5 nj5 cj5, .slice j6 nj6 cj6, .slice j7 nj7 cj7, .slice j8 nj8 cj8, .int .i64 q12, .bool q13] 60 (0, 0))).alloc (.cells #[.int .i64 r0, .slice b0 nb0 cb0, .slice b1 nb1 cb1, .bool r3, .bool r4, .slice b2 nb2 cb2, .slice b3 nb3 cb3, .slice b4 nb4 cb4, .slice b5 nb5 cb5, .slice b6 nb6 cb6, .slice b7 nb7 cb7, .slice b8 nb8 cb8, .int .i64 r12, .bool r13] 60 (0, 0))).heap[w.heap.size + 1]? = some (.cells #[.int .i64 r0, .slice b0 nb0 cb0, .slice b1 nb1 cb1, .bool r3, .bool r4, .slice b2 nb2 cb2, .slice b3 nb3 cb3, .slice b4 nb4 cb4, .slice b5 nb5 cb5, .slice b6 nb6 cb6, .slice b7 nb7 cb7, .slice b8 nb8 cb8, .int .i64 r12, .bool r13] 60 (0, 0)) := by
    have := heap_alloc_new (w.alloc (.cells #[.int .i64 q0, .slice j0 nj0 cj0, .slice j1 nj1 cj1, .bool q3, .bool q4, .slice j2 nj2 cj2, .slice j3 nj3 cj3, .slice j4 nj4 cj4, .slice j5 nj5 cj5, .slice j6 nj6 cj6, .slice j7 nj7 cj7, .slice j8 nj8 cj8, .int .i64 q12, .bool q13] 60 (0, 0))) (.cells #[.int .i64 r0, .slice b0 nb0 cb0, .slice b1 nb1 cb1, .bool r3, .bool r4, .slice b2 nb2 cb2, .slice b3 nb3 cb3, .slice b4 nb4 cb4, .slice b5 nb5 cb5, .slice b6 nb6 cb6, .slice b7 nb7 cb7, .slice b8 nb8 cb8, .int .i64 r12, .bool r13] 60 (0, 0))
    simpa using this
  have hS : w.heap.size + 1 < ((w.alloc (.cells #[.int .i64 q0, .slice j0 nj0 cj0, .slice j1 nj1 cj1, .bool q3, .bool q4, .slice j2 nj2 cj2, .slice j3 nj3 cj3, .slice j4 nj4 cj4, .slice j5 nj5 cj5, .slice j6 nj6 cj6, .slice j7 nj7 cj7, .slice j8 nj8 cj8, .int .i64 q12, .bool q13] 60 (0, 0))).alloc (.cells #[.int .i64 r0, .slice b0 nb0 cb0, .slice b1 nb1 cb1, .bool r3, .bool r4, .slice b2 nb2 cb2, .slice b3 nb3 cb3, .slice b4 nb4 cb4, .slice b5 nb5 cb5, .slice b6 nb6 cb6, .slice b7 nb7 cb7, .slice b8 nb8 cb8, .int .i64 r12, .bool r13] 60 (0, 0))).heap.size := by simp
  have HA := Lib.hid hal
  have XA := Lib.hid hA
  have XC := Lib.hid hC
  have HS := Lib.hid hS
  clear h h' hb hb' hR hal hA hC hS pj0 rj0 l0 pb0 rb0 m0 pj1 rj1 l1 pb1 rb1 m1 pj2 rj2 l2 pb2 rb2 m2 pj3 rj3 l3 pb3 rb3 m3 pj4 rj4 l4 pb4 rb4 m4 pj5 rj5 l5 pb5 rb5 m5 pj6 rj6 l6 pb6 rb6 m6 pj7 rj7 l7 pb7 rb7 m7 pj8 rj8 l8 pb8 rb8 m8 hq0 hq3 hq4 hq12 hq13 hr0 hr3 hr4 hr12 hr13 he1 he2 he5 he6 he7 he8 he9 he10 he11
  clear v0 u0 v4 u4 v5 u5 v6 u6 v7 u7
  by_cases d0 : q0 = r0
  case neg =>
    have g0 : ((q0 : Int) == r0) = false := beq_eq_false_iff_ne.2 d0
    obtain rfl : R = false := HNO.out fun e => d0 (by rw [← Q0.out, ← S0.out, e])
    clear d0
    go_enter Try.func53, Try.ntmps53
    go_wp2_with fail
    go_ret
    exact ⟨rfl, HA.out⟩
  have g0 : ((q0 : Int) == r0) = true := beq_iff_eq.2 d0
  have D0 := Lib.hid d0
  clear d0
  by_cases d3 : q3 = r3
  case neg =>
    have g3 : ((q3 : Bool) == r3) = false := beq_eq_false_iff_ne.2 d3
    obtain rfl : R = false := HNO.out fun e => d3 (by rw [← Q3.out, ← S3.out, e])
    clear d3
    go_enter Try.func53, Try.ntmps53
    go_wp2_with fail
    go_ret
    exact ⟨rfl, HA.out⟩
  have g3 : ((q3 : Bool) == r3) = true := beq_iff_eq.2 d3
  have D3 := Lib.hid d3
  clear d3
  by_cases d4 : q4 = r4
  case neg =>
    have g4 : ((q4 : Bool) == r4) = false := beq_eq_false_iff_ne.2 d4
    obtain rfl : R = false := HNO.out fun e => d4 (by rw [← Q4.out, ← S4.out, e])
    clear d4
    go_enter Try.func53, Try.ntmps53
    go_wp2_with fail
    go_ret
    exact ⟨rfl, HA.out⟩
  have g4 : ((q4 : Bool) == r4) = true := beq_iff_eq.2 d4
  have D4 := Lib.hid d4
  clear d4
  cases e1
  · obtain rfl : R = false := HNO.out (N1.out (by first | rfl | trivial))
    go_enter Try.func53, Try.ntmps53
    go_wp2_with fail
    refine (C1.out _ HA.out).mono ?_
    rintro e w1 ⟨rfl, hb⟩
    have B0 := Lib.hid (HA.out.trans (hb.mono HA.out.size))
    clear hb
    go_wp2_with fail
    go_ret
    exact ⟨rfl, B0.out⟩
  go_enter Try.func53, Try.ntmps53
  go_wp2_with fail
  refine (C1.out _ HA.out).mono ?_
  rintro e w1 ⟨rfl, hb⟩
  have B0 := Lib.hid (HA.out.trans (hb.mono HA.out.size))
  have XA0 := Lib.hid ((hb.block w.heap.size (by have := HS.out; omega)).trans XA.out)
  have XC0 := Lib.hid ((hb.block (w.heap.size + 1) HS.out).trans XC.out)
  have HS0 := Lib.hid (Nat.lt_of_lt_of_le HS.out hb.size)
  clear hb
  have z2 := boxs XA0.out 2 _ rfl
  have y2 := boxs XC0.out 2 _ rfl
  cases e2
  · obtain rfl : R = false := HNO.out (N2.out (by first | rfl | trivial))
    go_wp2_with fail
    clear z2 y2
    refine (C2.out _ B0.out).mono ?_
    rintro e w2 ⟨rfl, hb⟩
    have B1 := Lib.hid (B0.out.trans (hb.mono B0.out.size))
    clear hb
    go_wp2_with fail
    go_ret
    exact ⟨rfl, B1.out⟩
  go_wp2_with fail
  clear z2 y2
  refine (C2.out _ B0.out).mono ?_
  rintro e w2 ⟨rfl, hb⟩
  have B1 := Lib.hid (B0.out.trans (hb.mono B0.out.size))
  have XA1 := Lib.hid ((hb.block w.heap.size (by have := HS0.out; omega)).trans XA0.out)
  have XC1 := Lib.hid ((hb.block (w.heap.size + 1) HS0.out).trans XC0.out)
  have HS1 := Lib.hid (Nat.lt_of_lt_of_le HS0.out hb.size)
  clear hb
  have z5 := boxs XA1.out 5 _ rfl
  have y5 := boxs XC1.out 5 _ rfl
  cases e5
  · obtain rfl : R = false := HNO.out (N5.out (by first | rfl | trivial))
    go_wp2_with fail
    clear z5 y5
    refine (C5.out _ B1.out).mono ?_
    rintro e w3 ⟨rfl, hb⟩
    have B2 := Lib.hid (B1.out.trans (hb.mono B1.out.size))
    clear hb
    go_wp2_with fail
    go_ret
    exact ⟨rfl, B2.out⟩
  go_wp2_with fail
  clear z5 y5
  refine (C5.out _ B1.out).mono ?_
  rintro e w3 ⟨rfl, hb⟩
  have B2 := Lib.hid (B1.out.trans (hb.mono B1.out.size))
  have XA2 := Lib.hid ((hb.block w.heap.size (by have := HS1.out; omega)).trans XA1.out)
  have XC2 := Lib.hid ((hb.block (w.heap.size + 1) HS1.out).trans XC1.out)
  have HS2 := Lib.hid (Nat.lt_of_lt_of_le HS1.out hb.size)
  clear hb
  have z6 := boxs XA2.out 6 _ rfl
  have y6 := boxs XC2.out 6 _ rfl
  cases e6
  · obtain rfl : R = false := HNO.out (N6.out (by first | rfl | trivial))
    go_wp2_with fail
    clear z6 y6
    refine (C6.out _ B2.out).mono ?_
    rintro e w4 ⟨rfl, hb⟩
    have B3 := Lib.hid (B2.out.trans (hb.mono B2.out.size))
    clear hb
    go_wp2_with fail
    go_ret
    exact ⟨rfl, B3.out⟩
  go_wp2_with fail
  clear z6 y6
  refine (C6.out _ B2.out).mono ?_
  rintro e w4 ⟨rfl, hb⟩
  have B3 := Lib.hid (B2.out.trans (hb.mono B2.out.size))
  have XA3 := Lib.hid ((hb.block w.heap.size (by have := HS2.out; omega)).trans XA2.out)
  have XC3 := Lib.hid ((hb.block (w.heap.size + 1) HS2.out).trans XC2.out)
  have HS3 := Lib.hid (Nat.lt_of_lt_of_le HS2.out hb.size)
  clear hb
  have z7 := boxs XA3.out 7 _ rfl
  have y7 := boxs XC3.out 7 _ rfl
  cases e7
  · obtain rfl : R = false := HNO.out (N7.out (by first | rfl | trivial))
    go_wp2_with fail
    clear z7 y7
    refine (C7.out _ B3.out).mono ?_
    rintro e w5 ⟨rfl, hb⟩
    have B4 := Lib.hid (B3.out.trans (hb.mono B3.out.size))
    clear hb
    go_wp2_with fail
    go_ret
    exact ⟨rfl, B4.out⟩
  go_wp2_with fail
  clear z7 y7
  refine (C7.out _ B3.out).mono ?_
  rintro e w5 ⟨rfl, hb⟩
  have B4 := Lib.hid (B3.out.trans (hb.mono B3.out.size))
  have XA4 := Lib.hid ((hb.block w.heap.size (by have := HS3.out; omega)).trans XA3.out)
  have XC4 := Lib.hid ((hb.block (w.heap.size + 1) HS3.out).trans XC3.out)
  have HS4 := Lib.hid (Nat.lt_of_lt_of_le HS3.out hb.size)
  clear hb
  have z8 := boxs XA4.out 8 _ rfl
  have y8 := boxs XC4.out 8 _ rfl
  cases e8
  · obtain rfl : R = false := HNO.out (N8.out (by first | rfl | trivial))
    go_wp2_with fail
    clear z8 y8
    refine (C8.out _ B4.out).mono ?_
    rintro e w6 ⟨rfl, hb⟩
    have B5 := Lib.hid (B4.out.trans (hb.mono B4.out.size))
    clear hb
    go_wp2_with fail
    go_ret
    exact ⟨rfl, B5.out⟩
  go_wp2_with fail
  clear z8 y8
  refine (C8.out _ B4.out).mono ?_
  rintro e w6 ⟨rfl, hb⟩
  have B5 := Lib.hid (B4.out.trans (hb.mono B4.out.size))
  have XA5 := Lib.hid ((hb.block w.heap.size (by have := HS4.out; omega)).trans XA4.out)
  have XC5 := Lib.hid ((hb.block (w.heap.size + 1) HS4.out).trans XC4.out)
  have HS5 := Lib.hid (Nat.lt_of_lt_of_le HS4.out hb.size)
  clear hb
  have z9 := boxs XA5.out 9 _ rfl
  have y9 := boxs XC5.out 9 _ rfl
  cases e9
  · obtain rfl : R = false := HNO.out (N9.out (by first | rfl | trivial))
    go_wp2_with fail
    clear z9 y9
    refine (C9.out _ B5.out).mono ?_
    rintro e w7 ⟨rfl, hb⟩
    have B6 := Lib.hid (B5.out.trans (hb.mono B5.out.size))
    clear hb
    go_wp2_with fail
    go_ret
    exact ⟨rfl, B6.out⟩
  go_wp2_with fail
  clear z9 y9
  refine (C9.out _ B5.out).mono ?_
  rintro e w7 ⟨rfl, hb⟩
  have B6 := Lib.hid (B5.out.trans (hb.mono B5.out.size))
  have XA6 := Lib.hid ((hb.block w.heap.size (by have := HS5.out; omega)).trans XA5.out)
  have XC6 := Lib.hid ((hb.block (w.heap.size + 1) HS5.out).trans XC5.out)
  have HS6 := Lib.hid (Nat.lt_of_lt_of_le HS5.out hb.size)
  clear hb
  have z10 := boxs XA6.out 10 _ rfl
  have y10 := boxs XC6.out 10 _ rfl
  cases e10
  · obtain rfl : R = false := HNO.out (N10.out (by first | rfl | trivial))
    go_wp2_with fail
    clear z10 y10
    refine (C10.out _ B6.out).mono ?_
    rintro e w8 ⟨rfl, hb⟩
    have B7 := Lib.hid (B6.out.trans (hb.mono B6.out.size))
    clear hb
    go_wp2_with fail
    go_ret
    exact ⟨rfl, B7.out⟩
  go_wp2_with fail
  clear z10 y10
  refine (C10.out _ B6.out).mono ?_
  rintro e w8 ⟨rfl, hb⟩
  have B7 := Lib.hid (B6.out.trans (hb.mono B6.out.size))
  have XA7 := Lib.hid ((hb.block w.heap.size (by have := HS6.out; omega)).trans XA6.out)
  have XC7 := Lib.hid ((hb.block (w.heap.size + 1) HS6.out).trans XC6.out)
  have HS7 := Lib.hid (Nat.lt_of_lt_of_le HS6.out hb.size)
  clear hb
  have z11 := boxs XA7.out 11 _ rfl
  have y11 := boxs XC7.out 11 _ rfl
  have z12 := boxs XA7.out 12 _ rfl
  have y12 := boxs XC7.out 12 _ rfl
  have z13 := boxs XA7.out 13 _ rfl
  have y13 := boxs XC7.out 13 _ rfl
  cases e11
  · obtain rfl : R = false := HNO.out (N11.out (by first | rfl | trivial))
    go_wp2_with fail
    clear z11 y11 z12 y12 z13 y13
    refine (C11.out _ B7.out).mono ?_
    rintro e w9 ⟨rfl, hb⟩
    have B8 := Lib.hid (B7.out.trans (hb.mono B7.out.size))
    clear hb
    go_wp2_with fail
    go_ret
    exact ⟨rfl, B8.out⟩
  obtain rfl : R = true := HYES.out (Prod.ext ((by rw [Q0.out, S0.out, D0.out])) (Prod.ext (Y1.out (by first | rfl | trivial)) (Prod.ext (Y2.out (by first | rfl | trivial)) (Prod.ext ((by rw [Q3.out, S3.out, D3.out])) (Prod.ext ((by rw [Q4.out, S4.out, D4.out])) (Prod.ext (Y5.out (by first | rfl | trivial)) (Prod.ext (Y6.out (by first | rfl | trivial)) (Prod.ext (Y7.out (by first | rfl | trivial)) (Prod.ext (Y8.out (by first | rfl | trivial)) (Prod.ext (Y9.out (by first | rfl | trivial)) (Prod.ext (Y10.out (by first | rfl | trivial)) (Y11.out (by first | rfl | trivial)))))))))))))
  go_wp2_with fail
  clear z11 y11 z12 y12 z13 y13
  refine (C11.out _ B7.out).mono ?_
  rintro e w9 ⟨rfl, hb⟩
  have B8 := Lib.hid (B7.out.trans (hb.mono B7.out.size))
  clear hb
  go_wp2_with fail
  go_ret
  exact ⟨rfl, B8.out⟩
theorem eg_sameStage : ∀ args w, (callFunc 53 args).run Try.prog w = .ok (.enter 53 args) w := enters_of Try.func53 (by kernel_rfl) rfl
set_option maxRecDepth 100000 in
set_option maxHeartbeats 6400000 in
theorem equalFunc_Stage (w : World) (a : Option Addr) (n c : Nat) (xs : List dStage) (h : ListAt shStage (Under w.heap.size) w a n xs) (hn : n ≤ 1048576) (hb : Shape.sum shStage.bulk xs ≤ 1048576) (a' : Option Addr) (n' c' : Nat) (ys : List dStage) (h' : ListAt shStage (Under w.heap.size) w a' n' ys) (hb' : Shape.sum shStage.bulk ys ≤ 1048576) (R : Bool) (hR : R = true ↔ xs = ys) :
    Calls Try.prog 52 #[.slice a n c, .slice a' n' c', .func (.func 53) #[] #[]] w fun e w' => e = .returned (.bool R) ∧ Below w.heap.size w w' := by
  have HNO := Lib.hid fun (hn : ¬ xs = ys) => no_of hR hn
  have HYES := Lib.hid hR.2
  have HL := Lib.hid h
  have HL' := Lib.hid h'
  have HB := Lib.hid hb
  have HB' := Lib.hid hb'
  have eg := eg_sameStage
  clear h h' hb hb' hR
  by_cases hnn : n = n'
  · subst hnn
    go_enter Try.func52, Try.ntmps52
    go_wp2_with fail
    go_loopw [17] (fun i wr => ∃ k : Nat, k ≤ n ∧ i = .int .i64 k ∧ Hid (∀ j : Nat, j < k → xs[j]? = ys[j]?) ∧ Below w.heap.size w wr) (fun i _ => n - (intOf i).toNat)
    case atStart => exact ⟨0, Nat.zero_le _, rfl, Lib.hid fun j hj => absurd hj (Nat.not_lt_zero _), Below.refl _ _⟩
    case round =>
      obtain ⟨k, hk, rfl, hall, hbw⟩ := hrel
      have hsz := hbw.size
      by_cases hlt : k < n
      · obtain ⟨x, hx⟩ : ∃ x, xs[k]? = some x := ⟨_, List.getElem?_eq_getElem (by rw [HL.out.1]; exact hlt)⟩
        obtain ⟨y, hy⟩ : ∃ y, ys[k]? = some y := ⟨_, List.getElem?_eq_getElem (by rw [HL'.out.1]; exact hlt)⟩
        obtain ⟨b, o, es, rfl, hbB, hr, hs⟩ := HL.out.2 k x hx
        obtain ⟨b', o', es', rfl, hbB', hr', hs'⟩ := HL'.out.2 k y hy
        have hrr := rangeAt_kept hr (show b < w.heap.size from hbB) (Kept.of_below (I := Under w.heap.size) hbw fun b hb => hb)
        have hsw := shStage.below hs hbw (Nat.le_refl _)
        have hsw' := shStage.below hs' hbw (Nat.le_refl _)
        have hbx : shStage.bulk x ≤ 1048576 := Nat.le_trans (bulk_mem shStage.bulk xs k x hx) HB.out
        have hby : shStage.bulk y ≤ 1048576 := Nat.le_trans (bulk_mem shStage.bulk ys k y hy) HB'.out
        obtain ⟨p, hp⟩ := bool_of (x = y)
        obtain ⟨j0, nj0, cj0, j1, nj1, cj1, j2, nj2, cj2, j3, nj3, cj3, j4, nj4, cj4, j5, nj5, cj5, j6, nj6, cj6, j7, nj7, cj7, j8, nj8, cj8, rfl, -⟩ := shStage_reads.1 hsw
        obtain ⟨b0, nb0, cb0, b1, nb1, cb1, b2, nb2, cb2, b3, nb3, cb3, b4, nb4, cb4, b5, nb5, cb5, b6, nb6, cb6, b7, nb7, cb7, b8, nb8, cb8, rfl, -⟩ := shStage_reads.1 hsw'
        obtain ⟨q0, hq0⟩ : ∃ q, x.1 = q := ⟨_, rfl⟩
        obtain ⟨q3, hq3⟩ : ∃ q, x.2.2.2.1 = q := ⟨_, rfl⟩
        obtain ⟨q4, hq4⟩ : ∃ q, x.2.2.2.2.1 = q := ⟨_, rfl⟩
        obtain ⟨q12, hq12⟩ : ∃ q, x.2.2.2.2.2.2.2.2.2.2.2.2.1 = q := ⟨_, rfl⟩
        obtain ⟨q13, hq13⟩ : ∃ q, x.2.2.2.2.2.2.2.2.2.2.2.2.2 = q := ⟨_, rfl⟩
        obtain ⟨r0, hr0⟩ : ∃ q, y.1 = q := ⟨_, rfl⟩
        obtain ⟨r3, hr3⟩ : ∃ q, y.2.2.2.1 = q := ⟨_, rfl⟩
        obtain ⟨r4, hr4⟩ : ∃ q, y.2.2.2.2.1 = q := ⟨_, rfl⟩
        obtain ⟨r12, hr12⟩ : ∃ q, y.2.2.2.2.2.2.2.2.2.2.2.2.1 = q := ⟨_, rfl⟩
        obtain ⟨r13, hr13⟩ : ∃ q, y.2.2.2.2.2.2.2.2.2.2.2.2.2 = q := ⟨_, rfl⟩
        rw [hq0, hq3, hq4, hq12, hq13] at hsw hrr
        rw [hr0, hr3, hr4, hr12, hr13] at hsw' hr'
        have hal := (Below.refl wr.heap.size wr).alloc (Nat.le_refl _) (.cells #[.int .i64 q0, .slice j0 nj0 cj0, .slice j1 nj1 cj1, .bool q3, .bool q4, .slice j2 nj2 cj2, .slice j3 nj3 cj3, .slice j4 nj4 cj4, .slice j5 nj5 cj5, .slice j6 nj6 cj6, .slice j7 nj7 cj7, .slice j8 nj8 cj8, .int .i64 q12, .bool q13] 60 (0, 0))
        have hg1 : (wr.alloc (.cells #[.int .i64 q0, .slice j0 nj0 cj0, .slice j1 nj1 cj1, .bool q3, .bool q4, .slice j2 nj2 cj2, .slice j3 nj3 cj3, .slice j4 nj4 cj4, .slice j5 nj5 cj5, .slice j6 nj6 cj6, .slice j7 nj7 cj7, .slice j8 nj8 cj8, .int .i64 q12, .bool q13] 60 (0, 0))).heap.size = wr.heap.size + 1 := by simp
        have hk1 := heap_alloc_new wr (.cells #[.int .i64 q0, .slice j0 nj0 cj0, .slice j1 nj1 cj1, .bool q3, .bool q4, .slice j2 nj2 cj2, .slice j3 nj3 cj3, .slice j4 nj4 cj4, .slice j5 nj5 cj5, .slice j6 nj6 cj6, .slice j7 nj7 cj7, .slice j8 nj8 cj8, .int .i64 q12, .bool q13] 60 (0, 0))
        have hbw1 := hbw.trans (hal.mono hsz)
        have hrr' := rangeAt_kept hr' (show b' < w.heap.size from hbB') (Kept.of_below (I := Under w.heap.size) hbw1 fun b hb => hb)
        rw [shStage_size] at hrr hrr'
        have c100 := hrr 0 _ rfl
        have c101 := hrr 1 _ rfl
        have c102 := hrr 2 _ rfl
        have c103 := hrr 3 _ rfl
        have c104 := hrr 4 _ rfl
        have c105 := hrr 5 _ rfl
        have c106 := hrr 6 _ rfl
        have c107 := hrr 7 _ rfl
        have c108 := hrr 8 _ rfl
        have c109 := hrr 9 _ rfl
        have c110 := hrr 10 _ rfl
        have c111 := hrr 11 _ rfl
        have c112 := hrr 12 _ rfl
        have c113 := hrr 13 _ rfl
        have c200 := hrr' 0 _ rfl
        have c201 := hrr' 1 _ rfl
        have c202 := hrr' 2 _ rfl
        have c203 := hrr' 3 _ rfl
        have c204 := hrr' 4 _ rfl
        have c205 := hrr' 5 _ rfl
        have c206 := hrr' 6 _ rfl
        have c207 := hrr' 7 _ rfl
        have c208 := hrr' 8 _ rfl
        have c209 := hrr' 9 _ rfl
        have c210 := hrr' 10 _ rfl
        have c211 := hrr' 11 _ rfl
        have c212 := hrr' 12 _ rfl
        have c213 := hrr' 13 _ rfl
        simp only [Nat.add_zero] at c100 c200
        have HX := Lib.hid hx
        have HY := Lib.hid hy
        have HP := Lib.hid hp
        have HSX := Lib.hid hsw
        have HSY := Lib.hid hsw'
        have HBX := Lib.hid hbx
        have HBY := Lib.hid hby
        have HK1 := Lib.hid hk1
        have HAL := Lib.hid hal
        have HBW := Lib.hid hbw
        clear hr hrr hs hsw hx hbx hr' hrr' hs' hsw' hy hby hbw1 hk1 hp hal hbw hbB hbB' hq0 hq3 hq4 hq12 hq13 hr0 hr3 hr4 hr12 hr13
        go_upto_region 6 with fail
        clear c100 c101 c102 c103 c104 c105 c106 c107 c108 c109 c110 c111 c112 c113
        generalize wr.alloc (.cells #[.int .i64 q0, .slice j0 nj0 cj0, .slice j1 nj1 cj1, .bool q3, .bool q4, .slice j2 nj2 cj2, .slice j3 nj3 cj3, .slice j4 nj4 cj4, .slice j5 nj5 cj5, .slice j6 nj6 cj6, .slice j7 nj7 cj7, .slice j8 nj8 cj8, .int .i64 q12, .bool q13] 60 (0, 0)) = wb at HK1 HAL hg1 c200 c201 c202 c203 c204 c205 c206 c207 c208 c209 c210 c211 c212 c213 ⊢
        have hal2 := HAL.out.alloc HAL.out.size (.cells #[.int .i64 r0, .slice b0 nb0 cb0, .slice b1 nb1 cb1, .bool r3, .bool r4, .slice b2 nb2 cb2, .slice b3 nb3 cb3, .slice b4 nb4 cb4, .slice b5 nb5 cb5, .slice b6 nb6 cb6, .slice b7 nb7 cb7, .slice b8 nb8 cb8, .int .i64 r12, .bool r13] 60 (0, 0))
        have hg2 : (wb.alloc (.cells #[.int .i64 r0, .slice b0 nb0 cb0, .slice b1 nb1 cb1, .bool r3, .bool r4, .slice b2 nb2 cb2, .slice b3 nb3 cb3, .slice b4 nb4 cb4, .slice b5 nb5 cb5, .slice b6 nb6 cb6, .slice b7 nb7 cb7, .slice b8 nb8 cb8, .int .i64 r12, .bool r13] 60 (0, 0))).heap.size = wr.heap.size + 1 + 1 := by simp [hg1]
        have hk2 := heap_alloc_new wb (.cells #[.int .i64 r0, .slice b0 nb0 cb0, .slice b1 nb1 cb1, .bool r3, .bool r4, .slice b2 nb2 cb2, .slice b3 nb3 cb3, .slice b4 nb4 cb4, .slice b5 nb5 cb5, .slice b6 nb6 cb6, .slice b7 nb7 cb7, .slice b8 nb8 cb8, .int .i64 r12, .bool r13] 60 (0, 0))
        have hk1 : (wb.alloc (.cells #[.int .i64 r0, .slice b0 nb0 cb0, .slice b1 nb1 cb1, .bool r3, .bool r4, .slice b2 nb2 cb2, .slice b3 nb3 cb3, .slice b4 nb4 cb4, .slice b5 nb5 cb5, .slice b6 nb6 cb6, .slice b7 nb7 cb7, .slice b8 nb8 cb8, .int .i64 r12, .bool r13] 60 (0, 0))).heap[wr.heap.size]? = _ := (Below.heap_alloc _ _ _ (by omega)).trans HK1.out
        rw [hg1] at hk2
        have hc := implSameStage_d (wb.alloc (.cells #[.int .i64 r0, .slice b0 nb0 cb0, .slice b1 nb1 cb1, .bool r3, .bool r4, .slice b2 nb2 cb2, .slice b3 nb3 cb3, .slice b4 nb4 cb4, .slice b5 nb5 cb5, .slice b6 nb6 cb6, .slice b7 nb7 cb7, .slice b8 nb8 cb8, .int .i64 r12, .bool r13] 60 (0, 0))) _ x (shStage.le (shStage.below HSX.out (hal2.mono hsz) (Nat.le_refl _)) (by omega)) HBX.out _ y (shStage.le (shStage.below HSY.out (hal2.mono hsz) (Nat.le_refl _)) (by omega)) HBY.out p HP.out
        have HC := Lib.hid hc
        have HA2 := Lib.hid (HBW.out.trans (hal2.mono hsz))
        have HK2 := Lib.hid hk2
        have HK3 := Lib.hid hk1
        have HG1 := Lib.hid hg1
        clear hc hal2 hk1 hk2
        go_upto_region 7 with fail
        clear c200 c201 c202 c203 c204 c205 c206 c207 c208 c209 c210 c211 c212 c213
        try rw [HG1.out]
        clear hg1
        generalize wb.alloc (.cells #[.int .i64 r0, .slice b0 nb0 cb0, .slice b1 nb1 cb1, .bool r3, .bool r4, .slice b2 nb2 cb2, .slice b3 nb3 cb3, .slice b4 nb4 cb4, .slice b5 nb5 cb5, .slice b6 nb6 cb6, .slice b7 nb7 cb7, .slice b8 nb8 cb8, .int .i64 r12, .bool r13] 60 (0, 0)) = wc at HC HA2 HK2 HK3 hg2 ⊢
        have z0 := boxs HK3.out 0 _ rfl
        have z1 := boxs HK3.out 1 _ rfl
        have z2 := boxs HK3.out 2 _ rfl
        have z3 := boxs HK3.out 3 _ rfl
        have z4 := boxs HK3.out 4 _ rfl
        have z5 := boxs HK3.out 5 _ rfl
        have z6 := boxs HK3.out 6 _ rfl
        have z7 := boxs HK3.out 7 _ rfl
        have z8 := boxs HK3.out 8 _ rfl
        have z9 := boxs HK3.out 9 _ rfl
        have z10 := boxs HK3.out 10 _ rfl
        have z11 := boxs HK3.out 11 _ rfl
        have z12 := boxs HK3.out 12 _ rfl
        have z13 := boxs HK3.out 13 _ rfl
        have y0 := boxs HK2.out 0 _ rfl
        have y1 := boxs HK2.out 1 _ rfl
        have y2 := boxs HK2.out 2 _ rfl
        have y3 := boxs HK2.out 3 _ rfl
        have y4 := boxs HK2.out 4 _ rfl
        have y5 := boxs HK2.out 5 _ rfl
        have y6 := boxs HK2.out 6 _ rfl
        have y7 := boxs HK2.out 7 _ rfl
        have y8 := boxs HK2.out 8 _ rfl
        have y9 := boxs HK2.out 9 _ rfl
        have y10 := boxs HK2.out 10 _ rfl
        have y11 := boxs HK2.out 11 _ rfl
        have y12 := boxs HK2.out 12 _ rfl
        have y13 := boxs HK2.out 13 _ rfl
        clear hg2
        cases p
        · obtain rfl : R = false := HNO.out fun e => by
            have h1 : xs[k]? = ys[k]? := by rw [e]
            rw [HX.out, HY.out] at h1
            have := HP.out.2 (Option.some.inj h1)
            cases this
          go_wp2_with fail
          clear z0 y0 z1 y1 z2 y2 z3 y3 z4 y4 z5 y5 z6 y6 z7 y7 z8 y8 z9 y9 z10 y10 z11 y11 z12 y12 z13 y13
          refine HC.out.mono ?_
          rintro e w1 ⟨rfl, hb⟩
          have HB1 := Lib.hid (HA2.out.trans (hb.mono HA2.out.size))
          clear hb
          go_wp2_with fail
          go_ret
          exact ⟨rfl, HB1.out⟩
        · have HEQ : Hid (x = y) := Lib.hid (HP.out.1 rfl)
          go_wp2_with fail
          clear z0 y0 z1 y1 z2 y2 z3 y3 z4 y4 z5 y5 z6 y6 z7 y7 z8 y8 z9 y9 z10 y10 z11 y11 z12 y12 z13 y13
          refine HC.out.mono ?_
          rintro e w1 ⟨rfl, hb⟩
          have HB1 := Lib.hid (HA2.out.trans (hb.mono HA2.out.size))
          clear hb
          go_wp2_with fail
          go_round
          case rel =>
            refine ⟨k + 1, by omega, by go_num, Lib.hid fun i hi => ?_, HB1.out⟩
            by_cases e : i = k
            · subst e
              rw [HX.out, HY.out, HEQ.out]
            · exact hall.out i (by omega)
          case measure => simp [intOf]; omega
      · obtain rfl : k = n := by omega
        obtain rfl : R = true := HYES.out (same_list (by rw [HL.out.1, HL'.out.1]) fun j hj => hall.out j (by rw [← HL.out.1]; exact hj))
        have HWW := Lib.hid hbw
        clear hbw
        go_wp2_with fail
        go_ret
        exact ⟨rfl, HWW.out⟩
  · have hne : ((n : Int) != (n' : Int)) = true := by simpa using fun e : (n : Int) = n' => hnn (by omega)
    obtain rfl : R = false := HNO.out fun e => hnn (by rw [← HL.out.1, ← HL'.out.1, e])
    clear hnn
    go_enter Try.func52, Try.ntmps52
    go_wp2_with fail
    go_ret
    exact ⟨rfl, Below.refl _ _⟩
set_option maxRecDepth 100000 in
set_option maxHeartbeats 6400000 in
theorem implSamePipe_d0 (w : World) (es : List Value) (x : dPipe) (h : shPipe.reads (Under w.heap.size) w es x) (hb : shPipe.bulk x ≤ 1048576) (es' : List Value) (y : dPipe) (h' : shPipe.reads (Under w.heap.size) w es' y) (hb' : shPipe.bulk y ≤ 1048576) (R : Bool) (hR : R = true ↔ x = y) :
    Calls Try.prog 25 #[.agg es.toArray, .agg es'.toArray] w fun e w' => e = .returned (.bool R) ∧ Below w.heap.size w w' := by
  obtain ⟨j0, nj0, cj0, j1, nj1, cj1, j2, nj2, cj2, j3, nj3, cj3, rfl, ⟨pj0, rj0, l0⟩, ⟨pj1, rj1, l1⟩, ⟨pj2, rj2, l2⟩, ⟨pj3, rj3, l3⟩⟩ := shPipe_reads.1 h
  obtain ⟨b0, nb0, cb0, b1, nb1, cb1, b2, nb2, cb2, b3, nb3, cb3, rfl, ⟨pb0, rb0, m0⟩, ⟨pb1, rb1, m1⟩, ⟨pb2, rb2, m2⟩, ⟨pb3, rb3, m3⟩⟩ := shPipe_reads.1 h'
  rw [shPipe_bulk, bulk_list shPair l0, bulk_list shStage l1, bulk_list shQueue l2, bulk_list shQueue l3] at hb
  rw [shPipe_bulk, bulk_list shPair m0, bulk_list shStage m1, bulk_list shQueue m2, bulk_list shQueue m3] at hb'
  have HNO := Lib.hid fun (hn : ¬ x = y) => no_of hR hn
  have HYES := Lib.hid hR.2
  obtain ⟨e0, he0⟩ := bool_of (x.1 = y.1)
  have C0 := Lib.hid fun (wx : World) (hx : Below w.heap.size w wx) => equalFunc_Pair wx j0 nj0 cj0 _ ((l0.below hx (Nat.le_refl _)).le hx.size) (by omega) (by omega) b0 nb0 cb0 _ ((m0.below hx (Nat.le_refl _)).le hx.size) (by omega) e0 he0
  have N0 : Hid (e0 = false → ¬ x = y) := Lib.hid fun h1 h2 => by
    rw [← Bool.not_eq_true, he0] at h1
    exact h1 (by rw [h2])
  have Y0 : Hid (e0 = true → x.1 = y.1) := Lib.hid he0.1
  obtain ⟨e1, he1⟩ := bool_of (x.2.1 = y.2.1)
  have C1 := Lib.hid fun (wx : World) (hx : Below w.heap.size w wx) => equalFunc_Stage wx j1 nj1 cj1 _ ((l1.below hx (Nat.le_refl _)).le hx.size) (by omega) (by omega) b1 nb1 cb1 _ ((m1.below hx (Nat.le_refl _)).le hx.size) (by omega) e1 he1
  have N1 : Hid (e1 = false → ¬ x = y) := Lib.hid fun h1 h2 => by
    rw [← Bool.not_eq_true, he1] at h1
    exact h1 (by rw [h2])
  have Y1 : Hid (e1 = true → x.2.1 = y.2.1) := Lib.hid he1.1
  obtain ⟨e2, he2⟩ := bool_of (x.2.2.1 = y.2.2.1)
  have C2 := Lib.hid fun (wx : World) (hx : Below w.heap.size w wx) => equalFunc_Queue wx j2 nj2 cj2 _ ((l2.below hx (Nat.le_refl _)).le hx.size) (by omega) (by omega) b2 nb2 cb2 _ ((m2.below hx (Nat.le_refl _)).le hx.size) (by omega) e2 he2
  have N2 : Hid (e2 = false → ¬ x = y) := Lib.hid fun h1 h2 => by
    rw [← Bool.not_eq_true, he2] at h1
    exact h1 (by rw [h2])
  have Y2 : Hid (e2 = true → x.2.2.1 = y.2.2.1) := Lib.hid he2.1
  obtain ⟨e3, he3⟩ := bool_of (x.2.2.2 = y.2.2.2)
  have C3 := Lib.hid fun (wx : World) (hx : Below w.heap.size w wx) => equalFunc_Queue wx j3 nj3 cj3 _ ((l3.below hx (Nat.le_refl _)).le hx.size) (by omega) (by omega) b3 nb3 cb3 _ ((m3.below hx (Nat.le_refl _)).le hx.size) (by omega) e3 he3
  have N3 : Hid (e3 = false → ¬ x = y) := Lib.hid fun h1 h2 => by
    rw [← Bool.not_eq_true, he3] at h1
    exact h1 (by rw [h2])
  have Y3 : Hid (e3 = true → x.2.2.2 = y.2.2.2) := Lib.hid he3.1
  have hal := ((Below.refl w.heap.size w).alloc (Nat.le_refl _) (.cells #[.slice j0 nj0 cj0, .slice j1 nj1 cj1, .slice j2 nj2 cj2, .slice j3 nj3 cj3] 35 (0, 0))).alloc (by simp) (.cells #[.slice b0 nb0 cb0, .slice b1 nb1 cb1, .slice b2 nb2 cb2, .slice b3 nb3 cb3] 35 (0, 0))
  have hA : ((w.alloc (.cells #[.slice j0 nj0 cj0, .slice j1 nj1 cj1, .slice j2 nj2 cj2, .slice j3 nj3 cj3] 35 (0, 0))).alloc (.cells #[.slice b0 nb0 cb0, .slice b1 nb1 cb1, .slice b2 nb2 cb2, .slice b3 nb3 cb3] 35 (0, 0))).heap[w.heap.size]? = some (.cells #[.slice j0 nj0 cj0, .slice j1 nj1 cj1, .slice j2 nj2 cj2, .slice j3 nj3 cj3] 35 (0, 0)) := by
    rw [Below.heap_alloc _ _ _ (by simp)]
    exact heap_alloc_new w _
  have hC : ((w.alloc (.cells #[.slice j0 nj0 cj0, .slice j1 nj1 cj1, .slice j2 nj2 cj2, .slice j3 nj3 cj3] 35 (0, 0))).alloc (.cells #[.slice b0 nb0 cb0, .slice b1 nb1 cb1, .slice b2 nb2 cb2, .slice b3 nb3 cb3] 35 (0, 0))).heap[w.heap.size + 1]? = some (.cells #[.slice b0 nb0 cb0, .slice b1 nb1 cb1, .slice b2 nb2 cb2, .slice b3 nb3 cb3] 35 (0, 0)) := by
    have := heap_alloc_new (w.alloc (.cells #[.slice j0 nj0 cj0, .slice j1 nj1 cj1, .slice j2 nj2 cj2, .slice j3 nj3 cj3] 35 (0, 0))) (.cells #[.slice b0 nb0 cb0, .slice b1 nb1 cb1, .slice b2 nb2 cb2, .slice b3 nb3 cb3] 35 (0, 0))
    simpa using this
  have hS : w.heap.size + 1 < ((w.alloc (.cells #[.slice j0 nj0 cj0, .slice j1 nj1 cj1, .slice j2 nj2 cj2, .slice j3 nj3 cj3] 35 (0, 0))).alloc (.cells #[.slice b0 nb0 cb0, .slice b1 nb1 cb1, .slice b2 nb2 cb2, .slice b3 nb3 cb3] 35 (0, 0))).heap.size := by simp
  have HA := Lib.hid hal
  have XA := Lib.hid hA
  have XC := Lib.hid hC
  have HS := Lib.hid hS
  clear h h' hb hb' hR hal hA hC hS pj0 rj0 l0 pb0 rb0 m0 pj1 rj1 l1 pb1 rb1 m1 pj2 rj2 l2 pb2 rb2 m2 pj3 rj3 l3 pb3 rb3 m3  he0 he1 he2 he3
  cases e0
  · obtain rfl : R = false := HNO.out (N0.out (by first | rfl | trivial))
    go_enter Try.func25, Try.ntmps25
    go_wp2_with fail
    refine (C0.out _ HA.out).mono ?_
    rintro e w1 ⟨rfl, hb⟩
    have B0 := Lib.hid (HA.out.trans (hb.mono HA.out.size))
    clear hb
    go_wp2_with fail
    go_ret
    exact ⟨rfl, B0.out⟩
  go_enter Try.func25, Try.ntmps25
  go_wp2_with fail
  refine (C0.out _ HA.out).mono ?_
  rintro e w1 ⟨rfl, hb⟩
  have B0 := Lib.hid (HA.out.trans (hb.mono HA.out.size))
  have XA0 := Lib.hid ((hb.block w.heap.size (by have := HS.out; omega)).trans XA.out)
  have XC0 := Lib.hid ((hb.block (w.heap.size + 1) HS.out).trans XC.out)
  have HS0 := Lib.hid (Nat.lt_of_lt_of_le HS.out hb.size)
  clear hb
  have z1 := boxs XA0.out 1 _ rfl
  have y1 := boxs XC0.out 1 _ rfl
  cases e1
  · obtain rfl : R = false := HNO.out (N1.out (by first | rfl | trivial))
    go_wp2_with fail
    clear z1 y1
    refine (C1.out _ B0.out).mono ?_
    rintro e w2 ⟨rfl, hb⟩
    have B1 := Lib.hid (B0.out.trans (hb.mono B0.out.size))
    clear hb
    go_wp2_with fail
    go_ret
    exact ⟨rfl, B1.out⟩
  go_wp2_with fail
  clear z1 y1
  refine (C1.out _ B0.out).mono ?_
  rintro e w2 ⟨rfl, hb⟩
  have B1 := Lib.hid (B0.out.trans (hb.mono B0.out.size))
  have XA1 := Lib.hid ((hb.block w.heap.size (by have := HS0.out; omega)).trans XA0.out)
  have XC1 := Lib.hid ((hb.block (w.heap.size + 1) HS0.out).trans XC0.out)
  have HS1 := Lib.hid (Nat.lt_of_lt_of_le HS0.out hb.size)
  clear hb
  have z2 := boxs XA1.out 2 _ rfl
  have y2 := boxs XC1.out 2 _ rfl
  cases e2
  · obtain rfl : R = false := HNO.out (N2.out (by first | rfl | trivial))
    go_wp2_with fail
    clear z2 y2
    refine (C2.out _ B1.out).mono ?_
    rintro e w3 ⟨rfl, hb⟩
    have B2 := Lib.hid (B1.out.trans (hb.mono B1.out.size))
    clear hb
    go_wp2_with fail
    go_ret
    exact ⟨rfl, B2.out⟩
  go_wp2_with fail
  clear z2 y2
  refine (C2.out _ B1.out).mono ?_
  rintro e w3 ⟨rfl, hb⟩
  have B2 := Lib.hid (B1.out.trans (hb.mono B1.out.size))
  have XA2 := Lib.hid ((hb.block w.heap.size (by have := HS1.out; omega)).trans XA1.out)
  have XC2 := Lib.hid ((hb.block (w.heap.size + 1) HS1.out).trans XC1.out)
  have HS2 := Lib.hid (Nat.lt_of_lt_of_le HS1.out hb.size)
  clear hb
  have z3 := boxs XA2.out 3 _ rfl
  have y3 := boxs XC2.out 3 _ rfl
  cases e3
  · obtain rfl : R = false := HNO.out (N3.out (by first | rfl | trivial))
    go_wp2_with fail
    clear z3 y3
    refine (C3.out _ B2.out).mono ?_
    rintro e w4 ⟨rfl, hb⟩
    have B3 := Lib.hid (B2.out.trans (hb.mono B2.out.size))
    clear hb
    go_wp2_with fail
    go_ret
    exact ⟨rfl, B3.out⟩
  obtain rfl : R = true := HYES.out (Prod.ext (Y0.out (by first | rfl | trivial)) (Prod.ext (Y1.out (by first | rfl | trivial)) (Prod.ext (Y2.out (by first | rfl | trivial)) (Y3.out (by first | rfl | trivial)))))
  go_wp2_with fail
  clear z3 y3
  refine (C3.out _ B2.out).mono ?_
  rintro e w4 ⟨rfl, hb⟩
  have B3 := Lib.hid (B2.out.trans (hb.mono B2.out.size))
  clear hb
  go_wp2_with fail
  go_ret
  exact ⟨rfl, B3.out⟩
theorem implSamePipe_d (w : World) (es : List Value) (x : dPipe) (h : shPipe.reads (Under w.heap.size) w es x) (hb : shPipe.bulk x ≤ 1048576) (es' : List Value) (y : dPipe) (h' : shPipe.reads (Under w.heap.size) w es' y) (hb' : shPipe.bulk y ≤ 1048576) :
    Calls Try.prog 25 #[.agg es.toArray, .agg es'.toArray] w fun e w' => e = .returned (.bool (samePipeB x y)) ∧ Below w.heap.size w w' :=
  implSamePipe_d0 w es x h hb es' y h' hb' (samePipeB x y) (by unfold samePipeB; exact decide_eq_true_iff)
end Go.Proofs.Ytcooobnaocbdjaa
