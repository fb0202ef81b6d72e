/-
  Pipes: the program's SamePipe: what is compared field by field, and lists of it (mksame.py).
-/
import Derived.Test.YtcooobnaocbdjaaJoin26
import Derived.Test.YtcooobnaocbdjaaJoin40
import Derived.Test.YtcooobnaocbdjaaJoin37
import Derived.Laws.StructEq
namespace Go.Proofs.Ytcooobnaocbdjaa
open Go.RowKit Go.Sort
set_option linter.unusedVariables false
set_option linter.unusedSimpArgs false

theorem implSameVec_r (w : World) (a1 : Option Addr) (n1 c1 : Nat) (xs : List Int) (a2 : Option Addr) (n2 c2 : Nat) (ys : List Int) (h1 : IntsIn w.heap.size w a1 n1 xs) (h2 : IntsIn w.heap.size w a2 n2 ys) (R : Bool) (hR : R = true ↔ xs = ys) :
    Calls Try.prog 76 #[.slice a1 n1 c1, .slice a2 n2 c2] w fun e w' => e = .returned (.bool R) ∧ Below w.heap.size w w' := by
  have := implSameVec_any w a1 n1 c1 xs a2 n2 c2 ys h1 h2
  rwa [dec_of hR] at this
theorem implSameRows_r (w : World) (a : Option Addr) (n c : Nat) (xs : List dRow) (h : ListAt shRow (Under w.heap.size) w a n xs) (hn : n ≤ 1048576) (hb : Shape.sum shRow.bulk xs ≤ 1048576) (hl : n + Shape.sum shRow.bulk xs ≤ 1048576)
    (a' : Option Addr) (n' c' : Nat) (ys : List dRow) (h' : ListAt shRow (Under w.heap.size) w a' n' ys) (hl' : n' + Shape.sum shRow.bulk ys ≤ 1048576) (g1 : n ≤ c) (g2 : c ≤ 9223372036854775807) (g1' : n' ≤ c') (g2' : c' ≤ 9223372036854775807) (R : Bool) (hR : R = true ↔ xs = ys) :
    Calls Try.prog 82 #[.slice a n c, .slice a' n' c'] w fun e w' => e = .returned (.bool R) ∧ Below w.heap.size w w' := by
  have := implSameRows_d w a n c xs h g1 g2 (by rw [bulk_list shRow h]; exact hl) a' n' c' ys h' g1' g2' (by rw [bulk_list shRow h']; exact hl')
  unfold sameRowsB at this
  rwa [dec_of hR] at this
theorem implSameGrads_r (w : World) (es : List Value) (x : dGrads) (h : shGrads.reads (Under w.heap.size) w es x) (hb : shGrads.bulk x ≤ 1048576) (es' : List Value) (y : dGrads) (h' : shGrads.reads (Under w.heap.size) w es' y) (hb' : shGrads.bulk y ≤ 1048576) (R : Bool) (hR : R = true ↔ x = y) :
    Calls Try.prog 83 #[.agg es.toArray, .agg es'.toArray] w fun e w' => e = .returned (.bool R) ∧ Below w.heap.size w w' := by
  have := implSameGrads_d w es x h hb es' y h' hb'
  have e : sameGradsB x y = R := by
    rw [Bool.eq_iff_iff, hR]
    unfold sameGradsB sameRowsB
    simp only [Bool.and_eq_true, decide_eq_true_eq]
    constructor
    · rintro ⟨h1, h2, h3⟩
      exact Prod.ext h3 (Prod.ext h1 h2)
    · rintro rfl
      exact ⟨rfl, rfl, rfl⟩
  rwa [e] at this
theorem implSameOp_d (w : World) (es : List Value) (x : dOp) (h : shOp.reads (Under w.heap.size) w es x) (hb : shOp.bulk x ≤ 1048576) (es' : List Value) (y : dOp) (h' : shOp.reads (Under w.heap.size) w es' y) (hb' : shOp.bulk y ≤ 1048576) (R : Bool) (hR : R = true ↔ x = y) :
    Calls Try.prog 79 #[.agg es.toArray, .agg es'.toArray] w fun e w' => e = .returned (.bool R) ∧ Below w.heap.size w w' := by
  obtain ⟨a, n, c, rfl, k1, k2, l⟩ := shOp_reads.1 h
  obtain ⟨a', n', c', rfl, k1', k2', l'⟩ := shOp_reads.1 h'
  rw [shOp_bulk, bulk_ints, l.1] at hb
  rw [shOp_bulk, bulk_ints, l'.1] at hb'
  have := implSameOp_any w x.1 x.2.1 x.2.2.1 a n c x.2.2.2 y.1 y.2.1 y.2.2.1 a' n' c' y.2.2.2 (l.ints (by omega)) (l'.ints (by omega)) k1 k1' k2 k2'
  have e : sameOpB x.1 x.2.1 x.2.2.1 x.2.2.2 y.1 y.2.1 y.2.2.1 y.2.2.2 = R := by
    rw [Bool.eq_iff_iff, hR]
    unfold sameOpB
    simp only [Bool.and_eq_true, decide_eq_true_eq]
    constructor
    · rintro ⟨h1, h2, h3, h4⟩
      exact Prod.ext h1 (Prod.ext h2 (Prod.ext h3 h4))
    · rintro rfl
      exact ⟨rfl, rfl, rfl, rfl⟩
  rw [← e]
  exact this
set_option maxRecDepth 100000 in
set_option maxHeartbeats 6400000 in
theorem equal_Ins (w : World) (a : Option Addr) (n c : Nat) (xs : List dIns) (h : ListAt shIns (Under w.heap.size) w a n xs) (hn : n ≤ 1048576) (a' : Option Addr) (n' c' : Nat) (ys : List dIns) (h' : ListAt shIns (Under w.heap.size) w a' n' ys) (R : Bool) (hR : R = true ↔ xs = ys) :
    Calls Try.prog 77 #[.slice a n c, .slice a' n' c'] w fun e w' => e = .returned (.bool R) ∧ Below w.heap.size w w' := by
  have HNO := Lib.hid fun (hn : ¬ xs = ys) => no_of hR hn
  have HYES := Lib.hid hR.2
  have HL := Lib.hid h
  have HL' := Lib.hid h'
  clear h h' hR
  by_cases hnn : n = n'
  · subst hnn
    go_enter Try.func77, Try.ntmps77
    go_wp2_with fail
    go_loopw [13] (fun i wr => ∃ k : Nat, k ≤ n ∧ i = .int .i64 k ∧ Hid (∀ j : Nat, j < k → xs[j]? = ys[j]?) ∧ Below w.heap.size w wr) (fun i _ => n - (intOf i).toNat)
    case atStart => exact ⟨0, Nat.zero_le _, rfl, Lib.hid fun j hj => absurd hj (Nat.not_lt_zero _), Below.refl _ _⟩
    case round =>
      obtain ⟨k, hk, rfl, hall, hbw⟩ := hrel
      by_cases hlt : k < n
      · obtain ⟨x, hx⟩ : ∃ x, xs[k]? = some x := ⟨_, List.getElem?_eq_getElem (by rw [HL.out.1]; exact hlt)⟩
        obtain ⟨y, hy⟩ : ∃ y, ys[k]? = some y := ⟨_, List.getElem?_eq_getElem (by rw [HL'.out.1]; exact hlt)⟩
        obtain ⟨b, o, ea, hbB, f0, f1⟩ := plan_at HL.out k hlt
        obtain ⟨b', o', ea', hbB', g0, g1⟩ := plan_at HL'.out k hlt
        subst ea
        subst ea'
        rw [show xs.getD k (0, 0) = x by rw [List.getD_eq_getElem?_getD, hx]; rfl] at f0 f1
        rw [show ys.getD k (0, 0) = y by rw [List.getD_eq_getElem?_getD, hy]; rfl] at g0 g1
        obtain ⟨K, hK⟩ : ∃ K, x.1 = K := ⟨_, rfl⟩
        obtain ⟨M, hM⟩ : ∃ M, x.2 = M := ⟨_, rfl⟩
        obtain ⟨K', hK'⟩ : ∃ K, y.1 = K := ⟨_, rfl⟩
        obtain ⟨M', hM'⟩ : ∃ M, y.2 = M := ⟨_, rfl⟩
        rw [hK] at f0
        rw [hM] at f1
        rw [hK'] at g0
        rw [hM'] at g1
        have d0 := (hbw.cell (p := ⟨b, o + k * 2, none⟩) hbB).trans f0
        have d1 := (hbw.cell (p := ⟨b, o + k * 2 + 1, none⟩) hbB).trans f1
        have d2 := (hbw.cell (p := ⟨b', o' + k * 2, none⟩) hbB').trans g0
        have d3 := (hbw.cell (p := ⟨b', o' + k * 2 + 1, none⟩) hbB').trans g1
        have HX := Lib.hid hx
        have HY := Lib.hid hy
        have HK := Lib.hid hK
        have HM := Lib.hid hM
        have HK' := Lib.hid hK'
        have HM' := Lib.hid hM'
        have HBW := Lib.hid hbw
        clear f0 f1 g0 g1 hx hy hK hM hK' hM' hbw
        by_cases e0 : K = K'
        case neg =>
          have k0 : (K == K') = false := beq_eq_false_iff_ne.2 e0
          obtain rfl : R = false := HNO.out fun e => by
            have h1 : xs[k]? = ys[k]? := by rw [e]
            rw [HX.out, HY.out] at h1
            exact e0 (by rw [← HK.out, ← HK'.out, Option.some.inj h1])
          clear e0
          go_upto_region 6 with fail
          go_quiet (fail)
          go_wp2_with fail
          go_ret
          exact ⟨rfl, below_drewN HBW.out _⟩
        have k0 : (K == K') = true := beq_iff_eq.2 e0
        have E0 := Lib.hid e0
        clear e0
        by_cases e1 : M = M'
        case neg =>
          have k1 : (M == M') = false := beq_eq_false_iff_ne.2 e1
          obtain rfl : R = false := HNO.out fun e => by
            have h1 : xs[k]? = ys[k]? := by rw [e]
            rw [HX.out, HY.out] at h1
            exact e1 (by rw [← HM.out, ← HM'.out, Option.some.inj h1])
          clear e1
          go_upto_region 6 with fail
          go_quiet (fail)
          go_wp2_with fail
          go_ret
          exact ⟨rfl, below_drewN HBW.out _⟩
        have k1 : (M == M') = true := beq_iff_eq.2 e1
        have E1 := Lib.hid e1
        clear e1
        go_upto_region 6 with fail
        go_quiet (fail)
        go_wp2_with fail
        go_roundw
        case rel =>
          refine ⟨k + 1, by omega, by go_num, Lib.hid fun i hi => ?_, below_drewN HBW.out _⟩
          by_cases e : i = k
          · subst e
            rw [HX.out, HY.out, show x = y from Prod.ext (by rw [HK.out, HK'.out, E0.out]) (by rw [HM.out, HM'.out, E1.out])]
          · exact hall.out i (by omega)
        case measure => simp [intOf]; omega
      · obtain rfl : k = n := by omega
        obtain rfl : R = true := HYES.out (same_list (by rw [HL.out.1, HL'.out.1]) fun j hj => hall.out j (by rw [← HL.out.1]; exact hj))
        have HWW := Lib.hid hbw
        clear hbw
        go_wp2_with fail
        go_ret
        exact ⟨rfl, HWW.out⟩
  · have hne : ((n : Int) != (n' : Int)) = true := by simpa using fun e : (n : Int) = n' => hnn (by omega)
    obtain rfl : R = false := HNO.out fun e => hnn (by rw [← HL.out.1, ← HL'.out.1, e])
    clear hnn
    go_enter Try.func77, Try.ntmps77
    go_wp2_with fail
    go_ret
    exact ⟨rfl, Below.refl _ _⟩
set_option maxRecDepth 100000 in
set_option maxHeartbeats 6400000 in
theorem implSamePair_d (w : World) (es : List Value) (x : dPair) (h : shPair.reads (Under w.heap.size) w es x) (hb : shPair.bulk x ≤ 1048576) (es' : List Value) (y : dPair) (h' : shPair.reads (Under w.heap.size) w es' y) (hb' : shPair.bulk y ≤ 1048576) (R : Bool) (hR : R = true ↔ x = y) :
    Calls Try.prog 51 #[.agg es.toArray, .agg es'.toArray] w fun e w' => e = .returned (.bool R) ∧ Below w.heap.size w w' := by
  obtain ⟨j0, nj0, cj0, j1, nj1, cj1, rfl, ⟨pj0, rj0, l0⟩, ⟨pj1, rj1, l1⟩⟩ := shPair_reads.1 h
  obtain ⟨b0, nb0, cb0, b1, nb1, cb1, rfl, ⟨pb0, rb0, m0⟩, ⟨pb1, rb1, m1⟩⟩ := shPair_reads.1 h'
  rw [shPair_bulk, bulk_ints, bulk_ints] at hb
  rw [shPair_bulk, bulk_ints, bulk_ints] at hb'
  have HNO := Lib.hid fun (hn : ¬ x = y) => no_of hR hn
  have HYES := Lib.hid hR.2
  have v0 : x.1.length = nj0 := l0.1
  have u0 : y.1.length = nb0 := m0.1
  have v1 : x.2.length = nj1 := l1.1
  have u1 : y.2.length = nb1 := m1.1
  obtain ⟨e0, he0⟩ := bool_of (x.1 = y.1)
  have C0 := Lib.hid fun (wx : World) (hx : Below w.heap.size w wx) => implSameVec_r wx j0 nj0 cj0 _ b0 nb0 cb0 _ (((l0.ints (by omega)).below hx (Nat.le_refl _)).le hx.size) (((m0.ints (by omega)).below hx (Nat.le_refl _)).le hx.size) e0 he0
  have N0 : Hid (e0 = false → ¬ x = y) := Lib.hid fun h1 h2 => by
    rw [← Bool.not_eq_true, he0] at h1
    exact h1 (by rw [h2])
  have Y0 : Hid (e0 = true → x.1 = y.1) := Lib.hid he0.1
  obtain ⟨e1, he1⟩ := bool_of (x.2 = y.2)
  have C1 := Lib.hid fun (wx : World) (hx : Below w.heap.size w wx) => implSameVec_r wx j1 nj1 cj1 _ b1 nb1 cb1 _ (((l1.ints (by omega)).below hx (Nat.le_refl _)).le hx.size) (((m1.ints (by omega)).below hx (Nat.le_refl _)).le hx.size) e1 he1
  have N1 : Hid (e1 = false → ¬ x = y) := Lib.hid fun h1 h2 => by
    rw [← Bool.not_eq_true, he1] at h1
    exact h1 (by rw [h2])
  have Y1 : Hid (e1 = true → x.2 = y.2) := Lib.hid he1.1
  have hal := ((Below.refl w.heap.size w).alloc (Nat.le_refl _) (.cells #[.slice j0 nj0 cj0, .slice j1 nj1 cj1] 82 (0, 0))).alloc (by simp) (.cells #[.slice b0 nb0 cb0, .slice b1 nb1 cb1] 82 (0, 0))
  have hA : ((w.alloc (.cells #[.slice j0 nj0 cj0, .slice j1 nj1 cj1] 82 (0, 0))).alloc (.cells #[.slice b0 nb0 cb0, .slice b1 nb1 cb1] 82 (0, 0))).heap[w.heap.size]? = some (.cells #[.slice j0 nj0 cj0, .slice j1 nj1 cj1] 82 (0, 0)) := by
    rw [Below.heap_alloc _ _ _ (by simp)]
    exact heap_alloc_new w _
  have hC : ((w.alloc (.cells #[.slice j0 nj0 cj0, .slice j1 nj1 cj1] 82 (0, 0))).alloc (.cells #[.slice b0 nb0 cb0, .slice b1 nb1 cb1] 82 (0, 0))).heap[w.heap.size + 1]? = some (.cells #[.slice b0 nb0 cb0, .slice b1 nb1 cb1] 82 (0, 0)) := by
    have := heap_alloc_new (w.alloc (.cells #[.slice j0 nj0 cj0, .slice j1 nj1 cj1] 82 (0, 0))) (.cells #[.slice b0 nb0 cb0, .slice b1 nb1 cb1] 82 (0, 0))
    simpa using this
  have hS : w.heap.size + 1 < ((w.alloc (.cells #[.slice j0 nj0 cj0, .slice j1 nj1 cj1] 82 (0, 0))).alloc (.cells #[.slice b0 nb0 cb0, .slice b1 nb1 cb1] 82 (0, 0))).heap.size := by simp
  have HA := Lib.hid hal
  have XA := Lib.hid hA
  have XC := Lib.hid hC
  have HS := Lib.hid hS
  clear h h' hb hb' hR hal hA hC hS pj0 rj0 l0 pb0 rb0 m0 pj1 rj1 l1 pb1 rb1 m1  he0 he1
  clear v0 u0 v1 u1
  cases e0
  · obtain rfl : R = false := HNO.out (N0.out (by first | rfl | trivial))
    go_enter Try.func51, Try.ntmps51
    go_wp2_with fail
    refine (C0.out _ HA.out).mono ?_
    rintro e w1 ⟨rfl, hb⟩
    have B0 := Lib.hid (HA.out.trans (hb.mono HA.out.size))
    clear hb
    go_wp2_with fail
    go_ret
    exact ⟨rfl, B0.out⟩
  go_enter Try.func51, Try.ntmps51
  go_wp2_with fail
  refine (C0.out _ HA.out).mono ?_
  rintro e w1 ⟨rfl, hb⟩
  have B0 := Lib.hid (HA.out.trans (hb.mono HA.out.size))
  have XA0 := Lib.hid ((hb.block w.heap.size (by have := HS.out; omega)).trans XA.out)
  have XC0 := Lib.hid ((hb.block (w.heap.size + 1) HS.out).trans XC.out)
  have HS0 := Lib.hid (Nat.lt_of_lt_of_le HS.out hb.size)
  clear hb
  have z1 := boxs XA0.out 1 _ rfl
  have y1 := boxs XC0.out 1 _ rfl
  cases e1
  · obtain rfl : R = false := HNO.out (N1.out (by first | rfl | trivial))
    go_wp2_with fail
    clear z1 y1
    refine (C1.out _ B0.out).mono ?_
    rintro e w2 ⟨rfl, hb⟩
    have B1 := Lib.hid (B0.out.trans (hb.mono B0.out.size))
    clear hb
    go_wp2_with fail
    go_ret
    exact ⟨rfl, B1.out⟩
  obtain rfl : R = true := HYES.out (Prod.ext (Y0.out (by first | rfl | trivial)) (Y1.out (by first | rfl | trivial)))
  go_wp2_with fail
  clear z1 y1
  refine (C1.out _ B0.out).mono ?_
  rintro e w2 ⟨rfl, hb⟩
  have B1 := Lib.hid (B0.out.trans (hb.mono B0.out.size))
  clear hb
  go_wp2_with fail
  go_ret
  exact ⟨rfl, B1.out⟩
theorem eg_samePair : ∀ args w, (callFunc 51 args).run Try.prog w = .ok (.enter 51 args) w := enters_of Try.func51 (by kernel_rfl) rfl
set_option maxRecDepth 100000 in
set_option maxHeartbeats 6400000 in
theorem equalFunc_Pair (w : World) (a : Option Addr) (n c : Nat) (xs : List dPair) (h : ListAt shPair (Under w.heap.size) w a n xs) (hn : n ≤ 1048576) (hb : Shape.sum shPair.bulk xs ≤ 1048576) (a' : Option Addr) (n' c' : Nat) (ys : List dPair) (h' : ListAt shPair (Under w.heap.size) w a' n' ys) (hb' : Shape.sum shPair.bulk ys ≤ 1048576) (R : Bool) (hR : R = true ↔ xs = ys) :
    Calls Try.prog 50 #[.slice a n c, .slice a' n' c', .func (.func 51) #[] #[]] w fun e w' => e = .returned (.bool R) ∧ Below w.heap.size w w' := by
  have HNO := Lib.hid fun (hn : ¬ xs = ys) => no_of hR hn
  have HYES := Lib.hid hR.2
  have HL := Lib.hid h
  have HL' := Lib.hid h'
  have HB := Lib.hid hb
  have HB' := Lib.hid hb'
  have eg := eg_samePair
  clear h h' hb hb' hR
  by_cases hnn : n = n'
  · subst hnn
    go_enter Try.func50, Try.ntmps50
    go_wp2_with fail
    go_loopw [17] (fun i wr => ∃ k : Nat, k ≤ n ∧ i = .int .i64 k ∧ Hid (∀ j : Nat, j < k → xs[j]? = ys[j]?) ∧ Below w.heap.size w wr) (fun i _ => n - (intOf i).toNat)
    case atStart => exact ⟨0, Nat.zero_le _, rfl, Lib.hid fun j hj => absurd hj (Nat.not_lt_zero _), Below.refl _ _⟩
    case round =>
      obtain ⟨k, hk, rfl, hall, hbw⟩ := hrel
      have hsz := hbw.size
      by_cases hlt : k < n
      · obtain ⟨x, hx⟩ : ∃ x, xs[k]? = some x := ⟨_, List.getElem?_eq_getElem (by rw [HL.out.1]; exact hlt)⟩
        obtain ⟨y, hy⟩ : ∃ y, ys[k]? = some y := ⟨_, List.getElem?_eq_getElem (by rw [HL'.out.1]; exact hlt)⟩
        obtain ⟨b, o, es, rfl, hbB, hr, hs⟩ := HL.out.2 k x hx
        obtain ⟨b', o', es', rfl, hbB', hr', hs'⟩ := HL'.out.2 k y hy
        have hrr := rangeAt_kept hr (show b < w.heap.size from hbB) (Kept.of_below (I := Under w.heap.size) hbw fun b hb => hb)
        have hsw := shPair.below hs hbw (Nat.le_refl _)
        have hsw' := shPair.below hs' hbw (Nat.le_refl _)
        have hbx : shPair.bulk x ≤ 1048576 := Nat.le_trans (bulk_mem shPair.bulk xs k x hx) HB.out
        have hby : shPair.bulk y ≤ 1048576 := Nat.le_trans (bulk_mem shPair.bulk ys k y hy) HB'.out
        obtain ⟨p, hp⟩ := bool_of (x = y)
        obtain ⟨j0, nj0, cj0, j1, nj1, cj1, rfl, -⟩ := shPair_reads.1 hsw
        obtain ⟨b0, nb0, cb0, b1, nb1, cb1, rfl, -⟩ := shPair_reads.1 hsw'
        have hal := (Below.refl wr.heap.size wr).alloc (Nat.le_refl _) (.cells #[.slice j0 nj0 cj0, .slice j1 nj1 cj1] 82 (0, 0))
        have hg1 : (wr.alloc (.cells #[.slice j0 nj0 cj0, .slice j1 nj1 cj1] 82 (0, 0))).heap.size = wr.heap.size + 1 := by simp
        have hk1 := heap_alloc_new wr (.cells #[.slice j0 nj0 cj0, .slice j1 nj1 cj1] 82 (0, 0))
        have hbw1 := hbw.trans (hal.mono hsz)
        have hrr' := rangeAt_kept hr' (show b' < w.heap.size from hbB') (Kept.of_below (I := Under w.heap.size) hbw1 fun b hb => hb)
        rw [shPair_size] at hrr hrr'
        have c100 := hrr 0 _ rfl
        have c101 := hrr 1 _ rfl
        have c200 := hrr' 0 _ rfl
        have c201 := hrr' 1 _ rfl
        simp only [Nat.add_zero] at c100 c200
        have HX := Lib.hid hx
        have HY := Lib.hid hy
        have HP := Lib.hid hp
        have HSX := Lib.hid hsw
        have HSY := Lib.hid hsw'
        have HBX := Lib.hid hbx
        have HBY := Lib.hid hby
        have HK1 := Lib.hid hk1
        have HAL := Lib.hid hal
        have HBW := Lib.hid hbw
        clear hr hrr hs hsw hx hbx hr' hrr' hs' hsw' hy hby hbw1 hk1 hp hal hbw hbB hbB' 
        go_upto_region 6 with fail
        clear c100 c101
        generalize wr.alloc (.cells #[.slice j0 nj0 cj0, .slice j1 nj1 cj1] 82 (0, 0)) = wb at HK1 HAL hg1 c200 c201 ⊢
        have hal2 := HAL.out.alloc HAL.out.size (.cells #[.slice b0 nb0 cb0, .slice b1 nb1 cb1] 82 (0, 0))
        have hg2 : (wb.alloc (.cells #[.slice b0 nb0 cb0, .slice b1 nb1 cb1] 82 (0, 0))).heap.size = wr.heap.size + 1 + 1 := by simp [hg1]
        have hk2 := heap_alloc_new wb (.cells #[.slice b0 nb0 cb0, .slice b1 nb1 cb1] 82 (0, 0))
        have hk1 : (wb.alloc (.cells #[.slice b0 nb0 cb0, .slice b1 nb1 cb1] 82 (0, 0))).heap[wr.heap.size]? = _ := (Below.heap_alloc _ _ _ (by omega)).trans HK1.out
        rw [hg1] at hk2
        have hc := implSamePair_d (wb.alloc (.cells #[.slice b0 nb0 cb0, .slice b1 nb1 cb1] 82 (0, 0))) _ x (shPair.le (shPair.below HSX.out (hal2.mono hsz) (Nat.le_refl _)) (by omega)) HBX.out _ y (shPair.le (shPair.below HSY.out (hal2.mono hsz) (Nat.le_refl _)) (by omega)) HBY.out p HP.out
        have HC := Lib.hid hc
        have HA2 := Lib.hid (HBW.out.trans (hal2.mono hsz))
        have HK2 := Lib.hid hk2
        have HK3 := Lib.hid hk1
        have HG1 := Lib.hid hg1
        clear hc hal2 hk1 hk2
        go_upto_region 7 with fail
        clear c200 c201
        try rw [HG1.out]
        clear hg1
        generalize wb.alloc (.cells #[.slice b0 nb0 cb0, .slice b1 nb1 cb1] 82 (0, 0)) = wc at HC HA2 HK2 HK3 hg2 ⊢
        have z0 := boxs HK3.out 0 _ rfl
        have z1 := boxs HK3.out 1 _ rfl
        have y0 := boxs HK2.out 0 _ rfl
        have y1 := boxs HK2.out 1 _ rfl
        clear hg2
        cases p
        · obtain rfl : R = false := HNO.out fun e => by
            have h1 : xs[k]? = ys[k]? := by rw [e]
            rw [HX.out, HY.out] at h1
            have := HP.out.2 (Option.some.inj h1)
            cases this
          go_wp2_with fail
          clear z0 y0 z1 y1
          refine HC.out.mono ?_
          rintro e w1 ⟨rfl, hb⟩
          have HB1 := Lib.hid (HA2.out.trans (hb.mono HA2.out.size))
          clear hb
          go_wp2_with fail
          go_ret
          exact ⟨rfl, HB1.out⟩
        · have HEQ : Hid (x = y) := Lib.hid (HP.out.1 rfl)
          go_wp2_with fail
          clear z0 y0 z1 y1
          refine HC.out.mono ?_
          rintro e w1 ⟨rfl, hb⟩
          have HB1 := Lib.hid (HA2.out.trans (hb.mono HA2.out.size))
          clear hb
          go_wp2_with fail
          go_round
          case rel =>
            refine ⟨k + 1, by omega, by go_num, Lib.hid fun i hi => ?_, HB1.out⟩
            by_cases e : i = k
            · subst e
              rw [HX.out, HY.out, HEQ.out]
            · exact hall.out i (by omega)
          case measure => simp [intOf]; omega
      · obtain rfl : k = n := by omega
        obtain rfl : R = true := HYES.out (same_list (by rw [HL.out.1, HL'.out.1]) fun j hj => hall.out j (by rw [← HL.out.1]; exact hj))
        have HWW := Lib.hid hbw
        clear hbw
        go_wp2_with fail
        go_ret
        exact ⟨rfl, HWW.out⟩
  · have hne : ((n : Int) != (n' : Int)) = true := by simpa using fun e : (n : Int) = n' => hnn (by omega)
    obtain rfl : R = false := HNO.out fun e => hnn (by rw [← HL.out.1, ← HL'.out.1, e])
    clear hnn
    go_enter Try.func50, Try.ntmps50
    go_wp2_with fail
    go_ret
    exact ⟨rfl, Below.refl _ _⟩
set_option maxRecDepth 100000 in
set_option maxHeartbeats 6400000 in
theorem implSameItem_d (w : World) (es : List Value) (x : dItem) (h : shItem.reads (Under w.heap.size) w es x) (hb : shItem.bulk x ≤ 1048576) (es' : List Value) (y : dItem) (h' : shItem.reads (Under w.heap.size) w es' y) (hb' : shItem.bulk y ≤ 1048576) (R : Bool) (hR : R = true ↔ x = y) :
    Calls Try.prog 85 #[.agg es.toArray, .agg es'.toArray] w fun e w' => e = .returned (.bool R) ∧ Below w.heap.size w w' := by
  obtain ⟨j0, nj0, cj0, rfl, ⟨pj0, rj0, l0⟩⟩ := shItem_reads.1 h
  obtain ⟨b0, nb0, cb0, rfl, ⟨pb0, rb0, m0⟩⟩ := shItem_reads.1 h'
  rw [shItem_bulk, bulk_ints] at hb
  rw [shItem_bulk, bulk_ints] at hb'
  have HNO := Lib.hid fun (hn : ¬ x = y) => no_of hR hn
  have HYES := Lib.hid hR.2
  have v0 : x.2.length = nj0 := l0.1
  have u0 : y.2.length = nb0 := m0.1
  obtain ⟨q0, hq0⟩ : ∃ q, x.1 = q := ⟨_, rfl⟩
  obtain ⟨r0, hr0⟩ : ∃ q, y.1 = q := ⟨_, rfl⟩
  obtain ⟨e1, he1⟩ := bool_of (x.2 = y.2)
  have C1 := Lib.hid fun (wx : World) (hx : Below w.heap.size w wx) => implSameVec_r wx j0 nj0 cj0 _ b0 nb0 cb0 _ (((l0.ints (by omega)).below hx (Nat.le_refl _)).le hx.size) (((m0.ints (by omega)).below hx (Nat.le_refl _)).le hx.size) e1 he1
  have N1 : Hid (e1 = false → ¬ x = y) := Lib.hid fun h1 h2 => by
    rw [← Bool.not_eq_true, he1] at h1
    exact h1 (by rw [h2])
  have Y1 : Hid (e1 = true → x.2 = y.2) := Lib.hid he1.1
  have Q0 : Hid (x.1 = q0) := Lib.hid hq0
  have S0 : Hid (y.1 = r0) := Lib.hid hr0
  rw [hq0, hr0]
  have hal := ((Below.refl w.heap.size w).alloc (Nat.le_refl _) (.cells #[.int .i64 q0, .slice j0 nj0 cj0] 117 (0, 0))).alloc (by simp) (.cells #[.int .i64 r0, .slice b0 nb0 cb0] 117 (0, 0))
  have hA : ((w.alloc (.cells #[.int .i64 q0, .slice j0 nj0 cj0] 117 (0, 0))).alloc (.cells #[.int .i64 r0, .slice b0 nb0 cb0] 117 (0, 0))).heap[w.heap.size]? = some (.cells #[.int .i64 q0, .slice j0 nj0 cj0] 117 (0, 0)) := by
    rw [Below.heap_alloc _ _ _ (by simp)]
    exact heap_alloc_new w _
  have hC : ((w.alloc (.cells #[.int .i64 q0, .slice j0 nj0 cj0] 117 (0, 0))).alloc (.cells #[.int .i64 r0, .slice b0 nb0 cb0] 117 (0, 0))).heap[w.heap.size + 1]? = some (.cells #[.int .i64 r0, .slice b0 nb0 cb0] 117 (0, 0)) := by
    have := heap_alloc_new (w.alloc (.cells #[.int .i64 q0, .slice j0 nj0 cj0] 117 (0, 0))) (.cells #[.int .i64 r0, .slice b0 nb0 cb0] 117 (0, 0))
    simpa using this
  have hS : w.heap.size + 1 < ((w.alloc (.cells #[.int .i64 q0, .slice j0 nj0 cj0] 117 (0, 0))).alloc (.cells #[.int .i64 r0, .slice b0 nb0 cb0] 117 (0, 0))).heap.size := by simp
  have HA := Lib.hid hal
  have XA := Lib.hid hA
  have XC := Lib.hid hC
  have HS := Lib.hid hS
  clear h h' hb hb' hR hal hA hC hS pj0 rj0 l0 pb0 rb0 m0 hq0 hr0 he1
  clear v0 u0
  by_cases d0 : q0 = r0
  case neg =>
    have g0 : ((q0 : Int) == r0) = false := beq_eq_false_iff_ne.2 d0
    obtain rfl : R = false := HNO.out fun e => d0 (by rw [← Q0.out, ← S0.out, e])
    clear d0
    go_enter Try.func85, Try.ntmps85
    go_wp2_with fail
    go_ret
    exact ⟨rfl, HA.out⟩
  have g0 : ((q0 : Int) == r0) = true := beq_iff_eq.2 d0
  have D0 := Lib.hid d0
  clear d0
  cases e1
  · obtain rfl : R = false := HNO.out (N1.out (by first | rfl | trivial))
    go_enter Try.func85, Try.ntmps85
    go_wp2_with fail
    refine (C1.out _ HA.out).mono ?_
    rintro e w1 ⟨rfl, hb⟩
    have B0 := Lib.hid (HA.out.trans (hb.mono HA.out.size))
    clear hb
    go_wp2_with fail
    go_ret
    exact ⟨rfl, B0.out⟩
  obtain rfl : R = true := HYES.out (Prod.ext ((by rw [Q0.out, S0.out, D0.out])) (Y1.out (by first | rfl | trivial)))
  go_enter Try.func85, Try.ntmps85
  go_wp2_with fail
  refine (C1.out _ HA.out).mono ?_
  rintro e w1 ⟨rfl, hb⟩
  have B0 := Lib.hid (HA.out.trans (hb.mono HA.out.size))
  clear hb
  go_wp2_with fail
  go_ret
  exact ⟨rfl, B0.out⟩
theorem eg_sameItem : ∀ args w, (callFunc 85 args).run Try.prog w = .ok (.enter 85 args) w := enters_of Try.func85 (by kernel_rfl) rfl
set_option maxRecDepth 100000 in
set_option maxHeartbeats 6400000 in
theorem equalFunc_Item (w : World) (a : Option Addr) (n c : Nat) (xs : List dItem) (h : ListAt shItem (Under w.heap.size) w a n xs) (hn : n ≤ 1048576) (hb : Shape.sum shItem.bulk xs ≤ 1048576) (a' : Option Addr) (n' c' : Nat) (ys : List dItem) (h' : ListAt shItem (Under w.heap.size) w a' n' ys) (hb' : Shape.sum shItem.bulk ys ≤ 1048576) (R : Bool) (hR : R = true ↔ xs = ys) :
    Calls Try.prog 84 #[.slice a n c, .slice a' n' c', .func (.func 85) #[] #[]] w fun e w' => e = .returned (.bool R) ∧ Below w.heap.size w w' := by
  have HNO := Lib.hid fun (hn : ¬ xs = ys) => no_of hR hn
  have HYES := Lib.hid hR.2
  have HL := Lib.hid h
  have HL' := Lib.hid h'
  have HB := Lib.hid hb
  have HB' := Lib.hid hb'
  have eg := eg_sameItem
  clear h h' hb hb' hR
  by_cases hnn : n = n'
  · subst hnn
    go_enter Try.func84, Try.ntmps84
    go_wp2_with fail
    go_loopw [17] (fun i wr => ∃ k : Nat, k ≤ n ∧ i = .int .i64 k ∧ Hid (∀ j : Nat, j < k → xs[j]? = ys[j]?) ∧ Below w.heap.size w wr) (fun i _ => n - (intOf i).toNat)
    case atStart => exact ⟨0, Nat.zero_le _, rfl, Lib.hid fun j hj => absurd hj (Nat.not_lt_zero _), Below.refl _ _⟩
    case round =>
      obtain ⟨k, hk, rfl, hall, hbw⟩ := hrel
      have hsz := hbw.size
      by_cases hlt : k < n
      · obtain ⟨x, hx⟩ : ∃ x, xs[k]? = some x := ⟨_, List.getElem?_eq_getElem (by rw [HL.out.1]; exact hlt)⟩
        obtain ⟨y, hy⟩ : ∃ y, ys[k]? = some y := ⟨_, List.getElem?_eq_getElem (by rw [HL'.out.1]; exact hlt)⟩
        obtain ⟨b, o, es, rfl, hbB, hr, hs⟩ := HL.out.2 k x hx
        obtain ⟨b', o', es', rfl, hbB', hr', hs'⟩ := HL'.out.2 k y hy
        have hrr := rangeAt_kept hr (show b < w.heap.size from hbB) (Kept.of_below (I := Under w.heap.size) hbw fun b hb => hb)
        have hsw := shItem.below hs hbw (Nat.le_refl _)
        have hsw' := shItem.below hs' hbw (Nat.le_refl _)
        have hbx : shItem.bulk x ≤ 1048576 := Nat.le_trans (bulk_mem shItem.bulk xs k x hx) HB.out
        have hby : shItem.bulk y ≤ 1048576 := Nat.le_trans (bulk_mem shItem.bulk ys k y hy) HB'.out
        obtain ⟨p, hp⟩ := bool_of (x = y)
        obtain ⟨j0, nj0, cj0, rfl, -⟩ := shItem_reads.1 hsw
        obtain ⟨b0, nb0, cb0, rfl, -⟩ := shItem_reads.1 hsw'
        obtain ⟨q0, hq0⟩ : ∃ q, x.1 = q := ⟨_, rfl⟩
        obtain ⟨r0, hr0⟩ : ∃ q, y.1 = q := ⟨_, rfl⟩
        rw [hq0] at hsw hrr
        rw [hr0] at hsw' hr'
        have hal := (Below.refl wr.heap.size wr).alloc (Nat.le_refl _) (.cells #[.int .i64 q0, .slice j0 nj0 cj0] 117 (0, 0))
        have hg1 : (wr.alloc (.cells #[.int .i64 q0, .slice j0 nj0 cj0] 117 (0, 0))).heap.size = wr.heap.size + 1 := by simp
        have hk1 := heap_alloc_new wr (.cells #[.int .i64 q0, .slice j0 nj0 cj0] 117 (0, 0))
        have hbw1 := hbw.trans (hal.mono hsz)
        have hrr' := rangeAt_kept hr' (show b' < w.heap.size from hbB') (Kept.of_below (I := Under w.heap.size) hbw1 fun b hb => hb)
        rw [shItem_size] at hrr hrr'
        have c100 := hrr 0 _ rfl
        have c101 := hrr 1 _ rfl
        have c200 := hrr' 0 _ rfl
        have c201 := hrr' 1 _ rfl
        simp only [Nat.add_zero] at c100 c200
        have HX := Lib.hid hx
        have HY := Lib.hid hy
        have HP := Lib.hid hp
        have HSX := Lib.hid hsw
        have HSY := Lib.hid hsw'
        have HBX := Lib.hid hbx
        have HBY := Lib.hid hby
        have HK1 := Lib.hid hk1
        have HAL := Lib.hid hal
        have HBW := Lib.hid hbw
        clear hr hrr hs hsw hx hbx hr' hrr' hs' hsw' hy hby hbw1 hk1 hp hal hbw hbB hbB' hq0 hr0
        go_upto_region 6 with fail
        clear c100 c101
        generalize wr.alloc (.cells #[.int .i64 q0, .slice j0 nj0 cj0] 117 (0, 0)) = wb at HK1 HAL hg1 c200 c201 ⊢
        have hal2 := HAL.out.alloc HAL.out.size (.cells #[.int .i64 r0, .slice b0 nb0 cb0] 117 (0, 0))
        have hg2 : (wb.alloc (.cells #[.int .i64 r0, .slice b0 nb0 cb0] 117 (0, 0))).heap.size = wr.heap.size + 1 + 1 := by simp [hg1]
        have hk2 := heap_alloc_new wb (.cells #[.int .i64 r0, .slice b0 nb0 cb0] 117 (0, 0))
        have hk1 : (wb.alloc (.cells #[.int .i64 r0, .slice b0 nb0 cb0] 117 (0, 0))).heap[wr.heap.size]? = _ := (Below.heap_alloc _ _ _ (by omega)).trans HK1.out
        rw [hg1] at hk2
        have hc := implSameItem_d (wb.alloc (.cells #[.int .i64 r0, .slice b0 nb0 cb0] 117 (0, 0))) _ x (shItem.le (shItem.below HSX.out (hal2.mono hsz) (Nat.le_refl _)) (by omega)) HBX.out _ y (shItem.le (shItem.below HSY.out (hal2.mono hsz) (Nat.le_refl _)) (by omega)) HBY.out p HP.out
        have HC := Lib.hid hc
        have HA2 := Lib.hid (HBW.out.trans (hal2.mono hsz))
        have HK2 := Lib.hid hk2
        have HK3 := Lib.hid hk1
        have HG1 := Lib.hid hg1
        clear hc hal2 hk1 hk2
        go_upto_region 7 with fail
        clear c200 c201
        try rw [HG1.out]
        clear hg1
        generalize wb.alloc (.cells #[.int .i64 r0, .slice b0 nb0 cb0] 117 (0, 0)) = wc at HC HA2 HK2 HK3 hg2 ⊢
        have z0 := boxs HK3.out 0 _ rfl
        have z1 := boxs HK3.out 1 _ rfl
        have y0 := boxs HK2.out 0 _ rfl
        have y1 := boxs HK2.out 1 _ rfl
        clear hg2
        cases p
        · obtain rfl : R = false := HNO.out fun e => by
            have h1 : xs[k]? = ys[k]? := by rw [e]
            rw [HX.out, HY.out] at h1
            have := HP.out.2 (Option.some.inj h1)
            cases this
          go_wp2_with fail
          clear z0 y0 z1 y1
          refine HC.out.mono ?_
          rintro e w1 ⟨rfl, hb⟩
          have HB1 := Lib.hid (HA2.out.trans (hb.mono HA2.out.size))
          clear hb
          go_wp2_with fail
          go_ret
          exact ⟨rfl, HB1.out⟩
        · have HEQ : Hid (x = y) := Lib.hid (HP.out.1 rfl)
          go_wp2_with fail
          clear z0 y0 z1 y1
          refine HC.out.mono ?_
          rintro e w1 ⟨rfl, hb⟩
          have HB1 := Lib.hid (HA2.out.trans (hb.mono HA2.out.size))
          clear hb
          go_wp2_with fail
          go_round
          case rel =>
            refine ⟨k + 1, by omega, by go_num, Lib.hid fun i hi => ?_, HB1.out⟩
            by_cases e : i = k
            · subst e
              rw [HX.out, HY.out, HEQ.out]
            · exact hall.out i (by omega)
          case measure => simp [intOf]; omega
      · obtain rfl : k = n := by omega
        obtain rfl : R = true := HYES.out (same_list (by rw [HL.out.1, HL'.out.1]) fun j hj => hall.out j (by rw [← HL.out.1]; exact hj))
        have HWW := Lib.hid hbw
        clear hbw
        go_wp2_with fail
        go_ret
        exact ⟨rfl, HWW.out⟩
  · have hne : ((n : Int) != (n' : Int)) = true := by simpa using fun e : (n : Int) = n' => hnn (by omega)
    obtain rfl : R = false := HNO.out fun e => hnn (by rw [← HL.out.1, ← HL'.out.1, e])
    clear hnn
    go_enter Try.func84, Try.ntmps84
    go_wp2_with fail
    go_ret
    exact ⟨rfl, Below.refl _ _⟩
set_option maxRecDepth 100000 in
set_option maxHeartbeats 6400000 in
theorem implSameQueue_d (w : World) (es : List Value) (x : dQueue) (h : shQueue.reads (Under w.heap.size) w es x) (hb : shQueue.bulk x ≤ 1048576) (es' : List Value) (y : dQueue) (h' : shQueue.reads (Under w.heap.size) w es' y) (hb' : shQueue.bulk y ≤ 1048576) (R : Bool) (hR : R = true ↔ x = y) :
    Calls Try.prog 55 #[.agg es.toArray, .agg es'.toArray] w fun e w' => e = .returned (.bool R) ∧ Below w.heap.size w w' := by
  obtain ⟨j0, nj0, cj0, rfl, ⟨pj0, rj0, l0⟩⟩ := shQueue_reads.1 h
  obtain ⟨b0, nb0, cb0, rfl, ⟨pb0, rb0, m0⟩⟩ := shQueue_reads.1 h'
  rw [shQueue_bulk, bulk_list shItem l0] at hb
  rw [shQueue_bulk, bulk_list shItem m0] at hb'
  have HNO := Lib.hid fun (hn : ¬ x = y) => no_of hR hn
  have HYES := Lib.hid hR.2
  obtain ⟨q0, hq0⟩ : ∃ q, x.1 = q := ⟨_, rfl⟩
  obtain ⟨r0, hr0⟩ : ∃ q, y.1 = q := ⟨_, rfl⟩
  obtain ⟨e1, he1⟩ := bool_of (x.2 = y.2)
  have C1 := Lib.hid fun (wx : World) (hx : Below w.heap.size w wx) => equalFunc_Item wx j0 nj0 cj0 _ ((l0.below hx (Nat.le_refl _)).le hx.size) (by omega) (by omega) b0 nb0 cb0 _ ((m0.below hx (Nat.le_refl _)).le hx.size) (by omega) e1 he1
  have N1 : Hid (e1 = false → ¬ x = y) := Lib.hid fun h1 h2 => by
    rw [← Bool.not_eq_true, he1] at h1
    exact h1 (by rw [h2])
  have Y1 : Hid (e1 = true → x.2 = y.2) := Lib.hid he1.1
  have Q0 : Hid (x.1 = q0) := Lib.hid hq0
  have S0 : Hid (y.1 = r0) := Lib.hid hr0
  rw [hq0, hr0]
  have hal := ((Below.refl w.heap.size w).alloc (Nat.le_refl _) (.cells #[.int .i64 q0, .slice j0 nj0 cj0] 89 (0, 0))).alloc (by simp) (.cells #[.int .i64 r0, .slice b0 nb0 cb0] 89 (0, 0))
  have hA : ((w.alloc (.cells #[.int .i64 q0, .slice j0 nj0 cj0] 89 (0, 0))).alloc (.cells #[.int .i64 r0, .slice b0 nb0 cb0] 89 (0, 0))).heap[w.heap.size]? = some (.cells #[.int .i64 q0, .slice j0 nj0 cj0] 89 (0, 0)) := by
    rw [Below.heap_alloc _ _ _ (by simp)]
    exact heap_alloc_new w _
  have hC : ((w.alloc (.cells #[.int .i64 q0, .slice j0 nj0 cj0] 89 (0, 0))).alloc (.cells #[.int .i64 r0, .slice b0 nb0 cb0] 89 (0, 0))).heap[w.heap.size + 1]? = some (.cells #[.int .i64 r0, .slice b0 nb0 cb0] 89 (0, 0)) := by
    have := heap_alloc_new (w.alloc (.cells #[.int .i64 q0, .slice j0 nj0 cj0] 89 (0, 0))) (.cells #[.int .i64 r0, .slice b0 nb0 cb0] 89 (0, 0))
    simpa using this
  have hS : w.heap.size + 1 < ((w.alloc (.cells #[.int .i64 q0, .slice j0 nj0 cj0] 89 (0, 0))).alloc (.cells #[.int .i64 r0, .slice b0 nb0 cb0] 89 (0, 0))).heap.size := by simp
  have HA := Lib.hid hal
  have XA := Lib.hid hA
  have XC := Lib.hid hC
  have HS := Lib.hid hS
  clear h h' hb hb' hR hal hA hC hS pj0 rj0 l0 pb0 rb0 m0 hq0 hr0 he1
  by_cases d0 : q0 = r0
  case neg =>
    have g0 : ((q0 : Int) == r0) = false := beq_eq_false_iff_ne.2 d0
    obtain rfl : R = false := HNO.out fun e => d0 (by rw [← Q0.out, ← S0.out, e])
    clear d0
    go_enter Try.func55, Try.ntmps55
    go_wp2_with fail
    go_ret
    exact ⟨rfl, HA.out⟩
  have g0 : ((q0 : Int) == r0) = true := beq_iff_eq.2 d0
  have D0 := Lib.hid d0
  clear d0
  cases e1
  · obtain rfl : R = false := HNO.out (N1.out (by first | rfl | trivial))
    go_enter Try.func55, Try.ntmps55
    go_wp2_with fail
    refine (C1.out _ HA.out).mono ?_
    rintro e w1 ⟨rfl, hb⟩
    have B0 := Lib.hid (HA.out.trans (hb.mono HA.out.size))
    clear hb
    go_wp2_with fail
    go_ret
    exact ⟨rfl, B0.out⟩
  obtain rfl : R = true := HYES.out (Prod.ext ((by rw [Q0.out, S0.out, D0.out])) (Y1.out (by first | rfl | trivial)))
  go_enter Try.func55, Try.ntmps55
  go_wp2_with fail
  refine (C1.out _ HA.out).mono ?_
  rintro e w1 ⟨rfl, hb⟩
  have B0 := Lib.hid (HA.out.trans (hb.mono HA.out.size))
  clear hb
  go_wp2_with fail
  go_ret
  exact ⟨rfl, B0.out⟩
theorem eg_sameQueue : ∀ args w, (callFunc 55 args).run Try.prog w = .ok (.enter 55 args) w := enters_of Try.func55 (by kernel_rfl) rfl
set_option maxRecDepth 100000 in
set_option maxHeartbeats 6400000 in
theorem equalFunc_Queue (w : World) (a : Option Addr) (n c : Nat) (xs : List dQueue) (h : ListAt shQueue (Under w.heap.size) w a n xs) (hn : n ≤ 1048576) (hb : Shape.sum shQueue.bulk xs ≤ 1048576) (a' : Option Addr) (n' c' : Nat) (ys : List dQueue) (h' : ListAt shQueue (Under w.heap.size) w a' n' ys) (hb' : Shape.sum shQueue.bulk ys ≤ 1048576) (R : Bool) (hR : R = true ↔ xs = ys) :
    Calls Try.prog 54 #[.slice a n c, .slice a' n' c', .func (.func 55) #[] #[]] w fun e w' => e = .returned (.bool R) ∧ Below w.heap.size w w' := by
  have HNO := Lib.hid fun (hn : ¬ xs = ys) => no_of hR hn
  have HYES := Lib.hid hR.2
  have HL := Lib.hid h
  have HL' := Lib.hid h'
  have HB := Lib.hid hb
  have HB' := Lib.hid hb'
  have eg := eg_sameQueue
  clear h h' hb hb' hR
  by_cases hnn : n = n'
  · subst hnn
    go_enter Try.func54, Try.ntmps54
    go_wp2_with fail
    go_loopw [17] (fun i wr => ∃ k : Nat, k ≤ n ∧ i = .int .i64 k ∧ Hid (∀ j : Nat, j < k → xs[j]? = ys[j]?) ∧ Below w.heap.size w wr) (fun i _ => n - (intOf i).toNat)
    case atStart => exact ⟨0, Nat.zero_le _, rfl, Lib.hid fun j hj => absurd hj (Nat.not_lt_zero _), Below.refl _ _⟩
    case round =>
      obtain ⟨k, hk, rfl, hall, hbw⟩ := hrel
      have hsz := hbw.size
      by_cases hlt : k < n
      · obtain ⟨x, hx⟩ : ∃ x, xs[k]? = some x := ⟨_, List.getElem?_eq_getElem (by rw [HL.out.1]; exact hlt)⟩
        obtain ⟨y, hy⟩ : ∃ y, ys[k]? = some y := ⟨_, List.getElem?_eq_getElem (by rw [HL'.out.1]; exact hlt)⟩
        obtain ⟨b, o, es, rfl, hbB, hr, hs⟩ := HL.out.2 k x hx
        obtain ⟨b', o', es', rfl, hbB', hr', hs'⟩ := HL'.out.2 k y hy
        have hrr := rangeAt_kept hr (show b < w.heap.size from hbB) (Kept.of_below (I := Under w.heap.size) hbw fun b hb => hb)
        have hsw := shQueue.below hs hbw (Nat.le_refl _)
        have hsw' := shQueue.below hs' hbw (Nat.le_refl _)
        have hbx : shQueue.bulk x ≤ 1048576 := Nat.le_trans (bulk_mem shQueue.bulk xs k x hx) HB.out
        have hby : shQueue.bulk y ≤ 1048576 := Nat.le_trans (bulk_mem shQueue.bulk ys k y hy) HB'.out
        obtain ⟨p, hp⟩ := bool_of (x = y)
        obtain ⟨j0, nj0, cj0, rfl, -⟩ := shQueue_reads.1 hsw
        obtain ⟨b0, nb0, cb0, rfl, -⟩ := shQueue_reads.1 hsw'
        obtain ⟨q0, hq0⟩ : ∃ q, x.1 = q := ⟨_, rfl⟩
        obtain ⟨r0, hr0⟩ : ∃ q, y.1 = q := ⟨_, rfl⟩
        rw [hq0] at hsw hrr
        rw [hr0] at hsw' hr'
        have hal := (Below.refl wr.heap.size wr).alloc (Nat.le_refl _) (.cells #[.int .i64 q0, .slice j0 nj0 cj0] 89 (0, 0))
        have hg1 : (wr.alloc (.cells #[.int .i64 q0, .slice j0 nj0 cj0] 89 (0, 0))).heap.size = wr.heap.size + 1 := by simp
        have hk1 := heap_alloc_new wr (.cells #[.int .i64 q0, .slice j0 nj0 cj0] 89 (0, 0))
        have hbw1 := hbw.trans (hal.mono hsz)
        have hrr' := rangeAt_kept hr' (show b' < w.heap.size from hbB') (Kept.of_below (I := Under w.heap.size) hbw1 fun b hb => hb)
        rw [shQueue_size] at hrr hrr'
        have c100 := hrr 0 _ rfl
        have c101 := hrr 1 _ rfl
        have c200 := hrr' 0 _ rfl
        have c201 := hrr' 1 _ rfl
        simp only [Nat.add_zero] at c100 c200
        have HX := Lib.hid hx
        have HY := Lib.hid hy
        have HP := Lib.hid hp
        have HSX := Lib.hid hsw
        have HSY := Lib.hid hsw'
        have HBX := Lib.hid hbx
        have HBY := Lib.hid hby
        have HK1 := Lib.hid hk1
        have HAL := Lib.hid hal
        have HBW := Lib.hid hbw
        clear hr hrr hs hsw hx hbx hr' hrr' hs' hsw' hy hby hbw1 hk1 hp hal hbw hbB hbB' hq0 hr0
        go_upto_region 6 with fail
        clear c100 c101
        generalize wr.alloc (.cells #[.int .i64 q0, .slice j0 nj0 cj0] 89 (0, 0)) = wb at HK1 HAL hg1 c200 c201 ⊢
        have hal2 := HAL.out.alloc HAL.out.size (.cells #[.int .i64 r0, .slice b0 nb0 cb0] 89 (0, 0))
        have hg2 : (wb.alloc (.cells #[.int .i64 r0, .slice b0 nb0 cb0] 89 (0, 0))).heap.size = wr.heap.size + 1 + 1 := by simp [hg1]
        have hk2 := heap_alloc_new wb (.cells #[.int .i64 r0, .slice b0 nb0 cb0] 89 (0, 0))
        have hk1 : (wb.alloc (.cells #[.int .i64 r0, .slice b0 nb0 cb0] 89 (0, 0))).heap[wr.heap.size]? = _ := (Below.heap_alloc _ _ _ (by omega)).trans HK1.out
        rw [hg1] at hk2
        have hc := implSameQueue_d (wb.alloc (.cells #[.int .i64 r0, .slice b0 nb0 cb0] 89 (0, 0))) _ x (shQueue.le (shQueue.below HSX.out (hal2.mono hsz) (Nat.le_refl _)) (by omega)) HBX.out _ y (shQueue.le (shQueue.below HSY.out (hal2.mono hsz) (Nat.le_refl _)) (by omega)) HBY.out p HP.out
        have HC := Lib.hid hc
        have HA2 := Lib.hid (HBW.out.trans (hal2.mono hsz))
        have HK2 := Lib.hid hk2
        have HK3 := Lib.hid hk1
        have HG1 := Lib.hid hg1
        clear hc hal2 hk1 hk2
        go_upto_region 7 with fail
        clear c200 c201
        try rw [HG1.out]
        clear hg1
        generalize wb.alloc (.cells #[.int .i64 r0, .slice b0 nb0 cb0] 89 (0, 0)) = wc at HC HA2 HK2 HK3 hg2 ⊢
        have z0 := boxs HK3.out 0 _ rfl
        have z1 := boxs HK3.out 1 _ rfl
        have y0 := boxs HK2.out 0 _ rfl
        have y1 := boxs HK2.out 1 _ rfl
        clear hg2
        cases p
        · obtain rfl : R = false := HNO.out fun e => by
            have h1 : xs[k]? = ys[k]? := by rw [e]
            rw [HX.out, HY.out] at h1
            have := HP.out.2 (Option.some.inj h1)
            cases this
          go_wp2_with fail
          clear z0 y0 z1 y1
          refine HC.out.mono ?_
          rintro e w1 ⟨rfl, hb⟩
          have HB1 := Lib.hid (HA2.out.trans (hb.mono HA2.out.size))
          clear hb
          go_wp2_with fail
          go_ret
          exact ⟨rfl, HB1.out⟩
        · have HEQ : Hid (x = y) := Lib.hid (HP.out.1 rfl)
          go_wp2_with fail
          clear z0 y0 z1 y1
          refine HC.out.mono ?_
          rintro e w1 ⟨rfl, hb⟩
          have HB1 := Lib.hid (HA2.out.trans (hb.mono HA2.out.size))
          clear hb
          go_wp2_with fail
          go_round
          case rel =>
            refine ⟨k + 1, by omega, by go_num, Lib.hid fun i hi => ?_, HB1.out⟩
            by_cases e : i = k
            · subst e
              rw [HX.out, HY.out, HEQ.out]
            · exact hall.out i (by omega)
          case measure => simp [intOf]; omega
      · obtain rfl : k = n := by omega
        obtain rfl : R = true := HYES.out (same_list (by rw [HL.out.1, HL'.out.1]) fun j hj => hall.out j (by rw [← HL.out.1]; exact hj))
        have HWW := Lib.hid hbw
        clear hbw
        go_wp2_with fail
        go_ret
        exact ⟨rfl, HWW.out⟩
  · have hne : ((n : Int) != (n' : Int)) = true := by simpa using fun e : (n : Int) = n' => hnn (by omega)
    obtain rfl : R = false := HNO.out fun e => hnn (by rw [← HL.out.1, ← HL'.out.1, e])
    clear hnn
    go_enter Try.func54, Try.ntmps54
    go_wp2_with fail
    go_ret
    exact ⟨rfl, Below.refl _ _⟩
theorem eg_SameOp : ∀ args w, (callFunc 79 args).run Try.prog w = .ok (.enter 79 args) w := enters_of Try.func79 (by kernel_rfl) rfl
set_option maxRecDepth 100000 in
set_option maxHeartbeats 6400000 in
theorem equalFunc_Op (w : World) (a : Option Addr) (n c : Nat) (xs : List dOp) (h : ListAt shOp (Under w.heap.size) w a n xs) (hn : n ≤ 1048576) (hb : Shape.sum shOp.bulk xs ≤ 1048576) (a' : Option Addr) (n' c' : Nat) (ys : List dOp) (h' : ListAt shOp (Under w.heap.size) w a' n' ys) (hb' : Shape.sum shOp.bulk ys ≤ 1048576) (R : Bool) (hR : R = true ↔ xs = ys) :
    Calls Try.prog 78 #[.slice a n c, .slice a' n' c', .func (.func 79) #[] #[]] w fun e w' => e = .returned (.bool R) ∧ Below w.heap.size w w' := by
  have HNO := Lib.hid fun (hn : ¬ xs = ys) => no_of hR hn
  have HYES := Lib.hid hR.2
  have HL := Lib.hid h
  have HL' := Lib.hid h'
  have HB := Lib.hid hb
  have HB' := Lib.hid hb'
  have eg := eg_SameOp
  clear h h' hb hb' hR
  by_cases hnn : n = n'
  · subst hnn
    go_enter Try.func78, Try.ntmps78
    go_wp2_with fail
    go_loopw [17] (fun i wr => ∃ k : Nat, k ≤ n ∧ i = .int .i64 k ∧ Hid (∀ j : Nat, j < k → xs[j]? = ys[j]?) ∧ Below w.heap.size w wr) (fun i _ => n - (intOf i).toNat)
    case atStart => exact ⟨0, Nat.zero_le _, rfl, Lib.hid fun j hj => absurd hj (Nat.not_lt_zero _), Below.refl _ _⟩
    case round =>
      obtain ⟨k, hk, rfl, hall, hbw⟩ := hrel
      have hsz := hbw.size
      by_cases hlt : k < n
      · obtain ⟨x, hx⟩ : ∃ x, xs[k]? = some x := ⟨_, List.getElem?_eq_getElem (by rw [HL.out.1]; exact hlt)⟩
        obtain ⟨y, hy⟩ : ∃ y, ys[k]? = some y := ⟨_, List.getElem?_eq_getElem (by rw [HL'.out.1]; exact hlt)⟩
        obtain ⟨b, o, es, rfl, hbB, hr, hs⟩ := HL.out.2 k x hx
        obtain ⟨b', o', es', rfl, hbB', hr', hs'⟩ := HL'.out.2 k y hy
        have hrr := rangeAt_kept hr (show b < w.heap.size from hbB) (Kept.of_below (I := Under w.heap.size) hbw fun b hb => hb)
        have hsw := shOp.below hs hbw (Nat.le_refl _)
        have hsw' := shOp.below hs' hbw (Nat.le_refl _)
        have hbx : shOp.bulk x ≤ 1048576 := Nat.le_trans (bulk_mem shOp.bulk xs k x hx) HB.out
        have hby : shOp.bulk y ≤ 1048576 := Nat.le_trans (bulk_mem shOp.bulk ys k y hy) HB'.out
        obtain ⟨p, hp⟩ := bool_of (x = y)
        obtain ⟨j0, nj0, cj0, rfl, -⟩ := shOp_reads.1 hsw
        obtain ⟨b0, nb0, cb0, rfl, -⟩ := shOp_reads.1 hsw'
        obtain ⟨q0, hq0⟩ : ∃ q, x.1 = q := ⟨_, rfl⟩
        obtain ⟨q1, hq1⟩ : ∃ q, x.2.1 = q := ⟨_, rfl⟩
        obtain ⟨q2, hq2⟩ : ∃ q, x.2.2.1 = q := ⟨_, rfl⟩
        obtain ⟨r0, hr0⟩ : ∃ q, y.1 = q := ⟨_, rfl⟩
        obtain ⟨r1, hr1⟩ : ∃ q, y.2.1 = q := ⟨_, rfl⟩
        obtain ⟨r2, hr2⟩ : ∃ q, y.2.2.1 = q := ⟨_, rfl⟩
        rw [hq0, hq1, hq2] at hsw hrr
        rw [hr0, hr1, hr2] at hsw' hr'
        have hal := (Below.refl wr.heap.size wr).alloc (Nat.le_refl _) (.cells #[.int .i64 q0, .int .i64 q1, .int .i64 q2, .slice j0 nj0 cj0] 120 (0, 0))
        have hg1 : (wr.alloc (.cells #[.int .i64 q0, .int .i64 q1, .int .i64 q2, .slice j0 nj0 cj0] 120 (0, 0))).heap.size = wr.heap.size + 1 := by simp
        have hk1 := heap_alloc_new wr (.cells #[.int .i64 q0, .int .i64 q1, .int .i64 q2, .slice j0 nj0 cj0] 120 (0, 0))
        have hbw1 := hbw.trans (hal.mono hsz)
        have hrr' := rangeAt_kept hr' (show b' < w.heap.size from hbB') (Kept.of_below (I := Under w.heap.size) hbw1 fun b hb => hb)
        rw [shOp_size] at hrr hrr'
        have c100 := hrr 0 _ rfl
        have c101 := hrr 1 _ rfl
        have c102 := hrr 2 _ rfl
        have c103 := hrr 3 _ rfl
        have c200 := hrr' 0 _ rfl
        have c201 := hrr' 1 _ rfl
        have c202 := hrr' 2 _ rfl
        have c203 := hrr' 3 _ rfl
        simp only [Nat.add_zero] at c100 c200
        have HX := Lib.hid hx
        have HY := Lib.hid hy
        have HP := Lib.hid hp
        have HSX := Lib.hid hsw
        have HSY := Lib.hid hsw'
        have HBX := Lib.hid hbx
        have HBY := Lib.hid hby
        have HK1 := Lib.hid hk1
        have HAL := Lib.hid hal
        have HBW := Lib.hid hbw
        clear hr hrr hs hsw hx hbx hr' hrr' hs' hsw' hy hby hbw1 hk1 hp hal hbw hbB hbB' hq0 hq1 hq2 hr0 hr1 hr2
        go_upto_region 6 with fail
        clear c100 c101 c102 c103
        generalize wr.alloc (.cells #[.int .i64 q0, .int .i64 q1, .int .i64 q2, .slice j0 nj0 cj0] 120 (0, 0)) = wb at HK1 HAL hg1 c200 c201 c202 c203 ⊢
        have hal2 := HAL.out.alloc HAL.out.size (.cells #[.int .i64 r0, .int .i64 r1, .int .i64 r2, .slice b0 nb0 cb0] 120 (0, 0))
        have hg2 : (wb.alloc (.cells #[.int .i64 r0, .int .i64 r1, .int .i64 r2, .slice b0 nb0 cb0] 120 (0, 0))).heap.size = wr.heap.size + 1 + 1 := by simp [hg1]
        have hk2 := heap_alloc_new wb (.cells #[.int .i64 r0, .int .i64 r1, .int .i64 r2, .slice b0 nb0 cb0] 120 (0, 0))
        have hk1 : (wb.alloc (.cells #[.int .i64 r0, .int .i64 r1, .int .i64 r2, .slice b0 nb0 cb0] 120 (0, 0))).heap[wr.heap.size]? = _ := (Below.heap_alloc _ _ _ (by omega)).trans HK1.out
        rw [hg1] at hk2
        have hc := implSameOp_d (wb.alloc (.cells #[.int .i64 r0, .int .i64 r1, .int .i64 r2, .slice b0 nb0 cb0] 120 (0, 0))) _ x (shOp.le (shOp.below HSX.out (hal2.mono hsz) (Nat.le_refl _)) (by omega)) HBX.out _ y (shOp.le (shOp.below HSY.out (hal2.mono hsz) (Nat.le_refl _)) (by omega)) HBY.out p HP.out
        have HC := Lib.hid hc
        have HA2 := Lib.hid (HBW.out.trans (hal2.mono hsz))
        have HK2 := Lib.hid hk2
        have HK3 := Lib.hid hk1
        have HG1 := Lib.hid hg1
        clear hc hal2 hk1 hk2
        go_upto_region 7 with fail
        clear c200 c201 c202 c203
        try rw [HG1.out]
        clear hg1
        generalize wb.alloc (.cells #[.int .i64 r0, .int .i64 r1, .int .i64 r2, .slice b0 nb0 cb0] 120 (0, 0)) = wc at HC HA2 HK2 HK3 hg2 ⊢
        have z0 := boxs HK3.out 0 _ rfl
        have z1 := boxs HK3.out 1 _ rfl
        have z2 := boxs HK3.out 2 _ rfl
        have z3 := boxs HK3.out 3 _ rfl
        have y0 := boxs HK2.out 0 _ rfl
        have y1 := boxs HK2.out 1 _ rfl
        have y2 := boxs HK2.out 2 _ rfl
        have y3 := boxs HK2.out 3 _ rfl
        clear hg2
        cases p
        · obtain rfl : R = false := HNO.out fun e => by
            have h1 : xs[k]? = ys[k]? := by rw [e]
            rw [HX.out, HY.out] at h1
            have := HP.out.2 (Option.some.inj h1)
            cases this
          go_wp2_with fail
          clear z0 y0 z1 y1 z2 y2 z3 y3
          refine HC.out.mono ?_
          rintro e w1 ⟨rfl, hb⟩
          have HB1 := Lib.hid (HA2.out.trans (hb.mono HA2.out.size))
          clear hb
          go_wp2_with fail
          go_ret
          exact ⟨rfl, HB1.out⟩
        · have HEQ : Hid (x = y) := Lib.hid (HP.out.1 rfl)
          go_wp2_with fail
          clear z0 y0 z1 y1 z2 y2 z3 y3
          refine HC.out.mono ?_
          rintro e w1 ⟨rfl, hb⟩
          have HB1 := Lib.hid (HA2.out.trans (hb.mono HA2.out.size))
          clear hb
          go_wp2_with fail
          go_round
          case rel =>
            refine ⟨k + 1, by omega, by go_num, Lib.hid fun i hi => ?_, HB1.out⟩
            by_cases e : i = k
            · subst e
              rw [HX.out, HY.out, HEQ.out]
            · exact hall.out i (by omega)
          case measure => simp [intOf]; omega
      · obtain rfl : k = n := by omega
        obtain rfl : R = true := HYES.out (same_list (by rw [HL.out.1, HL'.out.1]) fun j hj => hall.out j (by rw [← HL.out.1]; exact hj))
        have HWW := Lib.hid hbw
        clear hbw
        go_wp2_with fail
        go_ret
        exact ⟨rfl, HWW.out⟩
  · have hne : ((n : Int) != (n' : Int)) = true := by simpa using fun e : (n : Int) = n' => hnn (by omega)
    obtain rfl : R = false := HNO.out fun e => hnn (by rw [← HL.out.1, ← HL'.out.1, e])
    clear hnn
    go_enter Try.func78, Try.ntmps78
    go_wp2_with fail
    go_ret
    exact ⟨rfl, Below.refl _ _⟩
set_option maxRecDepth 100000 in
set_option maxHeartbeats 6400000 in
theorem implSameSaved_d (w : World) (es : List Value) (x : dSaved) (h : shSaved.reads (Under w.heap.size) w es x) (hb : shSaved.bulk x ≤ 1048576) (es' : List Value) (y : dSaved) (h' : shSaved.reads (Under w.heap.size) w es' y) (hb' : shSaved.bulk y ≤ 1048576) (R : Bool) (hR : R = true ↔ x = y) :
    Calls Try.prog 81 #[.agg es.toArray, .agg es'.toArray] w fun e w' => e = .returned (.bool R) ∧ Below w.heap.size w w' := by
  obtain ⟨j0, nj0, cj0, rfl, ⟨pj0, rj0, l0⟩⟩ := shSaved_reads.1 h
  obtain ⟨b0, nb0, cb0, rfl, ⟨pb0, rb0, m0⟩⟩ := shSaved_reads.1 h'
  rw [shSaved_bulk, bulk_list shRow l0] at hb
  rw [shSaved_bulk, bulk_list shRow m0] at hb'
  have HNO := Lib.hid fun (hn : ¬ x = y) => no_of hR hn
  have HYES := Lib.hid hR.2
  obtain ⟨q0, hq0⟩ : ∃ q, x.1 = q := ⟨_, rfl⟩
  obtain ⟨r0, hr0⟩ : ∃ q, y.1 = q := ⟨_, rfl⟩
  obtain ⟨e1, he1⟩ := bool_of (x.2 = y.2)
  have C1 := Lib.hid fun (wx : World) (hx : Below w.heap.size w wx) => implSameRows_r wx j0 nj0 cj0 _ ((l0.below hx (Nat.le_refl _)).le hx.size) (by omega) (by omega) (by omega) b0 nb0 cb0 _ ((m0.below hx (Nat.le_refl _)).le hx.size) (by omega) pj0 rj0 pb0 rb0 e1 he1
  have N1 : Hid (e1 = false → ¬ x = y) := Lib.hid fun h1 h2 => by
    rw [← Bool.not_eq_true, he1] at h1
    exact h1 (by rw [h2])
  have Y1 : Hid (e1 = true → x.2 = y.2) := Lib.hid he1.1
  have Q0 : Hid (x.1 = q0) := Lib.hid hq0
  have S0 : Hid (y.1 = r0) := Lib.hid hr0
  rw [hq0, hr0]
  have hal := ((Below.refl w.heap.size w).alloc (Nat.le_refl _) (.cells #[.int .i64 q0, .slice j0 nj0 cj0] 122 (0, 0))).alloc (by simp) (.cells #[.int .i64 r0, .slice b0 nb0 cb0] 122 (0, 0))
  have hA : ((w.alloc (.cells #[.int .i64 q0, .slice j0 nj0 cj0] 122 (0, 0))).alloc (.cells #[.int .i64 r0, .slice b0 nb0 cb0] 122 (0, 0))).heap[w.heap.size]? = some (.cells #[.int .i64 q0, .slice j0 nj0 cj0] 122 (0, 0)) := by
    rw [Below.heap_alloc _ _ _ (by simp)]
    exact heap_alloc_new w _
  have hC : ((w.alloc (.cells #[.int .i64 q0, .slice j0 nj0 cj0] 122 (0, 0))).alloc (.cells #[.int .i64 r0, .slice b0 nb0 cb0] 122 (0, 0))).heap[w.heap.size + 1]? = some (.cells #[.int .i64 r0, .slice b0 nb0 cb0] 122 (0, 0)) := by
    have := heap_alloc_new (w.alloc (.cells #[.int .i64 q0, .slice j0 nj0 cj0] 122 (0, 0))) (.cells #[.int .i64 r0, .slice b0 nb0 cb0] 122 (0, 0))
    simpa using this
  have hS : w.heap.size + 1 < ((w.alloc (.cells #[.int .i64 q0, .slice j0 nj0 cj0] 122 (0, 0))).alloc (.cells #[.int .i64 r0, .slice b0 nb0 cb0] 122 (0, 0))).heap.size := by simp
  have HA := Lib.hid hal
  have XA := Lib.hid hA
  have XC := Lib.hid hC
  have HS := Lib.hid hS
  clear h h' hb hb' hR hal hA hC hS pj0 rj0 l0 pb0 rb0 m0 hq0 hr0 he1
  by_cases d0 : q0 = r0
  case neg =>
    have g0 : ((q0 : Int) == r0) = false := beq_eq_false_iff_ne.2 d0
    obtain rfl : R = false := HNO.out fun e => d0 (by rw [← Q0.out, ← S0.out, e])
    clear d0
    go_enter Try.func81, Try.ntmps81
    go_wp2_with fail
    go_ret
    exact ⟨rfl, HA.out⟩
  have g0 : ((q0 : Int) == r0) = true := beq_iff_eq.2 d0
  have D0 := Lib.hid d0
  clear d0
  cases e1
  · obtain rfl : R = false := HNO.out (N1.out (by first | rfl | trivial))
    go_enter Try.func81, Try.ntmps81
    go_wp2_with fail
    refine (C1.out _ HA.out).mono ?_
    rintro e w1 ⟨rfl, hb⟩
    have B0 := Lib.hid (HA.out.trans (hb.mono HA.out.size))
    clear hb
    go_wp2_with fail
    go_ret
    exact ⟨rfl, B0.out⟩
  obtain rfl : R = true := HYES.out (Prod.ext ((by rw [Q0.out, S0.out, D0.out])) (Y1.out (by first | rfl | trivial)))
  go_enter Try.func81, Try.ntmps81
  go_wp2_with fail
  refine (C1.out _ HA.out).mono ?_
  rintro e w1 ⟨rfl, hb⟩
  have B0 := Lib.hid (HA.out.trans (hb.mono HA.out.size))
  clear hb
  go_wp2_with fail
  go_ret
  exact ⟨rfl, B0.out⟩
theorem eg_sameSaved : ∀ args w, (callFunc 81 args).run Try.prog w = .ok (.enter 81 args) w := enters_of Try.func81 (by kernel_rfl) rfl
set_option maxRecDepth 100000 in
set_option maxHeartbeats 6400000 in
theorem equalFunc_Saved (w : World) (a : Option Addr) (n c : Nat) (xs : List dSaved) (h : ListAt shSaved (Under w.heap.size) w a n xs) (hn : n ≤ 1048576) (hb : Shape.sum shSaved.bulk xs ≤ 1048576) (a' : Option Addr) (n' c' : Nat) (ys : List dSaved) (h' : ListAt shSaved (Under w.heap.size) w a' n' ys) (hb' : Shape.sum shSaved.bulk ys ≤ 1048576) (R : Bool) (hR : R = true ↔ xs = ys) :
    Calls Try.prog 80 #[.slice a n c, .slice a' n' c', .func (.func 81) #[] #[]] w fun e w' => e = .returned (.bool R) ∧ Below w.heap.size w w' := by
  have HNO := Lib.hid fun (hn : ¬ xs = ys) => no_of hR hn
  have HYES := Lib.hid hR.2
  have HL := Lib.hid h
  have HL' := Lib.hid h'
  have HB := Lib.hid hb
  have HB' := Lib.hid hb'
  have eg := eg_sameSaved
  clear h h' hb hb' hR
  by_cases hnn : n = n'
  · subst hnn
    go_enter Try.func80, Try.ntmps80
    go_wp2_with fail
    go_loopw [17] (fun i wr => ∃ k : Nat, k ≤ n ∧ i = .int .i64 k ∧ Hid (∀ j : Nat, j < k → xs[j]? = ys[j]?) ∧ Below w.heap.size w wr) (fun i _ => n - (intOf i).toNat)
    case atStart => exact ⟨0, Nat.zero_le _, rfl, Lib.hid fun j hj => absurd hj (Nat.not_lt_zero _), Below.refl _ _⟩
    case round =>
      obtain ⟨k, hk, rfl, hall, hbw⟩ := hrel
      have hsz := hbw.size
      by_cases hlt : k < n
      · obtain ⟨x, hx⟩ : ∃ x, xs[k]? = some x := ⟨_, List.getElem?_eq_getElem (by rw [HL.out.1]; exact hlt)⟩
        obtain ⟨y, hy⟩ : ∃ y, ys[k]? = some y := ⟨_, List.getElem?_eq_getElem (by rw [HL'.out.1]; exact hlt)⟩
        obtain ⟨b, o, es, rfl, hbB, hr, hs⟩ := HL.out.2 k x hx
        obtain ⟨b', o', es', rfl, hbB', hr', hs'⟩ := HL'.out.2 k y hy
        have hrr := rangeAt_kept hr (show b < w.heap.size from hbB) (Kept.of_below (I := Under w.heap.size) hbw fun b hb => hb)
        have hsw := shSaved.below hs hbw (Nat.le_refl _)
        have hsw' := shSaved.below hs' hbw (Nat.le_refl _)
        have hbx : shSaved.bulk x ≤ 1048576 := Nat.le_trans (bulk_mem shSaved.bulk xs k x hx) HB.out
        have hby : shSaved.bulk y ≤ 1048576 := Nat.le_trans (bulk_mem shSaved.bulk ys k y hy) HB'.out
        obtain ⟨p, hp⟩ := bool_of (x = y)
        obtain ⟨j0, nj0, cj0, rfl, -⟩ := shSaved_reads.1 hsw
        obtain ⟨b0, nb0, cb0, rfl, -⟩ := shSaved_reads.1 hsw'
        obtain ⟨q0, hq0⟩ : ∃ q, x.1 = q := ⟨_, rfl⟩
        obtain ⟨r0, hr0⟩ : ∃ q, y.1 = q := ⟨_, rfl⟩
        rw [hq0] at hsw hrr
        rw [hr0] at hsw' hr'
        have hal := (Below.refl wr.heap.size wr).alloc (Nat.le_refl _) (.cells #[.int .i64 q0, .slice j0 nj0 cj0] 122 (0, 0))
        have hg1 : (wr.alloc (.cells #[.int .i64 q0, .slice j0 nj0 cj0] 122 (0, 0))).heap.size = wr.heap.size + 1 := by simp
        have hk1 := heap_alloc_new wr (.cells #[.int .i64 q0, .slice j0 nj0 cj0] 122 (0, 0))
        have hbw1 := hbw.trans (hal.mono hsz)
        have hrr' := rangeAt_kept hr' (show b' < w.heap.size from hbB') (Kept.of_below (I := Under w.heap.size) hbw1 fun b hb => hb)
        rw [shSaved_size] at hrr hrr'
        have c100 := hrr 0 _ rfl
        have c101 := hrr 1 _ rfl
        have c200 := hrr' 0 _ rfl
        have c201 := hrr' 1 _ rfl
        simp only [Nat.add_zero] at c100 c200
        have HX := Lib.hid hx
        have HY := Lib.hid hy
        have HP := Lib.hid hp
        have HSX := Lib.hid hsw
        have HSY := Lib.hid hsw'
        have HBX := Lib.hid hbx
        have HBY := Lib.hid hby
        have HK1 := Lib.hid hk1
        have HAL := Lib.hid hal
        have HBW := Lib.hid hbw
        clear hr hrr hs hsw hx hbx hr' hrr' hs' hsw' hy hby hbw1 hk1 hp hal hbw hbB hbB' hq0 hr0
        go_upto_region 6 with fail
        clear c100 c101
        generalize wr.alloc (.cells #[.int .i64 q0, .slice j0 nj0 cj0] 122 (0, 0)) = wb at HK1 HAL hg1 c200 c201 ⊢
        have hal2 := HAL.out.alloc HAL.out.size (.cells #[.int .i64 r0, .slice b0 nb0 cb0] 122 (0, 0))
        have hg2 : (wb.alloc (.cells #[.int .i64 r0, .slice b0 nb0 cb0] 122 (0, 0))).heap.size = wr.heap.size + 1 + 1 := by simp [hg1]
        have hk2 := heap_alloc_new wb (.cells #[.int .i64 r0, .slice b0 nb0 cb0] 122 (0, 0))
        have hk1 : (wb.alloc (.cells #[.int .i64 r0, .slice b0 nb0 cb0] 122 (0, 0))).heap[wr.heap.size]? = _ := (Below.heap_alloc _ _ _ (by omega)).trans HK1.out
        rw [hg1] at hk2
        have hc := implSameSaved_d (wb.alloc (.cells #[.int .i64 r0, .slice b0 nb0 cb0] 122 (0, 0))) _ x (shSaved.le (shSaved.below HSX.out (hal2.mono hsz) (Nat.le_refl _)) (by omega)) HBX.out _ y (shSaved.le (shSaved.below HSY.out (hal2.mono hsz) (Nat.le_refl _)) (by omega)) HBY.out p HP.out
        have HC := Lib.hid hc
        have HA2 := Lib.hid (HBW.out.trans (hal2.mono hsz))
        have HK2 := Lib.hid hk2
        have HK3 := Lib.hid hk1
        have HG1 := Lib.hid hg1
        clear hc hal2 hk1 hk2
        go_upto_region 7 with fail
        clear c200 c201
        try rw [HG1.out]
        clear hg1
        generalize wb.alloc (.cells #[.int .i64 r0, .slice b0 nb0 cb0] 122 (0, 0)) = wc at HC HA2 HK2 HK3 hg2 ⊢
        have z0 := boxs HK3.out 0 _ rfl
        have z1 := boxs HK3.out 1 _ rfl
        have y0 := boxs HK2.out 0 _ rfl
        have y1 := boxs HK2.out 1 _ rfl
        clear hg2
        cases p
        · obtain rfl : R = false := HNO.out fun e => by
            have h1 : xs[k]? = ys[k]? := by rw [e]
            rw [HX.out, HY.out] at h1
            have := HP.out.2 (Option.some.inj h1)
            cases this
          go_wp2_with fail
          clear z0 y0 z1 y1
          refine HC.out.mono ?_
          rintro e w1 ⟨rfl, hb⟩
          have HB1 := Lib.hid (HA2.out.trans (hb.mono HA2.out.size))
          clear hb
          go_wp2_with fail
          go_ret
          exact ⟨rfl, HB1.out⟩
        · have HEQ : Hid (x = y) := Lib.hid (HP.out.1 rfl)
          go_wp2_with fail
          clear z0 y0 z1 y1
          refine HC.out.mono ?_
          rintro e w1 ⟨rfl, hb⟩
          have HB1 := Lib.hid (HA2.out.trans (hb.mono HA2.out.size))
          clear hb
          go_wp2_with fail
          go_round
          case rel =>
            refine ⟨k + 1, by omega, by go_num, Lib.hid fun i hi => ?_, HB1.out⟩
            by_cases e : i = k
            · subst e
              rw [HX.out, HY.out, HEQ.out]
            · exact hall.out i (by omega)
          case measure => simp [intOf]; omega
      · obtain rfl : k = n := by omega
        obtain rfl : R = true := HYES.out (same_list (by rw [HL.out.1, HL'.out.1]) fun j hj => hall.out j (by rw [← HL.out.1]; exact hj))
        have HWW := Lib.hid hbw
        clear hbw
        go_wp2_with fail
        go_ret
        exact ⟨rfl, HWW.out⟩
  · have hne : ((n : Int) != (n' : Int)) = true := by simpa using fun e : (n : Int) = n' => hnn (by omega)
    obtain rfl : R = false := HNO.out fun e => hnn (by rw [← HL.out.1, ← HL'.out.1, e])
    clear hnn
    go_enter Try.func80, Try.ntmps80
    go_wp2_with fail
    go_ret
    exact ⟨rfl, Below.refl _ _⟩
end Go.Proofs.Ytcooobnaocbdjaa
