/-
  Pipes: the model's SamePipe: pipes (mksams.py).
-/
import Derived.Test.YtcooobnaocbdjaaJoin33
namespace Go.Proofs.Ytcooobnaocbdjaa
open Go.RowKit Go.Sort
set_option linter.unusedVariables false
set_option linter.unusedSimpArgs false

set_option maxRecDepth 100000 in
set_option maxHeartbeats 6400000 in
theorem specSamePipe_d0 (w : World) (es : List Value) (x : dPipe) (h : shPipe.reads (Under w.heap.size) w es x) (hb : shPipe.bulk x ≤ 1048576) (es' : List Value) (y : dPipe) (h' : shPipe.reads (Under w.heap.size) w es' y) (hb' : shPipe.bulk y ≤ 1048576) (R : Bool) (hR : R = true ↔ x = y) :
    Calls Try.prog 24 #[.agg es.toArray, .agg es'.toArray] w fun e w' => e = .returned (.bool R) ∧ Below w.heap.size w w' := by
  obtain ⟨j0, nj0, cj0, j1, nj1, cj1, j2, nj2, cj2, j3, nj3, cj3, rfl, ⟨pj0, rj0, l0⟩, ⟨pj1, rj1, l1⟩, ⟨pj2, rj2, l2⟩, ⟨pj3, rj3, l3⟩⟩ := shPipe_reads.1 h
  obtain ⟨b0, nb0, cb0, b1, nb1, cb1, b2, nb2, cb2, b3, nb3, cb3, rfl, ⟨pb0, rb0, m0⟩, ⟨pb1, rb1, m1⟩, ⟨pb2, rb2, m2⟩, ⟨pb3, rb3, m3⟩⟩ := shPipe_reads.1 h'
  rw [shPipe_bulk, bulk_list shPair l0, bulk_list shStage l1, bulk_list shQueue l2, bulk_list shQueue l3] at hb
  rw [shPipe_bulk, bulk_list shPair m0, bulk_list shStage m1, bulk_list shQueue m2, bulk_list shQueue m3] at hb'
  have HNO := Lib.hid fun (hn : ¬ x = y) => no_of hR hn
  have HYES := Lib.hid hR.2
  have L0 := Lib.hid l0
  have M0 := Lib.hid m0
  have bd0 : nj0 ≤ 1048576 := by omega
  have SX0 : Hid (nj0 + Shape.sum shPair.bulk x.1 ≤ 1048576) := Lib.hid (by omega)
  have SY0 : Hid (nb0 + Shape.sum shPair.bulk y.1 ≤ 1048576) := Lib.hid (by omega)
  have L1 := Lib.hid l1
  have M1 := Lib.hid m1
  have bd1 : nj1 ≤ 1048576 := by omega
  have SX1 : Hid (nj1 + Shape.sum shStage.bulk x.2.1 ≤ 1048576) := Lib.hid (by omega)
  have SY1 : Hid (nb1 + Shape.sum shStage.bulk y.2.1 ≤ 1048576) := Lib.hid (by omega)
  have L2 := Lib.hid l2
  have M2 := Lib.hid m2
  have bd2 : nj2 ≤ 1048576 := by omega
  have SX2 : Hid (nj2 + Shape.sum shQueue.bulk x.2.2.1 ≤ 1048576) := Lib.hid (by omega)
  have SY2 : Hid (nb2 + Shape.sum shQueue.bulk y.2.2.1 ≤ 1048576) := Lib.hid (by omega)
  have L3 := Lib.hid l3
  have M3 := Lib.hid m3
  have bd3 : nj3 ≤ 1048576 := by omega
  have SX3 : Hid (nj3 + Shape.sum shQueue.bulk x.2.2.2 ≤ 1048576) := Lib.hid (by omega)
  have SY3 : Hid (nb3 + Shape.sum shQueue.bulk y.2.2.2 ≤ 1048576) := Lib.hid (by omega)
  obtain ⟨eA, heA⟩ := bool_of (x.2.2.1 = y.2.2.1)
  have CA := Lib.hid fun (wx : World) (hx : Below w.heap.size w wx) => specSameQueues_c wx j2 nj2 cj2 _ ((l2.below hx (Nat.le_refl _)).le hx.size) (by omega) (by omega) b2 nb2 cb2 _ ((m2.below hx (Nat.le_refl _)).le hx.size) (by omega) eA heA
  have NA : Hid (eA = false → ¬ x = y) := Lib.hid fun h1 h2 => by
    rw [← Bool.not_eq_true, heA] at h1
    exact h1 (by rw [h2])
  have YA : Hid (eA = true → x.2.2.1 = y.2.2.1) := Lib.hid heA.1
  obtain ⟨eB, heB⟩ := bool_of (x.2.2.2 = y.2.2.2)
  have CB := Lib.hid fun (wx : World) (hx : Below w.heap.size w wx) => specSameQueues_c wx j3 nj3 cj3 _ ((l3.below hx (Nat.le_refl _)).le hx.size) (by omega) (by omega) b3 nb3 cb3 _ ((m3.below hx (Nat.le_refl _)).le hx.size) (by omega) eB heB
  have NB : Hid (eB = false → ¬ x = y) := Lib.hid fun h1 h2 => by
    rw [← Bool.not_eq_true, heB] at h1
    exact h1 (by rw [h2])
  have YB : Hid (eB = true → x.2.2.2 = y.2.2.2) := Lib.hid heB.1
  have hal := ((Below.refl w.heap.size w).alloc (Nat.le_refl _) (.cells #[.slice j0 nj0 cj0, .slice j1 nj1 cj1, .slice j2 nj2 cj2, .slice j3 nj3 cj3] 35 (0, 0))).alloc (by simp) (.cells #[.slice b0 nb0 cb0, .slice b1 nb1 cb1, .slice b2 nb2 cb2, .slice b3 nb3 cb3] 35 (0, 0))
  have hA : ((w.alloc (.cells #[.slice j0 nj0 cj0, .slice j1 nj1 cj1, .slice j2 nj2 cj2, .slice j3 nj3 cj3] 35 (0, 0))).alloc (.cells #[.slice b0 nb0 cb0, .slice b1 nb1 cb1, .slice b2 nb2 cb2, .slice b3 nb3 cb3] 35 (0, 0))).heap[w.heap.size]? = some (.cells #[.slice j0 nj0 cj0, .slice j1 nj1 cj1, .slice j2 nj2 cj2, .slice j3 nj3 cj3] 35 (0, 0)) := by
    rw [Below.heap_alloc _ _ _ (by simp)]
    exact heap_alloc_new w _
  have hC : ((w.alloc (.cells #[.slice j0 nj0 cj0, .slice j1 nj1 cj1, .slice j2 nj2 cj2, .slice j3 nj3 cj3] 35 (0, 0))).alloc (.cells #[.slice b0 nb0 cb0, .slice b1 nb1 cb1, .slice b2 nb2 cb2, .slice b3 nb3 cb3] 35 (0, 0))).heap[w.heap.size + 1]? = some (.cells #[.slice b0 nb0 cb0, .slice b1 nb1 cb1, .slice b2 nb2 cb2, .slice b3 nb3 cb3] 35 (0, 0)) := by
    have := heap_alloc_new (w.alloc (.cells #[.slice j0 nj0 cj0, .slice j1 nj1 cj1, .slice j2 nj2 cj2, .slice j3 nj3 cj3] 35 (0, 0))) (.cells #[.slice b0 nb0 cb0, .slice b1 nb1 cb1, .slice b2 nb2 cb2, .slice b3 nb3 cb3] 35 (0, 0))
    simpa using this
  have hS : w.heap.size + 1 < ((w.alloc (.cells #[.slice j0 nj0 cj0, .slice j1 nj1 cj1, .slice j2 nj2 cj2, .slice j3 nj3 cj3] 35 (0, 0))).alloc (.cells #[.slice b0 nb0 cb0, .slice b1 nb1 cb1, .slice b2 nb2 cb2, .slice b3 nb3 cb3] 35 (0, 0))).heap.size := by simp
  have HA := Lib.hid hal
  have XA := Lib.hid hA
  have XC := Lib.hid hC
  have HS := Lib.hid hS
  clear h h' hb hb' hR hal hA hC hS heA heB pj0 rj0 l0 pb0 rb0 m0 pj1 rj1 l1 pb1 rb1 m1 pj2 rj2 l2 pb2 rb2 m2 pj3 rj3 l3 pb3 rb3 m3
  go_enter Try.func24, Try.ntmps24
  go_upto_region 1 with fail
  generalize ((w.alloc (.cells #[.slice j0 nj0 cj0, .slice j1 nj1 cj1, .slice j2 nj2 cj2, .slice j3 nj3 cj3] 35 (0, 0))).alloc (.cells #[.slice b0 nb0 cb0, .slice b1 nb1 cb1, .slice b2 nb2 cb2, .slice b3 nb3 cb3] 35 (0, 0))) = wa at HA XA XC HS ⊢
  have CELX := Lib.hid fun (wx : World) (hx : Below wa.heap.size wa wx) => boxp ((hx.block w.heap.size (by have := HS.out; omega)).trans XA.out)
  have CELY := Lib.hid fun (wx : World) (hx : Below wa.heap.size wa wx) => boxp ((hx.block (w.heap.size + 1) HS.out).trans XC.out)
  obtain ⟨z0, z1, z2, z3⟩ := CELX.out wa (Below.refl _ _)
  obtain ⟨y0, y1, y2, y3⟩ := CELY.out wa (Below.refl _ _)
  by_cases d1 : nj1 = nb1
  case neg =>
    have g : ((nj1 : Int) != (nb1 : Int)) = true := by simpa using fun e : (nj1 : Int) = nb1 => d1 (by omega)
    obtain rfl : R = false := HNO.out fun e => d1 (by rw [← L1.out.1, ← M1.out.1, e])
    clear d1
    go_wp2_with fail
    go_ret
    exact ⟨rfl, HA.out⟩
  subst d1
  by_cases d0 : nj0 = nb0
  case neg =>
    have g : ((nj0 : Int) != (nb0 : Int)) = true := by simpa using fun e : (nj0 : Int) = nb0 => d0 (by omega)
    obtain rfl : R = false := HNO.out fun e => d0 (by rw [← L0.out.1, ← M0.out.1, e])
    clear d0
    go_wp2_with fail
    go_ret
    exact ⟨rfl, HA.out⟩
  subst d0
  go_wp2_with fail
  clear z0 z1 z2 z3 y0 y1 y2 y3
  refine (CA.out _ HA.out).mono ?_
  rintro e w1 ⟨rfl, hb⟩
  have B0 := Lib.hid (HA.out.trans (hb.mono HA.out.size))
  have W0 := Lib.hid (hb)
  clear hb
  obtain ⟨z0, z1, z2, z3⟩ := CELX.out _ W0.out
  obtain ⟨y0, y1, y2, y3⟩ := CELY.out _ W0.out
  cases eA
  · obtain rfl : R = false := HNO.out (NA.out (by first | rfl | trivial))
    go_wp2_with fail
    go_ret
    exact ⟨rfl, B0.out⟩
  go_wp2_with fail
  clear z0 z1 z2 z3 y0 y1 y2 y3
  refine (CB.out _ B0.out).mono ?_
  rintro e w2 ⟨rfl, hb⟩
  have B1 := Lib.hid (B0.out.trans (hb.mono B0.out.size))
  have W1 := Lib.hid (W0.out.trans (hb.mono W0.out.size))
  clear hb
  obtain ⟨z0, z1, z2, z3⟩ := CELX.out _ W1.out
  obtain ⟨y0, y1, y2, y3⟩ := CELY.out _ W1.out
  cases eB
  · obtain rfl : R = false := HNO.out (NB.out (by first | rfl | trivial))
    go_wp2_with fail
    go_ret
    exact ⟨rfl, B1.out⟩
  go_wp2_with fail
  clear z0 z1 z2 z3 y0 y1 y2 y3
  go_loopw [5] (fun i wx => ∃ k : Nat, k ≤ nj1 ∧ i = .int .i64 k ∧ Hid (∀ t : Nat, t < k → (x.2.1)[t]? = (y.2.1)[t]?) ∧ Below wa.heap.size wa wx) (fun i _ => nj1 - (intOf i).toNat)
  case atStart => exact ⟨0, Nat.zero_le _, rfl, Lib.hid fun t ht => absurd ht (Nat.not_lt_zero _), W1.out⟩
  case round =>
    obtain ⟨k, hk, rfl, hin, hbx⟩ := hrel
    have hww : Below w.heap.size w wr := HA.out.trans (hbx.mono HA.out.size)
    have hsw := hww.size
    have hsx := hbx.size
    obtain ⟨z0, z1, z2, z3⟩ := CELX.out wr hbx
    obtain ⟨y0, y1, y2, y3⟩ := CELY.out wr hbx
    by_cases hlt : k < nj1
    · obtain ⟨b5, o5, u, eu, hu, e5, hbB5, hr, hs⟩ := stage_whole L1.out k hlt
      obtain ⟨b6, o6, v, ev, hv, e6, hbB6, hr', hs'⟩ := stage_whole M1.out k hlt
      subst e5
      subst e6
      have hru := rangeAt_kept hr hbB5 (Kept.of_below (I := Under w.heap.size) hww fun b hb => hb)
      have hrv := rangeAt_kept hr' hbB6 (Kept.of_below (I := Under w.heap.size) hww fun b hb => hb)
      have hbu : shStage.bulk u ≤ 1048576 := Nat.le_trans (bulk_mem shStage.bulk _ k u hu) (by have := SX1.out; omega)
      have hbv : shStage.bulk v ≤ 1048576 := Nat.le_trans (bulk_mem shStage.bulk _ k v hv) (by have := SY1.out; omega)
      obtain ⟨p, hp⟩ := bool_of (u = v)
      have hc := fun (w2 : World) (hx : Below w.heap.size wr w2) => specSameStage_d w2 eu u (shStage.le (shStage.below hs (hww.trans hx) (Nat.le_refl _)) (hww.trans hx).size) hbu ev v (shStage.le (shStage.below hs' (hww.trans hx) (Nat.le_refl _)) (hww.trans hx).size) hbv p hp
      obtain ⟨s0, ns0, cs0, s1, ns1, cs1, s2, ns2, cs2, s3, ns3, cs3, s4, ns4, cs4, s5, ns5, cs5, s6, ns6, cs6, s7, ns7, cs7, s8, ns8, cs8, rfl, -⟩ := shStage_reads.1 hs
      obtain ⟨t0, nt0, ct0, t1, nt1, ct1, t2, nt2, ct2, t3, nt3, ct3, t4, nt4, ct4, t5, nt5, ct5, t6, nt6, ct6, t7, nt7, ct7, t8, nt8, ct8, rfl, -⟩ := shStage_reads.1 hs'
      have c100 := hru 0 _ rfl
      have c101 := hru 1 _ rfl
      have c102 := hru 2 _ rfl
      have c103 := hru 3 _ rfl
      have c104 := hru 4 _ rfl
      have c105 := hru 5 _ rfl
      have c106 := hru 6 _ rfl
      have c107 := hru 7 _ rfl
      have c108 := hru 8 _ rfl
      have c109 := hru 9 _ rfl
      have c110 := hru 10 _ rfl
      have c111 := hru 11 _ rfl
      have c112 := hru 12 _ rfl
      have c113 := hru 13 _ rfl
      have c200 := hrv 0 _ rfl
      have c201 := hrv 1 _ rfl
      have c202 := hrv 2 _ rfl
      have c203 := hrv 3 _ rfl
      have c204 := hrv 4 _ rfl
      have c205 := hrv 5 _ rfl
      have c206 := hrv 6 _ rfl
      have c207 := hrv 7 _ rfl
      have c208 := hrv 8 _ rfl
      have c209 := hrv 9 _ rfl
      have c210 := hrv 10 _ rfl
      have c211 := hrv 11 _ rfl
      have c212 := hrv 12 _ rfl
      have c213 := hrv 13 _ rfl
      simp only [Nat.add_zero] at c100 c200
      have HC := Lib.hid hc
      have HNE := Lib.hid fun (hne : u ≠ v) => HNO.out fun e => by
        have h1 : (x.2.1)[k]? = (y.2.1)[k]? := by rw [e]
        rw [hu, hv] at h1
        exact hne (Option.some.inj h1)
      have HX := Lib.hid hu
      have HY := Lib.hid hv
      have HBX := Lib.hid hbx
      have HP := Lib.hid hp
      clear hr hr' hru hrv hs hs' hu hv hbu hbv hbx hp hc hww
      cases p
      · obtain rfl : R = false := HNE.out fun e => by
          have := HP.out.2 e
          cases this
        go_upto_region 6 with fail
        have kk0 := cell_regrown z1
        have kk1 := cell_regrown y1
        have kk2 := cell_regrown c100
        have kk3 := cell_regrown c101
        have kk4 := cell_regrown c102
        have kk5 := cell_regrown c103
        have kk6 := cell_regrown c104
        have kk7 := cell_regrown c105
        have kk8 := cell_regrown c106
        have kk9 := cell_regrown c107
        have kk10 := cell_regrown c108
        have kk11 := cell_regrown c109
        have kk12 := cell_regrown c110
        have kk13 := cell_regrown c111
        have kk14 := cell_regrown c112
        have kk15 := cell_regrown c113
        have kk16 := cell_regrown c200
        have kk17 := cell_regrown c201
        have kk18 := cell_regrown c202
        have kk19 := cell_regrown c203
        have kk20 := cell_regrown c204
        have kk21 := cell_regrown c205
        have kk22 := cell_regrown c206
        have kk23 := cell_regrown c207
        have kk24 := cell_regrown c208
        have kk25 := cell_regrown c209
        have kk26 := cell_regrown c210
        have kk27 := cell_regrown c211
        have kk28 := cell_regrown c212
        have kk29 := cell_regrown c213
        have cC0 := fun d os => Calls.regrown_of (w := wr) (d := d) (os := os) (HC.out _ ((below_regrown wr d os).mono hsw))
        have CC0 := Lib.hid cC0
        clear z1 y1 c100 c101 c102 c103 c104 c105 c106 c107 c108 c109 c110 c111 c112 c113 c200 c201 c202 c203 c204 c205 c206 c207 c208 c209 c210 c211 c212 c213 cC0
        refine wp_region_quiet_below (by kernel_rfl) (by kernel_rfl) ?_
        repeat (go_big_quiet_step (with_reducible first | exact CC0.out _ _))
        refine wpQuiet_nil ?_
        intro _ hw'
        obtain ⟨⟨dq, osq⟩, hw''⟩ := hw'
        subst hw''
        have hwq := below_regrown wr dq osq
        generalize grow (redrawn wr dq) osq = wq at hwq ⊢
        have HW := Lib.hid hwq
        clear hwq kk0 kk1 kk2 kk3 kk4 kk5 kk6 kk7 kk8 kk9 kk10 kk11 kk12 kk13 kk14 kk15 kk16 kk17 kk18 kk19 kk20 kk21 kk22 kk23 kk24 kk25 kk26 kk27 kk28 kk29
        go_wp2_with fail
        go_ret
        exact ⟨rfl, HA.out.trans ((HBX.out.trans (HW.out.mono hsx)).mono HA.out.size)⟩
      · have HEQ : Hid (u = v) := Lib.hid (HP.out.1 rfl)
        go_upto_region 6 with fail
        have kk0 := cell_regrown z1
        have kk1 := cell_regrown y1
        have kk2 := cell_regrown c100
        have kk3 := cell_regrown c101
        have kk4 := cell_regrown c102
        have kk5 := cell_regrown c103
        have kk6 := cell_regrown c104
        have kk7 := cell_regrown c105
        have kk8 := cell_regrown c106
        have kk9 := cell_regrown c107
        have kk10 := cell_regrown c108
        have kk11 := cell_regrown c109
        have kk12 := cell_regrown c110
        have kk13 := cell_regrown c111
        have kk14 := cell_regrown c112
        have kk15 := cell_regrown c113
        have kk16 := cell_regrown c200
        have kk17 := cell_regrown c201
        have kk18 := cell_regrown c202
        have kk19 := cell_regrown c203
        have kk20 := cell_regrown c204
        have kk21 := cell_regrown c205
        have kk22 := cell_regrown c206
        have kk23 := cell_regrown c207
        have kk24 := cell_regrown c208
        have kk25 := cell_regrown c209
        have kk26 := cell_regrown c210
        have kk27 := cell_regrown c211
        have kk28 := cell_regrown c212
        have kk29 := cell_regrown c213
        have cC0 := fun d os => Calls.regrown_of (w := wr) (d := d) (os := os) (HC.out _ ((below_regrown wr d os).mono hsw))
        have CC0 := Lib.hid cC0
        clear z1 y1 c100 c101 c102 c103 c104 c105 c106 c107 c108 c109 c110 c111 c112 c113 c200 c201 c202 c203 c204 c205 c206 c207 c208 c209 c210 c211 c212 c213 cC0
        refine wp_region_quiet_below (by kernel_rfl) (by kernel_rfl) ?_
        repeat (go_big_quiet_step (with_reducible first | exact CC0.out _ _))
        refine wpQuiet_nil ?_
        intro _ hw'
        obtain ⟨⟨dq, osq⟩, hw''⟩ := hw'
        subst hw''
        have hwq := below_regrown wr dq osq
        generalize grow (redrawn wr dq) osq = wq at hwq ⊢
        have HW := Lib.hid hwq
        clear hwq kk0 kk1 kk2 kk3 kk4 kk5 kk6 kk7 kk8 kk9 kk10 kk11 kk12 kk13 kk14 kk15 kk16 kk17 kk18 kk19 kk20 kk21 kk22 kk23 kk24 kk25 kk26 kk27 kk28 kk29
        go_wp2_with fail
        go_roundw
        case rel =>
          refine ⟨k + 1, by omega, by go_num, Lib.hid fun t ht => ?_, HBX.out.trans (HW.out.mono hsx)⟩
          by_cases e : t = k
          · subst e
            rw [HX.out, HY.out, HEQ.out]
          · exact hin.out t (by omega)
        case measure => simp [intOf]; omega
    · obtain rfl : k = nj1 := by omega
      have E1 : Hid (x.2.1 = y.2.1) := Lib.hid (same_list (by rw [show (x.2.1).length = k from L1.out.1, show (y.2.1).length = k from M1.out.1]) fun t ht => hin.out t (by rw [← show (x.2.1).length = k from L1.out.1]; exact ht))
      have HB1 := Lib.hid hbx
      clear hin hbx hww hsw hsx
      go_wp2_with fail
      clear z0 z1 z2 z3 y0 y1 y2 y3
      go_loopw [6] (fun i wx => ∃ k : Nat, k ≤ nj0 ∧ i = .int .i64 k ∧ Hid (∀ t : Nat, t < k → (x.1)[t]? = (y.1)[t]?) ∧ Below wa.heap.size wa wx) (fun i _ => nj0 - (intOf i).toNat)
      case atStart => exact ⟨0, Nat.zero_le _, rfl, Lib.hid fun t ht => absurd ht (Nat.not_lt_zero _), HB1.out⟩
      case round =>
        obtain ⟨k, hk, rfl, hin, hbx⟩ := hrel
        have hww : Below w.heap.size w wr := HA.out.trans (hbx.mono HA.out.size)
        have hsw := hww.size
        have hsx := hbx.size
        obtain ⟨z0, z1, z2, z3⟩ := CELX.out wr hbx
        obtain ⟨y0, y1, y2, y3⟩ := CELY.out wr hbx
        by_cases hlt : k < nj0
        · obtain ⟨b5, o5, u, au, nu, cu, au', nu', cu', hu, e5, hbB5, f0, f1, lu, lu'⟩ := pair_at L0.out k hlt
          obtain ⟨b6, o6, v, av, nv, cv, av', nv', cv', hv, e6, hbB6, f2, f3, lv, lv'⟩ := pair_at M0.out k hlt
          subst e5
          subst e6
          have hbu := bulk_mem shPair.bulk _ k u hu
          have hbv := bulk_mem shPair.bulk _ k v hv
          rw [shPair_bulk, bulk_ints, bulk_ints, lu.1, lu'.1] at hbu
          rw [shPair_bulk, bulk_ints, bulk_ints, lv.1, lv'.1] at hbv
          have m1 : nu ≤ 1048576 := by have := SX0.out; omega
          have m2 : nu' ≤ 1048576 := by have := SX0.out; omega
          have m3 : nv ≤ 1048576 := by have := SY0.out; omega
          have m4 : nv' ≤ 1048576 := by have := SY0.out; omega
          have c0 := (hww.cell (p := ⟨b5, o5 + k * 2, none⟩) hbB5).trans f0
          have c1 := (hww.cell (p := ⟨b5, o5 + k * 2 + 1, none⟩) hbB5).trans f1
          have c2 := (hww.cell (p := ⟨b6, o6 + k * 2, none⟩) hbB6).trans f2
          have c3 := (hww.cell (p := ⟨b6, o6 + k * 2 + 1, none⟩) hbB6).trans f3
          obtain ⟨p, hp⟩ := bool_of (u.1 = v.1)
          obtain ⟨q, hq⟩ := bool_of (u.2 = v.2)
          have HC := Lib.hid fun (w2 : World) (hx : Below w.heap.size wr w2) => specSameVec_r w2 au nu cu u.1 av nv cv v.1 (((lu.ints m1).below (hww.trans hx) (Nat.le_refl _)).le (hww.trans hx).size) (((lv.ints m3).below (hww.trans hx) (Nat.le_refl _)).le (hww.trans hx).size) p hp
          have HD := Lib.hid fun (w2 : World) (hx : Below w.heap.size wr w2) => specSameVec_r w2 au' nu' cu' u.2 av' nv' cv' v.2 (((lu'.ints m2).below (hww.trans hx) (Nat.le_refl _)).le (hww.trans hx).size) (((lv'.ints m4).below (hww.trans hx) (Nat.le_refl _)).le (hww.trans hx).size) q hq
          have HNE := Lib.hid fun (hne : u ≠ v) => HNO.out fun e => by
            have h1 : (x.1)[k]? = (y.1)[k]? := by rw [e]
            rw [hu, hv] at h1
            exact hne (Option.some.inj h1)
          have HX := Lib.hid hu
          have HY := Lib.hid hv
          have HBX := Lib.hid hbx
          have HP := Lib.hid hp
          have HQ := Lib.hid hq
          clear f0 f1 f2 f3 hu hv lu lu' lv lv' hbu hbv hbx hp hq hww
          cases p
          · obtain rfl : R = false := HNE.out fun e => by
              have := HP.out.2 (by rw [e])
              cases this
            go_upto_region 11 with fail
            have kk0 := cell_regrown z0
            have kk1 := cell_regrown y0
            have kk2 := cell_regrown c0
            have kk3 := cell_regrown c1
            have kk4 := cell_regrown c2
            have kk5 := cell_regrown c3
            have cC0 := fun d os => Calls.regrown_of (w := wr) (d := d) (os := os) (HC.out _ ((below_regrown wr d os).mono hsw))
            have CC0 := Lib.hid cC0
            have cC1 := fun d os => Calls.regrown_of (w := wr) (d := d) (os := os) (HD.out _ ((below_regrown wr d os).mono hsw))
            have CC1 := Lib.hid cC1
            clear z0 y0 c0 c1 c2 c3 cC0 cC1
            refine wp_region_quiet_below (by kernel_rfl) (by kernel_rfl) ?_
            repeat (go_big_quiet_step (with_reducible first | exact CC0.out _ _ | exact CC1.out _ _))
            refine wpQuiet_nil ?_
            intro _ hw'
            obtain ⟨⟨dq, osq⟩, hw''⟩ := hw'
            subst hw''
            have hwq := below_regrown wr dq osq
            generalize grow (redrawn wr dq) osq = wq at hwq ⊢
            have HW := Lib.hid hwq
            clear hwq kk0 kk1 kk2 kk3 kk4 kk5
            go_wp2_with fail
            go_ret
            exact ⟨rfl, HA.out.trans ((HBX.out.trans (HW.out.mono hsx)).mono HA.out.size)⟩
          cases q
          · obtain rfl : R = false := HNE.out fun e => by
              have := HQ.out.2 (by rw [e])
              cases this
            go_upto_region 11 with fail
            have kk0 := cell_regrown z0
            have kk1 := cell_regrown y0
            have kk2 := cell_regrown c0
            have kk3 := cell_regrown c1
            have kk4 := cell_regrown c2
            have kk5 := cell_regrown c3
            have cC0 := fun d os => Calls.regrown_of (w := wr) (d := d) (os := os) (HC.out _ ((below_regrown wr d os).mono hsw))
            have CC0 := Lib.hid cC0
            have cC1 := fun d os => Calls.regrown_of (w := wr) (d := d) (os := os) (HD.out _ ((below_regrown wr d os).mono hsw))
            have CC1 := Lib.hid cC1
            clear z0 y0 c0 c1 c2 c3 cC0 cC1
            refine wp_region_quiet_below (by kernel_rfl) (by kernel_rfl) ?_
            repeat (go_big_quiet_step (with_reducible first | exact CC0.out _ _ | exact CC1.out _ _))
            refine wpQuiet_nil ?_
            intro _ hw'
            obtain ⟨⟨dq, osq⟩, hw''⟩ := hw'
            subst hw''
            have hwq := below_regrown wr dq osq
            generalize grow (redrawn wr dq) osq = wq at hwq ⊢
            have HW := Lib.hid hwq
            clear hwq kk0 kk1 kk2 kk3 kk4 kk5
            go_wp2_with fail
            go_ret
            exact ⟨rfl, HA.out.trans ((HBX.out.trans (HW.out.mono hsx)).mono HA.out.size)⟩
          · have HEQ : Hid (u = v) := Lib.hid (Prod.ext (HP.out.1 rfl) (HQ.out.1 rfl))
            go_upto_region 11 with fail
            have kk0 := cell_regrown z0
            have kk1 := cell_regrown y0
            have kk2 := cell_regrown c0
            have kk3 := cell_regrown c1
            have kk4 := cell_regrown c2
            have kk5 := cell_regrown c3
            have cC0 := fun d os => Calls.regrown_of (w := wr) (d := d) (os := os) (HC.out _ ((below_regrown wr d os).mono hsw))
            have CC0 := Lib.hid cC0
            have cC1 := fun d os => Calls.regrown_of (w := wr) (d := d) (os := os) (HD.out _ ((below_regrown wr d os).mono hsw))
            have CC1 := Lib.hid cC1
            clear z0 y0 c0 c1 c2 c3 cC0 cC1
            refine wp_region_quiet_below (by kernel_rfl) (by kernel_rfl) ?_
            repeat (go_big_quiet_step (with_reducible first | exact CC0.out _ _ | exact CC1.out _ _))
            refine wpQuiet_nil ?_
            intro _ hw'
            obtain ⟨⟨dq, osq⟩, hw''⟩ := hw'
            subst hw''
            have hwq := below_regrown wr dq osq
            generalize grow (redrawn wr dq) osq = wq at hwq ⊢
            have HW := Lib.hid hwq
            clear hwq kk0 kk1 kk2 kk3 kk4 kk5
            go_wp2_with fail
            go_roundw
            case rel =>
              refine ⟨k + 1, by omega, by go_num, Lib.hid fun t ht => ?_, HBX.out.trans (HW.out.mono hsx)⟩
              by_cases e : t = k
              · subst e
                rw [HX.out, HY.out, HEQ.out]
              · exact hin.out t (by omega)
            case measure => simp [intOf]; omega
        · obtain rfl : k = nj0 := by omega
          have E0 : Hid (x.1 = y.1) := Lib.hid (same_list (by rw [show (x.1).length = k from L0.out.1, show (y.1).length = k from M0.out.1]) fun t ht => hin.out t (by rw [← show (x.1).length = k from L0.out.1]; exact ht))
          have HB0 := Lib.hid hbx
          clear hin hbx hww hsw hsx
          obtain rfl : R = true := HYES.out (Prod.ext E0.out (Prod.ext E1.out (Prod.ext (YA.out (by first | rfl | trivial)) (YB.out (by first | rfl | trivial)))))
          go_wp2_with fail
          go_ret
          exact ⟨rfl, HA.out.trans (HB0.out.mono HA.out.size)⟩
theorem specSamePipe_d (w : World) (es : List Value) (x : dPipe) (h : shPipe.reads (Under w.heap.size) w es x) (hb : shPipe.bulk x ≤ 1048576) (es' : List Value) (y : dPipe) (h' : shPipe.reads (Under w.heap.size) w es' y) (hb' : shPipe.bulk y ≤ 1048576) :
    Calls Try.prog 24 #[.agg es.toArray, .agg es'.toArray] w fun e w' => e = .returned (.bool (samePipeB x y)) ∧ Below w.heap.size w w' :=
  specSamePipe_d0 w es x h hb es' y h' hb' (samePipeB x y) (by unfold samePipeB; exact decide_eq_true_iff)
end Go.Proofs.Ytcooobnaocbdjaa
