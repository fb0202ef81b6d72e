/-
  Pipes: the model's PipeOk (mkpipk.py).
-/
import Derived.Test.YtcooobnaocbdjaaGreatJoin24
import Derived.Test.YtcooobnaocbdjaaGreatJoin26
import Derived.Test.YtcooobnaocbdjaaGreatJoin27
import Derived.Test.YtcooobnaocbdjaaGreatJoin28
namespace Go.Proofs.YtcooobnaocbdjaaGreat
open Go.RowKit Go.Sort
set_option linter.unusedVariables false
set_option linter.unusedSimpArgs false

theorem l1In_set (x lo hi : Int) {q : Bool} (hq : inB lo hi x = q) : ∀ wx : World, Calls Tryz.prog 58 #[.int .i64 x, .int .i64 lo, .int .i64 hi] wx fun e w' => e = .returned (.bool q) ∧ wx = w' := fun wx => by
  rw [← hq]
  exact l1In_any x lo hi wx
/-- The queues ahead of stage k are right. -/
def QueAt (p : dPipe) (k : Nat) : Prop := 0 < k → (∀ q, (actsP p)[k - 1]? = some q → queueOkB q = true) ∧ (∀ q, (backsP p)[k - 1]? = some q → queueOkB q = true)

set_option maxRecDepth 100000 in
set_option maxHeartbeats 6400000 in
theorem specPipeOk_d (w : World) (es : List Value) (p : dPipe) (h : shPipe.reads (Under w.heap.size) w es p) (hb : shPipe.bulk p ≤ 1048576) :
    Calls Tryz.prog 19 #[.agg es.toArray] w fun e w' => e = .returned (.bool (pipeOkB p)) ∧ Below w.heap.size w w' := by
  obtain ⟨a0, n0, c0, a1, n1, c1, a2, n2, c2, a3, n3, c3, rfl, ⟨m0, l0, s0⟩, ⟨m1, l1, s1⟩, ⟨m2, l2, s2⟩, ⟨m3, l3, s3⟩⟩ := pipe_in h hb
  obtain ⟨R, hR⟩ : ∃ R, pipeOkB p = R := ⟨_, rfl⟩
  rw [hR]
  have HNO := Lib.hid fun (hn : ¬ PipeOkP p) => pipe_no hR hn
  have HYES := Lib.hid fun (hn : PipeOkP p) => pipe_yes hR hn
  have hal := (Below.refl w.heap.size w).alloc (Nat.le_refl _) (.cells #[.slice a0 n0 c0, .slice a1 n1 c1, .slice a2 n2 c2, .slice a3 n3 c3] 36 (0, 0))
  have hb0 := heap_alloc_new w (.cells #[.slice a0 n0 c0, .slice a1 n1 c1, .slice a2 n2 c2, .slice a3 n3 c3] 36 (0, 0))
  have hs0 : w.heap.size < (w.alloc (.cells #[.slice a0 n0 c0, .slice a1 n1 c1, .slice a2 n2 c2, .slice a3 n3 c3] 36 (0, 0))).heap.size := by simp
  have HA := Lib.hid hal
  have HB0 := Lib.hid hb0
  have L0 := Lib.hid (l0.below hal (Nat.le_refl _))
  have L1 := Lib.hid (l1.below hal (Nat.le_refl _))
  have L2 := Lib.hid (l2.below hal (Nat.le_refl _))
  have L3 := Lib.hid (l3.below hal (Nat.le_refl _))
  have S0 := Lib.hid s0
  have S1 := Lib.hid s1
  have S2 := Lib.hid s2
  have S3 := Lib.hid s3
  clear h hb hR hal hb0 l0 l1 l2 l3 s0 s1 s2 s3
  have hw3 : IntKind.i64.wrap ((n0 : Int) - 1) = (n0 : Int) - 1 := by rw [IntKind.wrap_i64]; omega
  obtain ⟨q1, hq1⟩ : ∃ q, inB 1 4 (n1 : Int) = q := ⟨_, rfl⟩
  obtain ⟨q2, hq2⟩ : ∃ q, inB 1 5 (n0 : Int) = q := ⟨_, rfl⟩
  have H1 := Lib.hid (l1In_set (n1 : Int) 1 4 hq1)
  have H2 := Lib.hid (l1In_set (n0 : Int) 1 5 hq2)
  have HSZ : Hid (PipeOkP p → 1 ≤ n1 ∧ n1 ≤ 4 ∧ n2 + 1 = n1 ∧ n3 + 1 = n1 ∧ 1 ≤ n0 ∧ n0 ≤ 5) := Lib.hid fun h => by
    have := of_decide_eq_true h.1
    rw [L0.out.1, L1.out.1, L2.out.1, L3.out.1] at this
    exact this
  have HQ1 := Lib.hid hq1
  have HQ2 := Lib.hid hq2
  clear hq1 hq2
  go_enter Tryz.func19, Tryz.ntmps19
  go_upto_region 1 with fail
  generalize w.alloc (.cells #[.slice a0 n0 c0, .slice a1 n1 c1, .slice a2 n2 c2, .slice a3 n3 c3] 36 (0, 0)) = wa at HA HB0 hs0 L0 L1 L2 L3 ⊢
  obtain ⟨z0, z1, z2, z3⟩ := boxp HB0.out
  have CELLS := Lib.hid fun (wx : World) (hx : Below wa.heap.size wa wx) => boxp ((hx.block w.heap.size hs0).trans HB0.out)
  cases q1
  · obtain rfl : R = false := HNO.out fun h => by
      have h1 := HSZ.out h
      have h2 := of_decide_eq_false HQ1.out
      omega
    go_wp2_with fail
    refine (H1.out wa).mono ?_
    rintro e w' ⟨rfl, rfl⟩
    go_wp2_with fail
    go_ret
    exact ⟨rfl, HA.out⟩
  by_cases e2 : (n2 : Int) = (n1 : Int) - 1
  case neg =>
    have g2 : ((n2 : Int) != (n1 : Int) - 1) = true := by simpa using e2
    obtain rfl : R = false := HNO.out fun h => by
      have h1 := HSZ.out h
      omega
    go_wp2_with fail
    refine (H1.out wa).mono ?_
    rintro e w' ⟨rfl, rfl⟩
    go_wp2_with fail
    go_ret
    exact ⟨rfl, HA.out⟩
  have g2 : ((n2 : Int) != (n1 : Int) - 1) = false := by simpa using e2
  by_cases e3 : (n3 : Int) = (n1 : Int) - 1
  case neg =>
    have g3 : ((n3 : Int) != (n1 : Int) - 1) = true := by simpa using e3
    obtain rfl : R = false := HNO.out fun h => by
      have h1 := HSZ.out h
      omega
    have E2 := Lib.hid e2
    clear e2 e3
    go_wp2_with fail
    refine (H1.out wa).mono ?_
    rintro e w' ⟨rfl, rfl⟩
    go_wp2_with fail
    go_ret
    exact ⟨rfl, HA.out⟩
  have g3 : ((n3 : Int) != (n1 : Int) - 1) = false := by simpa using e3
  have E2 := Lib.hid e2
  have E3 := Lib.hid e3
  clear e2 e3
  cases q2
  · obtain rfl : R = false := HNO.out fun h => by
      have h1 := HSZ.out h
      have h2 := of_decide_eq_false HQ2.out
      omega
    go_wp2_with fail
    refine (H1.out wa).mono ?_
    rintro e w' ⟨rfl, rfl⟩
    go_wp2_with fail
    refine (H2.out wa).mono ?_
    rintro e w' ⟨rfl, rfl⟩
    go_wp2_with fail
    go_ret
    exact ⟨rfl, HA.out⟩
  have h14 := of_decide_eq_true HQ1.out
  have h15 := of_decide_eq_true HQ2.out
  have hn2 : n2 + 1 = n1 := by have := E2.out; omega
  have hn3 : n3 + 1 = n1 := by have := E3.out; omega
  obtain ⟨h1a, h1b⟩ := h14
  obtain ⟨h0a, h0b⟩ := h15
  have HSIZ : Hid (sizesInB (stagesP p).length (actsP p).length (backsP p).length (batchP p).length = true) := Lib.hid (by rw [L0.out.1, L1.out.1, L2.out.1, L3.out.1]; exact decide_eq_true (by omega))
  go_wp2_with fail
  refine (H1.out wa).mono ?_
  rintro e w' ⟨rfl, rfl⟩
  go_wp2_with fail
  refine (H2.out wa).mono ?_
  rintro e w' ⟨rfl, rfl⟩
  clear g2 g3
  go_wp2_with fail
  clear z0 z1 z2 z3
  go_loopw [4] (fun i wr => ∃ k : Nat, k ≤ n1 ∧ i = .int .i64 k ∧ Hid (∀ (j : Nat) (x : dStage), j < k → (stagesP p)[j]? = some x → stageInB n1 n0 j x = true ∧ QueAt p j) ∧ Below wa.heap.size wa wr) (fun i _ => n1 - (intOf i).toNat)
  case atStart => exact ⟨0, Nat.zero_le _, rfl, Lib.hid fun j x hj => absurd hj (Nat.not_lt_zero _), Below.refl _ _⟩
  case round =>
    obtain ⟨k, hk, rfl, hall, hbw⟩ := hrel
    obtain ⟨z0, z1, z2, z3⟩ := CELLS.out wr hbw
    by_cases hlt : k < n1
    · obtain ⟨b, o, x, es, hx, rfl, hbB, hr, hs⟩ := stage_whole L1.out k hlt
      have hbB' : b < wa.heap.size := Nat.lt_of_lt_of_le hbB HA.out.size
      have hr' := rangeAt_kept hr hbB' (Kept.of_below (I := Under wa.heap.size) hbw fun b hb => hb)
      have hs' := shStage.le (shStage.below hs hbw (Nat.le_of_lt hs0)) (Nat.le_trans (Nat.le_of_lt hs0) hbw.size)
      have hbx : shStage.bulk x ≤ 1048576 := Nat.le_trans (bulk_mem shStage.bulk _ k x hx) S1.out
      have hsz := hbw.size
      obtain ⟨b0, nb0, cb0, b1, nb1, cb1, b2, nb2, cb2, b3, nb3, cb3, b4, nb4, cb4, b5, nb5, cb5, b6, nb6, cb6, b7, nb7, cb7, b8, nb8, cb8, rfl, ⟨p0, r0, pl⟩, -⟩ := shStage_reads.1 hs'
      obtain ⟨q0, hq0⟩ : ∃ q, x.1 = q := ⟨_, rfl⟩
      obtain ⟨q3, hq3⟩ : ∃ q, x.2.2.2.1 = q := ⟨_, rfl⟩
      obtain ⟨q4, hq4⟩ : ∃ q, x.2.2.2.2.1 = q := ⟨_, rfl⟩
      obtain ⟨q12, hq12⟩ : ∃ q, x.2.2.2.2.2.2.2.2.2.2.2.2.1 = q := ⟨_, rfl⟩
      obtain ⟨q13, hq13⟩ : ∃ q, x.2.2.2.2.2.2.2.2.2.2.2.2.2 = q := ⟨_, rfl⟩
      rw [hq0, hq3, hq4, hq12, hq13] at hs' hr'
      have hal := (Below.refl wr.heap.size wr).alloc (Nat.le_refl _) (.cells #[.int .i64 q0, .slice b0 nb0 cb0, .slice b1 nb1 cb1, .bool q3, .bool q4, .slice b2 nb2 cb2, .slice b3 nb3 cb3, .slice b4 nb4 cb4, .slice b5 nb5 cb5, .slice b6 nb6 cb6, .slice b7 nb7 cb7, .slice b8 nb8 cb8, .int .i64 q12, .bool q13] 77 (0, 0))
      have hb1 := heap_alloc_new wr (.cells #[.int .i64 q0, .slice b0 nb0 cb0, .slice b1 nb1 cb1, .bool q3, .bool q4, .slice b2 nb2 cb2, .slice b3 nb3 cb3, .slice b4 nb4 cb4, .slice b5 nb5 cb5, .slice b6 nb6 cb6, .slice b7 nb7 cb7, .slice b8 nb8 cb8, .int .i64 q12, .bool q13] 77 (0, 0))
      have hgs : wr.heap.size < (wr.alloc (.cells #[.int .i64 q0, .slice b0 nb0 cb0, .slice b1 nb1 cb1, .bool q3, .bool q4, .slice b2 nb2 cb2, .slice b3 nb3 cb3, .slice b4 nb4 cb4, .slice b5 nb5 cb5, .slice b6 nb6 cb6, .slice b7 nb7 cb7, .slice b8 nb8 cb8, .int .i64 q12, .bool q13] 77 (0, 0))).heap.size := by simp
      have hc := specStageOk_d (wr.alloc (.cells #[.int .i64 q0, .slice b0 nb0 cb0, .slice b1 nb1 cb1, .bool q3, .bool q4, .slice b2 nb2 cb2, .slice b3 nb3 cb3, .slice b4 nb4 cb4, .slice b5 nb5 cb5, .slice b6 nb6 cb6, .slice b7 nb7 cb7, .slice b8 nb8 cb8, .int .i64 q12, .bool q13] 77 (0, 0))) _ x (shStage.le (shStage.below hs' hal (Nat.le_refl _)) (Nat.le_of_lt hgs)) hbx
      obtain ⟨OK, hOK⟩ : ∃ q, stageOkB x = q := ⟨_, rfl⟩
      rw [hOK] at hc
      have hbn : nb0 ≤ 1048576 := by
        rw [shStage_bulk, bulk_ins] at hbx
        have e1 : x.2.1.length = nb0 := pl.1
        omega
      have HAB := Lib.hid (hbw.trans (hal.mono hsz))
      have HPL := Lib.hid (pl.below hal (Nat.le_refl _))
      have HC := Lib.hid hc
      have HB1 := Lib.hid hb1
      have HX := Lib.hid hx
      have HOK := Lib.hid hOK
      have HQ3 : Hid (lastS x = q3) := Lib.hid hq3
      have HPN : Hid ((planS x).length = nb0) := Lib.hid pl.1
      have c100 := hr' 0 _ rfl
      have c101 := hr' 1 _ rfl
      have c102 := hr' 2 _ rfl
      have c103 := hr' 3 _ rfl
      have c104 := hr' 4 _ rfl
      have c105 := hr' 5 _ rfl
      have c106 := hr' 6 _ rfl
      have c107 := hr' 7 _ rfl
      have c108 := hr' 8 _ rfl
      have c109 := hr' 9 _ rfl
      have c110 := hr' 10 _ rfl
      have c111 := hr' 11 _ rfl
      have c112 := hr' 12 _ rfl
      have c113 := hr' 13 _ rfl
      simp only [Nat.add_zero] at c100
      clear hr hs hr' hs' hx hal hb1 hc hOK p0 r0 pl hbx hbB hbB' hq0 hq3 hq4 hq12 hq13
      go_upto_region 8 with fail
      clear z0 z1 z2 z3 c100 c101 c102 c103 c104 c105 c106 c107 c108 c109 c110 c111 c112 c113
      generalize wr.alloc (.cells #[.int .i64 q0, .slice b0 nb0 cb0, .slice b1 nb1 cb1, .bool q3, .bool q4, .slice b2 nb2 cb2, .slice b3 nb3 cb3, .slice b4 nb4 cb4, .slice b5 nb5 cb5, .slice b6 nb6 cb6, .slice b7 nb7 cb7, .slice b8 nb8 cb8, .int .i64 q12, .bool q13] 77 (0, 0)) = wb at HAB HPL HC HB1 hgs ⊢
      have BOX := Lib.hid fun (wx : World) (hx : Below wb.heap.size wb wx) => (show wx.heap[wr.heap.size]? = some (.cells #[.int .i64 q0, .slice b0 nb0 cb0, .slice b1 nb1 cb1, .bool q3, .bool q4, .slice b2 nb2 cb2, .slice b3 nb3 cb3, .slice b4 nb4 cb4, .slice b5 nb5 cb5, .slice b6 nb6 cb6, .slice b7 nb7 cb7, .slice b8 nb8 cb8, .int .i64 q12, .bool q13] 77 (0, 0)) from (hx.block wr.heap.size hgs).trans HB1.out)
      have HBW := Lib.hid hbw
      clear hbw
      cases OK
      · obtain rfl : R = false := HNO.out fun h => by
          have h1 := (stageIn_has (h.2.1 k x HX.out)).1
          rw [HOK.out] at h1
          cases h1
        have z0 := box14 HB1.out 0 _ rfl
        have z1 := box14 HB1.out 1 _ rfl
        have z2 := box14 HB1.out 2 _ rfl
        have z3 := box14 HB1.out 3 _ rfl
        have z4 := box14 HB1.out 4 _ rfl
        have z5 := box14 HB1.out 5 _ rfl
        have z6 := box14 HB1.out 6 _ rfl
        have z7 := box14 HB1.out 7 _ rfl
        have z8 := box14 HB1.out 8 _ rfl
        have z9 := box14 HB1.out 9 _ rfl
        have z10 := box14 HB1.out 10 _ rfl
        have z11 := box14 HB1.out 11 _ rfl
        have z12 := box14 HB1.out 12 _ rfl
        have z13 := box14 HB1.out 13 _ rfl
        go_wp2_with fail
        clear z0 z1 z2 z3 z4 z5 z6 z7 z8 z9 z10 z11 z12 z13
        refine HC.out.mono ?_
        rintro e w2 ⟨rfl, hb2⟩
        have HW2 := Lib.hid (HAB.out.trans (hb2.mono HAB.out.size))
        have HB2 := Lib.hid hb2
        clear hb2
        have HF := Lib.hid (HA.out.trans (HW2.out.mono HA.out.size))
        go_wp2_with fail
        go_ret
        exact ⟨rfl, HF.out⟩
      by_cases hkn : k + 1 = n1
      · skip
        have HE : Hid (decide (k + 1 = n1) = true) := Lib.hid (decide_eq_true hkn)
        have g1 : ((k : Int) == (n1 : Int) - 1) = true := by
          have h2 := of_decide_eq_true HE.out
          exact beq_iff_eq.2 (by omega)
        clear hkn
        cases q3
        · skip
          obtain rfl : R = false := HNO.out fun h => by
            have h1 := (stageIn_has (h.2.1 k x HX.out)).2.1
            rw [HQ3.out, L1.out.1, HE.out] at h1
            cases h1
          have z0 := box14 HB1.out 0 _ rfl
          have z1 := box14 HB1.out 1 _ rfl
          have z2 := box14 HB1.out 2 _ rfl
          have z3 := box14 HB1.out 3 _ rfl
          have z4 := box14 HB1.out 4 _ rfl
          have z5 := box14 HB1.out 5 _ rfl
          have z6 := box14 HB1.out 6 _ rfl
          have z7 := box14 HB1.out 7 _ rfl
          have z8 := box14 HB1.out 8 _ rfl
          have z9 := box14 HB1.out 9 _ rfl
          have z10 := box14 HB1.out 10 _ rfl
          have z11 := box14 HB1.out 11 _ rfl
          have z12 := box14 HB1.out 12 _ rfl
          have z13 := box14 HB1.out 13 _ rfl
          go_wp2_with fail
          clear z0 z1 z2 z3 z4 z5 z6 z7 z8 z9 z10 z11 z12 z13
          refine HC.out.mono ?_
          rintro e w2 ⟨rfl, hb2⟩
          have HW2 := Lib.hid (HAB.out.trans (hb2.mono HAB.out.size))
          have HB2 := Lib.hid hb2
          clear hb2
          have z3 := box14 (BOX.out w2 HB2.out) 3 _ rfl
          have HF := Lib.hid (HA.out.trans (HW2.out.mono HA.out.size))
          go_wp2_with fail
          go_ret
          exact ⟨rfl, HF.out⟩
        · skip
          have z0 := box14 HB1.out 0 _ rfl
          have z1 := box14 HB1.out 1 _ rfl
          have z2 := box14 HB1.out 2 _ rfl
          have z3 := box14 HB1.out 3 _ rfl
          have z4 := box14 HB1.out 4 _ rfl
          have z5 := box14 HB1.out 5 _ rfl
          have z6 := box14 HB1.out 6 _ rfl
          have z7 := box14 HB1.out 7 _ rfl
          have z8 := box14 HB1.out 8 _ rfl
          have z9 := box14 HB1.out 9 _ rfl
          have z10 := box14 HB1.out 10 _ rfl
          have z11 := box14 HB1.out 11 _ rfl
          have z12 := box14 HB1.out 12 _ rfl
          have z13 := box14 HB1.out 13 _ rfl
          go_wp2_with fail
          clear z0 z1 z2 z3 z4 z5 z6 z7 z8 z9 z10 z11 z12 z13
          refine HC.out.mono ?_
          rintro e w2 ⟨rfl, hb2⟩
          have HW2 := Lib.hid (HAB.out.trans (hb2.mono HAB.out.size))
          have HB2 := Lib.hid hb2
          clear hb2
          have z3 := box14 (BOX.out w2 HB2.out) 3 _ rfl
          have HLAST : Hid (lastS x = decide (k + 1 = n1)) := Lib.hid (by rw [HQ3.out, HE.out])
          clear HE
          have z1 := box14 (BOX.out w2 HB2.out) 1 _ rfl
          obtain ⟨y0, y1, y2, y3⟩ := CELLS.out w2 HW2.out
          go_wp2_with fail
          clear z1 z3 y0 y1 y2 y3
          go_loopw [6] (fun i wx => ∃ j : Nat, j ≤ nb0 ∧ i = .int .i64 j ∧ Hid (∀ (t : Nat), t < j → insInB n0 ((planS x).getD t (0, 0)) = true) ∧ Below wb.heap.size wb wx) (fun i _ => nb0 - (intOf i).toNat)
          case atStart => exact ⟨0, Nat.zero_le _, rfl, Lib.hid fun t ht => absurd ht (Nat.not_lt_zero _), HB2.out⟩
          case round =>
            obtain ⟨j, hj, rfl, hpl, hbx⟩ := hrel
            have hba := HAB.out.trans (hbx.mono HAB.out.size)
            have z1 := box14 (BOX.out _ hbx) 1 _ rfl
            obtain ⟨y0, y1, y2, y3⟩ := CELLS.out _ hba
            by_cases hlj : j < nb0
            · obtain ⟨b', o', rfl, hbB', f0, f1⟩ := plan_at HPL.out j hlj
              obtain ⟨U, hU⟩ : ∃ U, ((planS x).getD j (0, 0)).1 = U := ⟨_, rfl⟩
              obtain ⟨W, hW⟩ : ∃ W, ((planS x).getD j (0, 0)).2 = W := ⟨_, rfl⟩
              rw [hU] at f0
              rw [hW] at f1
              have d0 := (hbx.cell (p := ⟨b', o' + j * 2, none⟩) (Nat.lt_trans hbB' hgs)).trans f0
              have d1 := (hbx.cell (p := ⟨b', o' + j * 2 + 1, none⟩) (Nat.lt_trans hbB' hgs)).trans f1
              have wj : IntKind.i64.wrap (j : Int) = (j : Int) := by rw [IntKind.wrap_i64]; omega
              obtain ⟨q5, hq5⟩ : ∃ q, inB 0 ((n0 : Int) - 1) W = q := ⟨_, rfl⟩
              have H5 := Lib.hid (l1In_set W 0 ((n0 : Int) - 1) hq5)
              have HIN : Hid (insInB n0 ((planS x).getD j (0, 0)) = q5) := Lib.hid (by unfold insInB; rw [hW, hq5])
              have HBX := Lib.hid hbx
              have HBA := Lib.hid hba
              clear f0 f1 hU hW hq5 hbx hba hbB'
              cases q5
              · obtain rfl : R = false := HNO.out fun h => by
                  have h1 := h.2.1 k x HX.out
                  unfold stageInB at h1
                  rw [Bool.and_eq_true, Bool.and_eq_true, L0.out.1, List.all_eq_true] at h1
                  have h2 := h1.2.2 ((planS x).getD j (0, 0)) (by
                    rw [List.getD_eq_getElem?_getD, List.getElem?_eq_getElem (by rw [HPN.out]; exact hlj)]
                    exact List.getElem_mem _)
                  rw [HIN.out] at h2
                  cases h2
                go_upto_region 13 with fail
                go_quiet ((go_at_call 58; with_reducible refine Calls.quiet_of_same ((H5.out _).mono fun e w' ⟨he, hw⟩ => ⟨he, hw.symm⟩)))
                go_wp2_with fail
                go_ret
                exact ⟨rfl, below_drewN (HA.out.trans (HBA.out.mono HA.out.size)) _⟩
              · go_upto_region 13 with fail
                go_quiet ((go_at_call 58; with_reducible refine Calls.quiet_of_same ((H5.out _).mono fun e w' ⟨he, hw⟩ => ⟨he, hw.symm⟩)))
                go_wp2_with fail
                go_roundw
                case rel =>
                  refine ⟨j + 1, by omega, by go_num, Lib.hid fun t ht => ?_, below_drewN HBX.out _⟩
                  by_cases e : t = j
                  · subst e
                    exact HIN.out
                  · exact hpl.out t (by omega)
                case measure => simp [intOf]; omega
            · obtain rfl : j = nb0 := by omega
              have HST : Hid (stageInB n1 n0 k x = true) := Lib.hid (by
                unfold stageInB
                rw [HOK.out, HLAST.out, Bool.true_and, beq_self_eq_true, Bool.true_and, all_get]
                intro t i hi
                have ht : t < j := by rw [← HPN.out]; exact (List.getElem?_eq_some_iff.1 hi).1
                have := hpl.out t ht
                rwa [List.getD_eq_getElem?_getD, hi] at this)
              have HBX := Lib.hid hbx
              have HBA := Lib.hid hba
              clear hbx hba hpl
              by_cases hk0 : 0 < k
              · skip
                obtain ⟨t, ht⟩ : ∃ t, t = k - 1 := ⟨_, rfl⟩
                have ht2 : t < n2 := by omega
                have ht3 : t < n3 := by omega
                have g0 : decide ((k : Int) > 0) = true := decide_eq_true (by omega)
                have w1 : wrap64 ((k : Int) - 1) = (t : Int) := by rw [IntWalk.wrap64_in _ (by omega)]; omega
                have w2' : (k : Int) - 1 = (t : Int) := by omega
                obtain ⟨b4, o4, x4, ax4, nx4, cx4, hx4, rfl, hbB4, f40, f41, p4, r4, l4⟩ := queue_at L2.out t ht2
                obtain ⟨b5, o5, x5, ax5, nx5, cx5, hx5, e5, hbB5, f50, f51, p5, r5, l5⟩ := queue_at L3.out t ht3
                subst e5
                have hlb4 := bulk_mem shQueue.bulk _ t x4 hx4
                have hlb5 := bulk_mem shQueue.bulk _ t x5 hx5
                rw [shQueue_bulk, bulk_list shItem l4] at hlb4
                rw [shQueue_bulk, bulk_list shItem l5] at hlb5
                have hm4 : nx4 ≤ 1048576 := by have := S2.out; omega
                have hm5 : nx5 ≤ 1048576 := by have := S3.out; omega
                have hs4 : Shape.sum shItem.bulk x4.2 ≤ 1048576 := by have := S2.out; omega
                have hs5 : Shape.sum shItem.bulk x5.2 ≤ 1048576 := by have := S3.out; omega
                obtain ⟨C4, hC4⟩ : ∃ C, x4.1 = C := ⟨_, rfl⟩
                obtain ⟨C5, hC5⟩ : ∃ C, x5.1 = C := ⟨_, rfl⟩
                rw [hC4] at f40
                rw [hC5] at f50
                obtain ⟨q4', hq4⟩ : ∃ q, queueOkB x4 = q := ⟨_, rfl⟩
                obtain ⟨q5', hq5⟩ : ∃ q, queueOkB x5 = q := ⟨_, rfl⟩
                have hq4' : queueOkB (C4, x4.2) = q4' := by rw [← hC4]; exact hq4
                have hq5' : queueOkB (C5, x5.2) = q5' := by rw [← hC5]; exact hq5
                have H4 := Lib.hid fun (wx : World) (hx : Below wa.heap.size wa wx) => hq4' ▸ specQueueOk_c wx C4 ax4 nx4 cx4 x4.2 ((l4.below hx (Nat.le_of_lt hs0)).le (Nat.le_trans (Nat.le_of_lt hs0) hx.size)) hm4 hs4
                have H5 := Lib.hid fun (wx : World) (hx : Below wa.heap.size wa wx) => hq5' ▸ specQueueOk_c wx C5 ax5 nx5 cx5 x5.2 ((l5.below hx (Nat.le_of_lt hs0)).le (Nat.le_trans (Nat.le_of_lt hs0) hx.size)) hm5 hs5
                have d40 := (HBA.out.cell (p := ⟨b4, o4 + t * 2, none⟩) (Nat.lt_trans hbB4 hs0)).trans f40
                have d41 := (HBA.out.cell (p := ⟨b4, o4 + t * 2 + 1, none⟩) (Nat.lt_trans hbB4 hs0)).trans f41
                have F50 := Lib.hid f50
                have F51 := Lib.hid f51
                have HB5 := Lib.hid (Nat.lt_trans hbB5 hs0)
                have HX4 := Lib.hid hx4
                have HX5 := Lib.hid hx5
                have HQ4 := Lib.hid hq4
                have HQ5 := Lib.hid hq5
                have HT := Lib.hid ht
                have HK0 := Lib.hid hk0
                clear f40 f41 f50 f51 hlb4 hlb5 l4 l5 hx4 hx5 hC4 hC5 hq4 hq5 hq4' hq5' p4 r4 p5 r5 hbB4 hbB5 hs4 hs5 hk0 ht
                cases q4'
                · obtain rfl : R = false := HNO.out fun h => by
                    have h1 := h.2.2.1 t x4 HX4.out
                    rw [HQ4.out] at h1
                    cases h1
                  go_wp2_with fail
                  refine (H4.out _ HBA.out).mono ?_
                  rintro e w5 ⟨rfl, hb⟩
                  have HF := Lib.hid (HA.out.trans ((HBA.out.trans (hb.mono HBA.out.size)).mono HA.out.size))
                  clear hb
                  go_wp2_with fail
                  go_ret
                  exact ⟨rfl, HF.out⟩
                go_wp2_with fail
                refine (H4.out _ HBA.out).mono ?_
                rintro e w5 ⟨rfl, hb⟩
                have HBC := Lib.hid (HBA.out.trans (hb.mono HBA.out.size))
                clear hb d40 d41 y0 y1 y2 y3
                obtain ⟨y0, y1, y2, y3⟩ := CELLS.out _ HBC.out
                have d50 := (HBC.out.cell (p := ⟨b5, o5 + t * 2, none⟩) HB5.out).trans F50.out
                have d51 := (HBC.out.cell (p := ⟨b5, o5 + t * 2 + 1, none⟩) HB5.out).trans F51.out
                cases q5'
                · obtain rfl : R = false := HNO.out fun h => by
                    have h1 := h.2.2.2.1 t x5 HX5.out
                    rw [HQ5.out] at h1
                    cases h1
                  go_wp2_with fail
                  refine (H5.out _ HBC.out).mono ?_
                  rintro e w6 ⟨rfl, hb⟩
                  have HF := Lib.hid (HA.out.trans ((HBC.out.trans (hb.mono HBC.out.size)).mono HA.out.size))
                  clear hb
                  go_wp2_with fail
                  go_ret
                  exact ⟨rfl, HF.out⟩
                have HQU : Hid (QueAt p k) := Lib.hid fun _ => by
                  rw [← HT.out]
                  exact ⟨fun q hq => by rw [HX4.out] at hq; cases hq; exact HQ4.out, fun q hq => by rw [HX5.out] at hq; cases hq; exact HQ5.out⟩
                go_wp2_with fail
                refine (H5.out _ HBC.out).mono ?_
                rintro e w6 ⟨rfl, hb⟩
                have HBD := Lib.hid (HBC.out.trans (hb.mono HBC.out.size))
                clear hb
                go_wp2_with fail
                go_roundw
                case rel =>
                  refine ⟨k + 1, by omega, by go_num, Lib.hid fun t y ht hy => ?_, HBD.out⟩
                  by_cases e : t = k
                  · subst e
                    have hxy : y = x := by have := HX.out; rw [hy] at this; exact Option.some.inj this
                    subst hxy
                    exact ⟨HST.out, HQU.out⟩
                  · exact hall.out t y (by omega) hy
                case measure => simp [intOf]; omega
              · have g0 : decide ((k : Int) > 0) = false := decide_eq_false (by omega)
                have HQU : Hid (QueAt p k) := Lib.hid fun h => absurd h hk0
                have HK0 := Lib.hid hk0
                clear hk0
                go_wp2_with fail
                go_roundw
                case rel =>
                  refine ⟨k + 1, by omega, by go_num, Lib.hid fun t y ht hy => ?_, HBA.out⟩
                  by_cases e : t = k
                  · subst e
                    have hxy : y = x := by have := HX.out; rw [hy] at this; exact Option.some.inj this
                    subst hxy
                    exact ⟨HST.out, HQU.out⟩
                  · exact hall.out t y (by omega) hy
                case measure => simp [intOf]; omega
      · skip
        have HE : Hid (decide (k + 1 = n1) = false) := Lib.hid (decide_eq_false hkn)
        have g1 : ((k : Int) == (n1 : Int) - 1) = false := by
          have h2 := of_decide_eq_false HE.out
          exact beq_eq_false_iff_ne.2 (by omega)
        clear hkn
        cases q3
        · skip
          have z0 := box14 HB1.out 0 _ rfl
          have z1 := box14 HB1.out 1 _ rfl
          have z2 := box14 HB1.out 2 _ rfl
          have z3 := box14 HB1.out 3 _ rfl
          have z4 := box14 HB1.out 4 _ rfl
          have z5 := box14 HB1.out 5 _ rfl
          have z6 := box14 HB1.out 6 _ rfl
          have z7 := box14 HB1.out 7 _ rfl
          have z8 := box14 HB1.out 8 _ rfl
          have z9 := box14 HB1.out 9 _ rfl
          have z10 := box14 HB1.out 10 _ rfl
          have z11 := box14 HB1.out 11 _ rfl
          have z12 := box14 HB1.out 12 _ rfl
          have z13 := box14 HB1.out 13 _ rfl
          go_wp2_with fail
          clear z0 z1 z2 z3 z4 z5 z6 z7 z8 z9 z10 z11 z12 z13
          refine HC.out.mono ?_
          rintro e w2 ⟨rfl, hb2⟩
          have HW2 := Lib.hid (HAB.out.trans (hb2.mono HAB.out.size))
          have HB2 := Lib.hid hb2
          clear hb2
          have z3 := box14 (BOX.out w2 HB2.out) 3 _ rfl
          have HLAST : Hid (lastS x = decide (k + 1 = n1)) := Lib.hid (by rw [HQ3.out, HE.out])
          clear HE
          have z1 := box14 (BOX.out w2 HB2.out) 1 _ rfl
          obtain ⟨y0, y1, y2, y3⟩ := CELLS.out w2 HW2.out
          go_wp2_with fail
          clear z1 z3 y0 y1 y2 y3
          go_loopw [6] (fun i wx => ∃ j : Nat, j ≤ nb0 ∧ i = .int .i64 j ∧ Hid (∀ (t : Nat), t < j → insInB n0 ((planS x).getD t (0, 0)) = true) ∧ Below wb.heap.size wb wx) (fun i _ => nb0 - (intOf i).toNat)
          case atStart => exact ⟨0, Nat.zero_le _, rfl, Lib.hid fun t ht => absurd ht (Nat.not_lt_zero _), HB2.out⟩
          case round =>
            obtain ⟨j, hj, rfl, hpl, hbx⟩ := hrel
            have hba := HAB.out.trans (hbx.mono HAB.out.size)
            have z1 := box14 (BOX.out _ hbx) 1 _ rfl
            obtain ⟨y0, y1, y2, y3⟩ := CELLS.out _ hba
            by_cases hlj : j < nb0
            · obtain ⟨b', o', rfl, hbB', f0, f1⟩ := plan_at HPL.out j hlj
              obtain ⟨U, hU⟩ : ∃ U, ((planS x).getD j (0, 0)).1 = U := ⟨_, rfl⟩
              obtain ⟨W, hW⟩ : ∃ W, ((planS x).getD j (0, 0)).2 = W := ⟨_, rfl⟩
              rw [hU] at f0
              rw [hW] at f1
              have d0 := (hbx.cell (p := ⟨b', o' + j * 2, none⟩) (Nat.lt_trans hbB' hgs)).trans f0
              have d1 := (hbx.cell (p := ⟨b', o' + j * 2 + 1, none⟩) (Nat.lt_trans hbB' hgs)).trans f1
              have wj : IntKind.i64.wrap (j : Int) = (j : Int) := by rw [IntKind.wrap_i64]; omega
              obtain ⟨q5, hq5⟩ : ∃ q, inB 0 ((n0 : Int) - 1) W = q := ⟨_, rfl⟩
              have H5 := Lib.hid (l1In_set W 0 ((n0 : Int) - 1) hq5)
              have HIN : Hid (insInB n0 ((planS x).getD j (0, 0)) = q5) := Lib.hid (by unfold insInB; rw [hW, hq5])
              have HBX := Lib.hid hbx
              have HBA := Lib.hid hba
              clear f0 f1 hU hW hq5 hbx hba hbB'
              cases q5
              · obtain rfl : R = false := HNO.out fun h => by
                  have h1 := h.2.1 k x HX.out
                  unfold stageInB at h1
                  rw [Bool.and_eq_true, Bool.and_eq_true, L0.out.1, List.all_eq_true] at h1
                  have h2 := h1.2.2 ((planS x).getD j (0, 0)) (by
                    rw [List.getD_eq_getElem?_getD, List.getElem?_eq_getElem (by rw [HPN.out]; exact hlj)]
                    exact List.getElem_mem _)
                  rw [HIN.out] at h2
                  cases h2
                go_upto_region 13 with fail
                go_quiet ((go_at_call 58; with_reducible refine Calls.quiet_of_same ((H5.out _).mono fun e w' ⟨he, hw⟩ => ⟨he, hw.symm⟩)))
                go_wp2_with fail
                go_ret
                exact ⟨rfl, below_drewN (HA.out.trans (HBA.out.mono HA.out.size)) _⟩
              · go_upto_region 13 with fail
                go_quiet ((go_at_call 58; with_reducible refine Calls.quiet_of_same ((H5.out _).mono fun e w' ⟨he, hw⟩ => ⟨he, hw.symm⟩)))
                go_wp2_with fail
                go_roundw
                case rel =>
                  refine ⟨j + 1, by omega, by go_num, Lib.hid fun t ht => ?_, below_drewN HBX.out _⟩
                  by_cases e : t = j
                  · subst e
                    exact HIN.out
                  · exact hpl.out t (by omega)
                case measure => simp [intOf]; omega
            · obtain rfl : j = nb0 := by omega
              have HST : Hid (stageInB n1 n0 k x = true) := Lib.hid (by
                unfold stageInB
                rw [HOK.out, HLAST.out, Bool.true_and, beq_self_eq_true, Bool.true_and, all_get]
                intro t i hi
                have ht : t < j := by rw [← HPN.out]; exact (List.getElem?_eq_some_iff.1 hi).1
                have := hpl.out t ht
                rwa [List.getD_eq_getElem?_getD, hi] at this)
              have HBX := Lib.hid hbx
              have HBA := Lib.hid hba
              clear hbx hba hpl
              by_cases hk0 : 0 < k
              · skip
                obtain ⟨t, ht⟩ : ∃ t, t = k - 1 := ⟨_, rfl⟩
                have ht2 : t < n2 := by omega
                have ht3 : t < n3 := by omega
                have g0 : decide ((k : Int) > 0) = true := decide_eq_true (by omega)
                have w1 : wrap64 ((k : Int) - 1) = (t : Int) := by rw [IntWalk.wrap64_in _ (by omega)]; omega
                have w2' : (k : Int) - 1 = (t : Int) := by omega
                obtain ⟨b4, o4, x4, ax4, nx4, cx4, hx4, rfl, hbB4, f40, f41, p4, r4, l4⟩ := queue_at L2.out t ht2
                obtain ⟨b5, o5, x5, ax5, nx5, cx5, hx5, e5, hbB5, f50, f51, p5, r5, l5⟩ := queue_at L3.out t ht3
                subst e5
                have hlb4 := bulk_mem shQueue.bulk _ t x4 hx4
                have hlb5 := bulk_mem shQueue.bulk _ t x5 hx5
                rw [shQueue_bulk, bulk_list shItem l4] at hlb4
                rw [shQueue_bulk, bulk_list shItem l5] at hlb5
                have hm4 : nx4 ≤ 1048576 := by have := S2.out; omega
                have hm5 : nx5 ≤ 1048576 := by have := S3.out; omega
                have hs4 : Shape.sum shItem.bulk x4.2 ≤ 1048576 := by have := S2.out; omega
                have hs5 : Shape.sum shItem.bulk x5.2 ≤ 1048576 := by have := S3.out; omega
                obtain ⟨C4, hC4⟩ : ∃ C, x4.1 = C := ⟨_, rfl⟩
                obtain ⟨C5, hC5⟩ : ∃ C, x5.1 = C := ⟨_, rfl⟩
                rw [hC4] at f40
                rw [hC5] at f50
                obtain ⟨q4', hq4⟩ : ∃ q, queueOkB x4 = q := ⟨_, rfl⟩
                obtain ⟨q5', hq5⟩ : ∃ q, queueOkB x5 = q := ⟨_, rfl⟩
                have hq4' : queueOkB (C4, x4.2) = q4' := by rw [← hC4]; exact hq4
                have hq5' : queueOkB (C5, x5.2) = q5' := by rw [← hC5]; exact hq5
                have H4 := Lib.hid fun (wx : World) (hx : Below wa.heap.size wa wx) => hq4' ▸ specQueueOk_c wx C4 ax4 nx4 cx4 x4.2 ((l4.below hx (Nat.le_of_lt hs0)).le (Nat.le_trans (Nat.le_of_lt hs0) hx.size)) hm4 hs4
                have H5 := Lib.hid fun (wx : World) (hx : Below wa.heap.size wa wx) => hq5' ▸ specQueueOk_c wx C5 ax5 nx5 cx5 x5.2 ((l5.below hx (Nat.le_of_lt hs0)).le (Nat.le_trans (Nat.le_of_lt hs0) hx.size)) hm5 hs5
                have d40 := (HBA.out.cell (p := ⟨b4, o4 + t * 2, none⟩) (Nat.lt_trans hbB4 hs0)).trans f40
                have d41 := (HBA.out.cell (p := ⟨b4, o4 + t * 2 + 1, none⟩) (Nat.lt_trans hbB4 hs0)).trans f41
                have F50 := Lib.hid f50
                have F51 := Lib.hid f51
                have HB5 := Lib.hid (Nat.lt_trans hbB5 hs0)
                have HX4 := Lib.hid hx4
                have HX5 := Lib.hid hx5
                have HQ4 := Lib.hid hq4
                have HQ5 := Lib.hid hq5
                have HT := Lib.hid ht
                have HK0 := Lib.hid hk0
                clear f40 f41 f50 f51 hlb4 hlb5 l4 l5 hx4 hx5 hC4 hC5 hq4 hq5 hq4' hq5' p4 r4 p5 r5 hbB4 hbB5 hs4 hs5 hk0 ht
                cases q4'
                · obtain rfl : R = false := HNO.out fun h => by
                    have h1 := h.2.2.1 t x4 HX4.out
                    rw [HQ4.out] at h1
                    cases h1
                  go_wp2_with fail
                  refine (H4.out _ HBA.out).mono ?_
                  rintro e w5 ⟨rfl, hb⟩
                  have HF := Lib.hid (HA.out.trans ((HBA.out.trans (hb.mono HBA.out.size)).mono HA.out.size))
                  clear hb
                  go_wp2_with fail
                  go_ret
                  exact ⟨rfl, HF.out⟩
                go_wp2_with fail
                refine (H4.out _ HBA.out).mono ?_
                rintro e w5 ⟨rfl, hb⟩
                have HBC := Lib.hid (HBA.out.trans (hb.mono HBA.out.size))
                clear hb d40 d41 y0 y1 y2 y3
                obtain ⟨y0, y1, y2, y3⟩ := CELLS.out _ HBC.out
                have d50 := (HBC.out.cell (p := ⟨b5, o5 + t * 2, none⟩) HB5.out).trans F50.out
                have d51 := (HBC.out.cell (p := ⟨b5, o5 + t * 2 + 1, none⟩) HB5.out).trans F51.out
                cases q5'
                · obtain rfl : R = false := HNO.out fun h => by
                    have h1 := h.2.2.2.1 t x5 HX5.out
                    rw [HQ5.out] at h1
                    cases h1
                  go_wp2_with fail
                  refine (H5.out _ HBC.out).mono ?_
                  rintro e w6 ⟨rfl, hb⟩
                  have HF := Lib.hid (HA.out.trans ((HBC.out.trans (hb.mono HBC.out.size)).mono HA.out.size))
                  clear hb
                  go_wp2_with fail
                  go_ret
                  exact ⟨rfl, HF.out⟩
                have HQU : Hid (QueAt p k) := Lib.hid fun _ => by
                  rw [← HT.out]
                  exact ⟨fun q hq => by rw [HX4.out] at hq; cases hq; exact HQ4.out, fun q hq => by rw [HX5.out] at hq; cases hq; exact HQ5.out⟩
                go_wp2_with fail
                refine (H5.out _ HBC.out).mono ?_
                rintro e w6 ⟨rfl, hb⟩
                have HBD := Lib.hid (HBC.out.trans (hb.mono HBC.out.size))
                clear hb
                go_wp2_with fail
                go_roundw
                case rel =>
                  refine ⟨k + 1, by omega, by go_num, Lib.hid fun t y ht hy => ?_, HBD.out⟩
                  by_cases e : t = k
                  · subst e
                    have hxy : y = x := by have := HX.out; rw [hy] at this; exact Option.some.inj this
                    subst hxy
                    exact ⟨HST.out, HQU.out⟩
                  · exact hall.out t y (by omega) hy
                case measure => simp [intOf]; omega
              · have g0 : decide ((k : Int) > 0) = false := decide_eq_false (by omega)
                have HQU : Hid (QueAt p k) := Lib.hid fun h => absurd h hk0
                have HK0 := Lib.hid hk0
                clear hk0
                go_wp2_with fail
                go_roundw
                case rel =>
                  refine ⟨k + 1, by omega, by go_num, Lib.hid fun t y ht hy => ?_, HBA.out⟩
                  by_cases e : t = k
                  · subst e
                    have hxy : y = x := by have := HX.out; rw [hy] at this; exact Option.some.inj this
                    subst hxy
                    exact ⟨HST.out, HQU.out⟩
                  · exact hall.out t y (by omega) hy
                case measure => simp [intOf]; omega
        · skip
          obtain rfl : R = false := HNO.out fun h => by
            have h1 := (stageIn_has (h.2.1 k x HX.out)).2.1
            rw [HQ3.out, L1.out.1, HE.out] at h1
            cases h1
          have z0 := box14 HB1.out 0 _ rfl
          have z1 := box14 HB1.out 1 _ rfl
          have z2 := box14 HB1.out 2 _ rfl
          have z3 := box14 HB1.out 3 _ rfl
          have z4 := box14 HB1.out 4 _ rfl
          have z5 := box14 HB1.out 5 _ rfl
          have z6 := box14 HB1.out 6 _ rfl
          have z7 := box14 HB1.out 7 _ rfl
          have z8 := box14 HB1.out 8 _ rfl
          have z9 := box14 HB1.out 9 _ rfl
          have z10 := box14 HB1.out 10 _ rfl
          have z11 := box14 HB1.out 11 _ rfl
          have z12 := box14 HB1.out 12 _ rfl
          have z13 := box14 HB1.out 13 _ rfl
          go_wp2_with fail
          clear z0 z1 z2 z3 z4 z5 z6 z7 z8 z9 z10 z11 z12 z13
          refine HC.out.mono ?_
          rintro e w2 ⟨rfl, hb2⟩
          have HW2 := Lib.hid (HAB.out.trans (hb2.mono HAB.out.size))
          have HB2 := Lib.hid hb2
          clear hb2
          have z3 := box14 (BOX.out w2 HB2.out) 3 _ rfl
          have HF := Lib.hid (HA.out.trans (HW2.out.mono HA.out.size))
          go_wp2_with fail
          go_ret
          exact ⟨rfl, HF.out⟩
    · obtain rfl : k = n1 := by omega
      have HBW := Lib.hid hbw
      clear hbw
      go_wp2_with fail
      clear z0 z1 z2 z3
      go_loopw [7] (fun i wx => ∃ j : Nat, j ≤ n0 ∧ i = .int .i64 j ∧ Hid (∀ (t : Nat) (x : dPair), t < j → (batchP p)[t]? = some x → pairInB x = true) ∧ Below wa.heap.size wa wx) (fun i _ => n0 - (intOf i).toNat)
      case atStart => exact ⟨0, Nat.zero_le _, rfl, Lib.hid fun t x ht => absurd ht (Nat.not_lt_zero _), HBW.out⟩
      case round =>
        obtain ⟨j, hj, rfl, hpr, hbx⟩ := hrel
        obtain ⟨z0, z1, z2, z3⟩ := CELLS.out _ hbx
        by_cases hlj : j < n0
        · obtain ⟨b, o, x, ax, nx, cx, ay, ny, cy, hx, rfl, hbB, f0, f1, lx, ly⟩ := pair_at L0.out j hlj
          have hbk := bulk_mem shPair.bulk _ j x hx
          rw [shPair_bulk, bulk_ints, bulk_ints, lx.1, ly.1] at hbk
          have hnx : nx ≤ 1048576 := by have := S0.out; omega
          have hny : ny ≤ 1048576 := by have := S0.out; omega
          have d0 := (hbx.cell (p := ⟨b, o + j * 2, none⟩) (Nat.lt_trans hbB hs0)).trans f0
          have d1 := (hbx.cell (p := ⟨b, o + j * 2 + 1, none⟩) (Nat.lt_trans hbB hs0)).trans f1
          obtain ⟨q5, hq5⟩ : ∃ q, vecOkB x.1 = q := ⟨_, rfl⟩
          obtain ⟨q6, hq6⟩ : ∃ q, vecOkB x.2 = q := ⟨_, rfl⟩
          have H5 := Lib.hid (hq5 ▸ specVecOk_any _ ax nx cx x.1 (((lx.ints hnx).below hbx (Nat.le_of_lt hs0)).le (Nat.le_trans (Nat.le_of_lt hs0) hbx.size)))
          have H6 := Lib.hid (hq6 ▸ specVecOk_any _ ay ny cy x.2 (((ly.ints hny).below hbx (Nat.le_of_lt hs0)).le (Nat.le_trans (Nat.le_of_lt hs0) hbx.size)))
          have HIN : Hid (pairInB x = (q5 && q6)) := Lib.hid (by unfold pairInB; rw [hq5, hq6])
          have HX := Lib.hid hx
          have HBX := Lib.hid hbx
          clear f0 f1 lx ly hq5 hq6 hx hbx hbB hbk
          cases q5
          · obtain rfl : R = false := HNO.out fun h => by
              have h1 := h.2.2.2.2 j x HX.out
              rw [HIN.out] at h1
              cases h1
            go_wp2_with fail
            refine H5.out.mono ?_
            rintro e w' ⟨rfl, rfl⟩
            go_wp2_with fail
            go_ret
            exact ⟨rfl, HA.out.trans (HBX.out.mono HA.out.size)⟩
          cases q6
          · obtain rfl : R = false := HNO.out fun h => by
              have h1 := h.2.2.2.2 j x HX.out
              rw [HIN.out] at h1
              cases h1
            go_wp2_with fail
            refine H5.out.mono ?_
            rintro e w' ⟨rfl, rfl⟩
            go_wp2_with fail
            refine H6.out.mono ?_
            rintro e w' ⟨rfl, rfl⟩
            go_wp2_with fail
            go_ret
            exact ⟨rfl, HA.out.trans (HBX.out.mono HA.out.size)⟩
          go_wp2_with fail
          refine H5.out.mono ?_
          rintro e w' ⟨rfl, rfl⟩
          go_wp2_with fail
          refine H6.out.mono ?_
          rintro e w' ⟨rfl, rfl⟩
          go_wp2_with fail
          go_roundw
          case rel =>
            refine ⟨j + 1, by omega, by go_num, Lib.hid fun t y ht hy => ?_, HBX.out⟩
            by_cases e : t = j
            · subst e
              have hxy : y = x := by have := HX.out; rw [hy] at this; exact Option.some.inj this
              subst hxy
              exact HIN.out
            · exact hpr.out t y (by omega) hy
          case measure => simp [intOf]; omega
        · obtain rfl : j = n0 := by omega
          have HBX := Lib.hid hbx
          clear hbx
          obtain rfl : R = true := HYES.out ⟨HSIZ.out, fun t x hx => by
              rw [L1.out.1, L0.out.1]
              exact (hall.out t x (by rw [← L1.out.1]; exact (List.getElem?_eq_some_iff.1 hx).1) hx).1, fun t q hq => by
              have ht : t < n2 := by rw [← L2.out.1]; exact (List.getElem?_eq_some_iff.1 hq).1
              obtain ⟨y, hy⟩ : ∃ y, (stagesP p)[t + 1]? = some y := ⟨_, List.getElem?_eq_getElem (by rw [L1.out.1]; omega)⟩
              exact ((hall.out (t + 1) y (by omega) hy).2 (by omega)).1 q hq, fun t q hq => by
              have ht : t < n3 := by rw [← L3.out.1]; exact (List.getElem?_eq_some_iff.1 hq).1
              obtain ⟨y, hy⟩ : ∃ y, (stagesP p)[t + 1]? = some y := ⟨_, List.getElem?_eq_getElem (by rw [L1.out.1]; omega)⟩
              exact ((hall.out (t + 1) y (by omega) hy).2 (by omega)).2 q hq, fun t x hx => hpr.out t x (by rw [← L0.out.1]; exact (List.getElem?_eq_some_iff.1 hx).1) hx⟩
          go_wp2_with fail
          go_ret
          exact ⟨rfl, HA.out.trans (HBX.out.mono HA.out.size)⟩

end Go.Proofs.YtcooobnaocbdjaaGreat
