/-
  Pipes: the program's Left, Done and Next (mkpipi.py).
-/
import Derived.Test.YtcooobnaocbdjaaPipT
namespace Go.Proofs.Ytcooobnaocbdjaa
open Go.RowKit Go.Sort
set_option linter.unusedVariables false
set_option linter.unusedSimpArgs false

set_option maxRecDepth 100000 in
set_option maxHeartbeats 3200000 in
theorem implLeftS_c (w : World) (es : List Value) (x : dStage) (h : shStage.reads (Under w.heap.size) w es x) :
    Calls Try.prog 37 #[.agg es.toArray] w fun e w' => e = .returned (.int .i64 (leftS x)) ∧ Below w.heap.size w w' := by
  obtain ⟨a0, n0, c0, a1, n1, c1, a2, n2, c2, a3, n3, c3, a4, n4, c4, a5, n5, c5, a6, n6, c6, a7, n7, c7, a8, n8, c8, rfl, ⟨p0, r0, l0⟩, -⟩ := shStage_reads.1 h
  obtain ⟨q0, hq0⟩ : ∃ q, x.1 = q := ⟨_, rfl⟩
  obtain ⟨q3, hq3⟩ : ∃ q, x.2.2.2.1 = q := ⟨_, rfl⟩
  obtain ⟨q4, hq4⟩ : ∃ q, x.2.2.2.2.1 = q := ⟨_, rfl⟩
  obtain ⟨q12, hq12⟩ : ∃ q, x.2.2.2.2.2.2.2.2.2.2.2.2.1 = q := ⟨_, rfl⟩
  obtain ⟨q13, hq13⟩ : ∃ q, x.2.2.2.2.2.2.2.2.2.2.2.2.2 = q := ⟨_, rfl⟩
  rw [hq0, hq3, hq4, hq12, hq13]
  have HN : Hid ((planS x).length = n0) := Lib.hid l0.1
  have HP : Hid (pcS x = q0) := Lib.hid hq0
  have hn : n0 ≤ 9223372036854775807 := Nat.le_trans p0 r0
  have hal := (Below.refl w.heap.size w).alloc (Nat.le_refl _) (.cells #[.int .i64 q0, .slice a0 n0 c0, .slice a1 n1 c1, .bool q3, .bool q4, .slice a2 n2 c2, .slice a3 n3 c3, .slice a4 n4 c4, .slice a5 n5 c5, .slice a6 n6 c6, .slice a7 n7 c7, .slice a8 n8 c8, .int .i64 q12, .bool q13] 60 (0, 0))
  have hb0 := heap_alloc_new w (.cells #[.int .i64 q0, .slice a0 n0 c0, .slice a1 n1 c1, .bool q3, .bool q4, .slice a2 n2 c2, .slice a3 n3 c3, .slice a4 n4 c4, .slice a5 n5 c5, .slice a6 n6 c6, .slice a7 n7 c7, .slice a8 n8 c8, .int .i64 q12, .bool q13] 60 (0, 0))
  have HA := Lib.hid hal
  have HB0 := Lib.hid hb0
  obtain ⟨R, hR⟩ : ∃ R, leftS x = R := ⟨_, rfl⟩
  have HR := Lib.hid hR
  rw [hR]
  clear h l0 p0 r0 hq0 hq3 hq4 hq12 hq13 hal hb0 hR

  by_cases hm : 0 < q0
  · obtain ⟨D, hD⟩ : ∃ D, wrap64 ((n0 : Int) - q0) = D := ⟨_, rfl⟩
    have HD := Lib.hid hD
    have HM := Lib.hid hm
    by_cases hd : 0 < D
    · obtain rfl : R = D := by rw [← HR.out, leftS_pos HN.out (by rw [HP.out]; exact HM.out), HP.out, HD.out]; omega
      go_enter Try.func37, Try.ntmps37
      go_upto_region 1 with fail
      generalize w.alloc (.cells #[.int .i64 q0, .slice a0 n0 c0, .slice a1 n1 c1, .bool q3, .bool q4, .slice a2 n2 c2, .slice a3 n3 c3, .slice a4 n4 c4, .slice a5 n5 c5, .slice a6 n6 c6, .slice a7 n7 c7, .slice a8 n8 c8, .int .i64 q12, .bool q13] 60 (0, 0)) = wa at HA HB0 ⊢
      have z0 := boxs HB0.out 0 _ rfl
      have z1 := boxs HB0.out 1 _ rfl
      go_wp2_with fail
      go_ret
      exact ⟨rfl, HA.out⟩
    · obtain rfl : R = 0 := by rw [← HR.out, leftS_pos HN.out (by rw [HP.out]; exact HM.out), HP.out, HD.out]; omega
      go_enter Try.func37, Try.ntmps37
      go_upto_region 1 with fail
      generalize w.alloc (.cells #[.int .i64 q0, .slice a0 n0 c0, .slice a1 n1 c1, .bool q3, .bool q4, .slice a2 n2 c2, .slice a3 n3 c3, .slice a4 n4 c4, .slice a5 n5 c5, .slice a6 n6 c6, .slice a7 n7 c7, .slice a8 n8 c8, .int .i64 q12, .bool q13] 60 (0, 0)) = wa at HA HB0 ⊢
      have z0 := boxs HB0.out 0 _ rfl
      have z1 := boxs HB0.out 1 _ rfl
      go_wp2_with fail
      go_ret
      exact ⟨rfl, HA.out⟩
  · have HM := Lib.hid (show q0 ≤ 0 from by omega)
    have hRn : R = n0 := by rw [← HR.out, leftS_neg HN.out (by rw [HP.out]; exact HM.out) hn]
    by_cases hd : 0 < n0
    · subst hRn
      go_enter Try.func37, Try.ntmps37
      go_upto_region 1 with fail
      generalize w.alloc (.cells #[.int .i64 q0, .slice a0 n0 c0, .slice a1 n1 c1, .bool q3, .bool q4, .slice a2 n2 c2, .slice a3 n3 c3, .slice a4 n4 c4, .slice a5 n5 c5, .slice a6 n6 c6, .slice a7 n7 c7, .slice a8 n8 c8, .int .i64 q12, .bool q13] 60 (0, 0)) = wa at HA HB0 ⊢
      have z0 := boxs HB0.out 0 _ rfl
      have z1 := boxs HB0.out 1 _ rfl
      go_wp2_with fail
      go_ret
      exact ⟨rfl, HA.out⟩
    · obtain rfl : R = 0 := by omega
      clear hRn
      go_enter Try.func37, Try.ntmps37
      go_upto_region 1 with fail
      generalize w.alloc (.cells #[.int .i64 q0, .slice a0 n0 c0, .slice a1 n1 c1, .bool q3, .bool q4, .slice a2 n2 c2, .slice a3 n3 c3, .slice a4 n4 c4, .slice a5 n5 c5, .slice a6 n6 c6, .slice a7 n7 c7, .slice a8 n8 c8, .int .i64 q12, .bool q13] 60 (0, 0)) = wa at HA HB0 ⊢
      have z0 := boxs HB0.out 0 _ rfl
      have z1 := boxs HB0.out 1 _ rfl
      go_wp2_with fail
      go_ret
      exact ⟨rfl, HA.out⟩

/-- What one stage reads as, whole. -/
theorem stage_at {I : Nat → Prop} {w : World} {a : Option Addr} {n : Nat} {l : List dStage} (h : ListAt shStage I w a n l) (j : Nat) (hj : j < n) :
    ∃ b o x es, l[j]? = some x ∧ a = some ⟨b, o, none⟩ ∧ I b ∧ w.rangeAt b (o + j * 14) es ∧ shStage.reads I w es x := by
  obtain ⟨x, hx⟩ : ∃ x, l[j]? = some x := ⟨_, List.getElem?_eq_getElem (by rw [h.1]; exact hj)⟩
  obtain ⟨b, o, es, e, hb, hr, hs⟩ := h.2 j x hx
  rw [shStage_size] at hr
  exact ⟨b, o, x, es, hx, e, hb, hr, hs⟩

set_option maxRecDepth 100000 in
set_option maxHeartbeats 3200000 in
theorem implLeft_d (w : World) (es : List Value) (p : dPipe) (h : shPipe.reads (Under w.heap.size) w es p) (hb : shPipe.bulk p ≤ 1048576) :
    Calls Try.prog 15 #[.agg es.toArray] w fun e w' => e = .returned (.int .i64 (leftN p)) ∧ Below w.heap.size w w' := by
  obtain ⟨a0, n0, c0, a1, n1, c1, a2, n2, c2, a3, n3, c3, rfl, -, ⟨m1, l1, -⟩, -, -⟩ := pipe_in h hb
  obtain ⟨l, hl⟩ : ∃ l, stagesP p = l := ⟨_, rfl⟩
  obtain ⟨R, hR⟩ : ∃ R, leftN p = R := ⟨_, rfl⟩
  rw [hR]
  rw [hl] at l1
  have hRR : R = leftA l := by rw [← hR, ← hl]; rfl
  have hal := (Below.refl w.heap.size w).alloc (Nat.le_refl _) (.cells #[.slice a0 n0 c0, .slice a1 n1 c1, .slice a2 n2 c2, .slice a3 n3 c3] 35 (0, 0))
  have hb0 := heap_alloc_new w (.cells #[.slice a0 n0 c0, .slice a1 n1 c1, .slice a2 n2 c2, .slice a3 n3 c3] 35 (0, 0))
  have hs0 : w.heap.size < (w.alloc (.cells #[.slice a0 n0 c0, .slice a1 n1 c1, .slice a2 n2 c2, .slice a3 n3 c3] 35 (0, 0))).heap.size := by simp
  have HL := Lib.hid (l1.below hal (Nat.le_refl _))
  have HN := Lib.hid l1.1
  have HA := Lib.hid hal
  have HB0 := Lib.hid hb0
  have HR := Lib.hid hRR
  clear h hb hl hR hRR hal hb0 l1
  go_enter Try.func15, Try.ntmps15
  go_upto_region 1 with fail
  generalize w.alloc (.cells #[.slice a0 n0 c0, .slice a1 n1 c1, .slice a2 n2 c2, .slice a3 n3 c3] 35 (0, 0)) = wa at HL HA HB0 hs0 ⊢
  obtain ⟨-, z1, -, -⟩ := boxp HB0.out
  go_wp2_with fail
  go_loopw [3, 9] (fun t i wr => ∃ k : Nat, k ≤ n1 ∧ i = .int .i64 k ∧ t = .int .i64 (leftA (l.take k)) ∧ Below wa.heap.size wa wr) (fun _ i _ => n1 - (intOf i).toNat)
  case atStart => exact ⟨0, Nat.zero_le _, rfl, rfl, Below.refl _ _⟩
  case round =>
    obtain ⟨k, hk, rfl, rfl, hbw⟩ := hrel
    obtain ⟨T, hT⟩ : ∃ T, leftA (l.take k) = T := ⟨_, rfl⟩
    rw [hT]
    clear z1
    by_cases hlt : k < n1
    · obtain ⟨b, o, x, es, hx, rfl, hbB, hr, hs⟩ := stage_at HL.out k hlt
      have hbB' : b < wa.heap.size := Nat.lt_of_lt_of_le hbB HA.out.size
      have hr' := rangeAt_kept hr hbB' (Kept.of_below (I := Under wa.heap.size) hbw fun b hb => hb)
      have hs' := shStage.below hs hbw (Nat.le_of_lt hs0)
      obtain ⟨b0, nb0, cb0, b1, nb1, cb1, b2, nb2, cb2, b3, nb3, cb3, b4, nb4, cb4, b5, nb5, cb5, b6, nb6, cb6, b7, nb7, cb7, b8, nb8, cb8, rfl, -⟩ := shStage_reads.1 hs'
      have hsz := hbw.size
      have hal := hbw.trans (((Below.refl wr.heap.size wr).alloc (Nat.le_refl _) (.cells #[.int .i64 x.1, .slice b0 nb0 cb0, .slice b1 nb1 cb1, .bool x.2.2.2.1, .bool x.2.2.2.2.1, .slice b2 nb2 cb2, .slice b3 nb3 cb3, .slice b4 nb4 cb4, .slice b5 nb5 cb5, .slice b6 nb6 cb6, .slice b7 nb7 cb7, .slice b8 nb8 cb8, .int .i64 x.2.2.2.2.2.2.2.2.2.2.2.2.1, .bool x.2.2.2.2.2.2.2.2.2.2.2.2.2] 60 (0, 0))).mono hsz)
      have hb1 := heap_alloc_new wr (.cells #[.int .i64 x.1, .slice b0 nb0 cb0, .slice b1 nb1 cb1, .bool x.2.2.2.1, .bool x.2.2.2.2.1, .slice b2 nb2 cb2, .slice b3 nb3 cb3, .slice b4 nb4 cb4, .slice b5 nb5 cb5, .slice b6 nb6 cb6, .slice b7 nb7 cb7, .slice b8 nb8 cb8, .int .i64 x.2.2.2.2.2.2.2.2.2.2.2.2.1, .bool x.2.2.2.2.2.2.2.2.2.2.2.2.2] 60 (0, 0))
      have hgs : wr.heap.size < (wr.alloc (.cells #[.int .i64 x.1, .slice b0 nb0 cb0, .slice b1 nb1 cb1, .bool x.2.2.2.1, .bool x.2.2.2.2.1, .slice b2 nb2 cb2, .slice b3 nb3 cb3, .slice b4 nb4 cb4, .slice b5 nb5 cb5, .slice b6 nb6 cb6, .slice b7 nb7 cb7, .slice b8 nb8 cb8, .int .i64 x.2.2.2.2.2.2.2.2.2.2.2.2.1, .bool x.2.2.2.2.2.2.2.2.2.2.2.2.2] 60 (0, 0))).heap.size := by simp
      have hc := implLeftS_c (wr.alloc (.cells #[.int .i64 x.1, .slice b0 nb0 cb0, .slice b1 nb1 cb1, .bool x.2.2.2.1, .bool x.2.2.2.2.1, .slice b2 nb2 cb2, .slice b3 nb3 cb3, .slice b4 nb4 cb4, .slice b5 nb5 cb5, .slice b6 nb6 cb6, .slice b7 nb7 cb7, .slice b8 nb8 cb8, .int .i64 x.2.2.2.2.2.2.2.2.2.2.2.2.1, .bool x.2.2.2.2.2.2.2.2.2.2.2.2.2] 60 (0, 0))) _ x (shStage.le (shStage.below hs' ((Below.refl wr.heap.size wr).alloc (Nat.le_refl _) (.cells #[.int .i64 x.1, .slice b0 nb0 cb0, .slice b1 nb1 cb1, .bool x.2.2.2.1, .bool x.2.2.2.2.1, .slice b2 nb2 cb2, .slice b3 nb3 cb3, .slice b4 nb4 cb4, .slice b5 nb5 cb5, .slice b6 nb6 cb6, .slice b7 nb7 cb7, .slice b8 nb8 cb8, .int .i64 x.2.2.2.2.2.2.2.2.2.2.2.2.1, .bool x.2.2.2.2.2.2.2.2.2.2.2.2.2] 60 (0, 0))) (by omega)) (by omega))
      have hnext := leftA_next hx
      rw [hT] at hnext
      have c100 := hr' 0 _ rfl
      have c101 := hr' 1 _ rfl
      have c102 := hr' 2 _ rfl
      have c103 := hr' 3 _ rfl
      have c104 := hr' 4 _ rfl
      have c105 := hr' 5 _ rfl
      have c106 := hr' 6 _ rfl
      have c107 := hr' 7 _ rfl
      have c108 := hr' 8 _ rfl
      have c109 := hr' 9 _ rfl
      have c110 := hr' 10 _ rfl
      have c111 := hr' 11 _ rfl
      have c112 := hr' 12 _ rfl
      have c113 := hr' 13 _ rfl
      simp only [Nat.add_zero] at c100
      obtain ⟨LS, hLS⟩ : ∃ LS, leftS x = LS := ⟨_, rfl⟩
      rw [hLS] at hc hnext
      have HC := Lib.hid hc
      have HNX := Lib.hid hnext
      have HAL := Lib.hid hal
      have HB1 := Lib.hid hb1
      clear hr hs hr' hs' hx hT hbw hal hb1 hc hnext hLS hsz
      go_upto_region 5 with fail
      clear c100 c101 c102 c103 c104 c105 c106 c107 c108 c109 c110 c111 c112 c113
      generalize wr.alloc (.cells #[.int .i64 x.1, .slice b0 nb0 cb0, .slice b1 nb1 cb1, .bool x.2.2.2.1, .bool x.2.2.2.2.1, .slice b2 nb2 cb2, .slice b3 nb3 cb3, .slice b4 nb4 cb4, .slice b5 nb5 cb5, .slice b6 nb6 cb6, .slice b7 nb7 cb7, .slice b8 nb8 cb8, .int .i64 x.2.2.2.2.2.2.2.2.2.2.2.2.1, .bool x.2.2.2.2.2.2.2.2.2.2.2.2.2] 60 (0, 0)) = wb at HC HAL HB1 hgs ⊢
      have z0 := boxs HB1.out 0 _ rfl
      have z1 := boxs HB1.out 1 _ rfl
      have z2 := boxs HB1.out 2 _ rfl
      have z3 := boxs HB1.out 3 _ rfl
      have z4 := boxs HB1.out 4 _ rfl
      have z5 := boxs HB1.out 5 _ rfl
      have z6 := boxs HB1.out 6 _ rfl
      have z7 := boxs HB1.out 7 _ rfl
      have z8 := boxs HB1.out 8 _ rfl
      have z9 := boxs HB1.out 9 _ rfl
      have z10 := boxs HB1.out 10 _ rfl
      have z11 := boxs HB1.out 11 _ rfl
      have z12 := boxs HB1.out 12 _ rfl
      have z13 := boxs HB1.out 13 _ rfl
      go_wp2_with fail
      clear z0 z1 z2 z3 z4 z5 z6 z7 z8 z9 z10 z11 z12 z13
      refine HC.out.mono ?_
      rintro e w2 ⟨rfl, hb2⟩
      have HW := Lib.hid (HAL.out.trans (hb2.mono HAL.out.size))
      clear hb2
      go_wp2_with fail
      go_round
      case rel => exact ⟨k + 1, by omega, by go_num, by rw [HNX.out], HW.out⟩
      case measure => simp [intOf]; omega
    · obtain rfl : k = n1 := by omega
      have hfin : R = T := by rw [HR.out, ← hT, List.take_of_length_le (Nat.le_of_eq HN.out)]
      subst hfin
      have HWW := Lib.hid (HA.out.trans (hbw.mono HA.out.size))
      clear hbw hT
      go_wp2_with fail
      go_ret
      exact ⟨rfl, HWW.out⟩

set_option maxRecDepth 100000 in
set_option maxHeartbeats 3200000 in
theorem implDone_d (w : World) (es : List Value) (p : dPipe) (h : shPipe.reads (Under w.heap.size) w es p) (hb : shPipe.bulk p ≤ 1048576) :
    Calls Try.prog 17 #[.agg es.toArray] w fun e w' => e = .returned (.bool (doneB p)) ∧ Below w.heap.size w w' := by
  obtain ⟨a0, n0, c0, a1, n1, c1, a2, n2, c2, a3, n3, c3, rfl, -, ⟨m1, l1, -⟩, -, -⟩ := pipe_in h hb
  have hal := (Below.refl w.heap.size w).alloc (Nat.le_refl _) (.cells #[.slice a0 n0 c0, .slice a1 n1 c1, .slice a2 n2 c2, .slice a3 n3 c3] 35 (0, 0))
  have hb0 := heap_alloc_new w (.cells #[.slice a0 n0 c0, .slice a1 n1 c1, .slice a2 n2 c2, .slice a3 n3 c3] 35 (0, 0))
  obtain ⟨V, hV⟩ : ∃ V, leftN p = V := ⟨_, rfl⟩
  have HC := Lib.hid (hV ▸ implLeft_d _ _ p (shPipe.le (shPipe.below h hal (Nat.le_refl _)) hal.size) hb)
  have HA := Lib.hid hal
  have HB0 := Lib.hid hb0
  have hR : doneB p = (decide (0 < n1) && decide (V = 0)) := by unfold doneB; rw [hV, l1.1]
  rw [hR]
  clear h hb hV hR hal hb0 l1
  by_cases h0 : 0 < n1
  · rw [decide_eq_true h0, Bool.true_and]
    go_enter Try.func17, Try.ntmps17
    go_upto_region 1 with fail
    generalize w.alloc (.cells #[.slice a0 n0 c0, .slice a1 n1 c1, .slice a2 n2 c2, .slice a3 n3 c3] 35 (0, 0)) = wa at HA HB0 HC ⊢
    obtain ⟨z0, z1, z2, z3⟩ := boxp HB0.out
    go_wp2_with fail
    refine HC.out.mono ?_
    rintro e w' ⟨rfl, hb⟩
    have HB := Lib.hid (HA.out.trans (hb.mono HA.out.size))
    clear hb
    go_wp2_with fail
    go_ret
    exact ⟨rfl, HB.out⟩
  · have hd : decide ((n1 : Int) > 0) = false := decide_eq_false (by omega)
    rw [decide_eq_false h0, Bool.false_and]
    go_enter Try.func17, Try.ntmps17
    go_upto_region 1 with fail
    generalize w.alloc (.cells #[.slice a0 n0 c0, .slice a1 n1 c1, .slice a2 n2 c2, .slice a3 n3 c3] 35 (0, 0)) = wa at HA HB0 HC ⊢
    obtain ⟨z0, z1, z2, z3⟩ := boxp HB0.out
    go_wp2_with fail
    go_ret
    exact ⟨rfl, HA.out⟩
set_option maxRecDepth 100000 in
set_option maxHeartbeats 3200000 in
theorem implNextS_c (w : World) (es : List Value) (x : dStage) (h : shStage.reads (Under w.heap.size) w es x) :
    Calls Try.prog 33 #[.agg es.toArray] w fun e w' => e = .returned (.agg #[.int .i64 (nextS x).1, .int .i64 (nextS x).2]) ∧ Below w.heap.size w w' := by
  obtain ⟨a0, n0, c0, a1, n1, c1, a2, n2, c2, a3, n3, c3, a4, n4, c4, a5, n5, c5, a6, n6, c6, a7, n7, c7, a8, n8, c8, rfl, ⟨p0, r0, l0⟩, -⟩ := shStage_reads.1 h
  obtain ⟨q0, hq0⟩ : ∃ q, x.1 = q := ⟨_, rfl⟩
  obtain ⟨q3, hq3⟩ : ∃ q, x.2.2.2.1 = q := ⟨_, rfl⟩
  obtain ⟨q4, hq4⟩ : ∃ q, x.2.2.2.2.1 = q := ⟨_, rfl⟩
  obtain ⟨q12, hq12⟩ : ∃ q, x.2.2.2.2.2.2.2.2.2.2.2.2.1 = q := ⟨_, rfl⟩
  obtain ⟨q13, hq13⟩ : ∃ q, x.2.2.2.2.2.2.2.2.2.2.2.2.2 = q := ⟨_, rfl⟩
  rw [hq0, hq3, hq4, hq12, hq13]
  have hal := ((Below.refl w.heap.size w).alloc (Nat.le_refl _) (.cells #[.int .i64 q0, .slice a0 n0 c0, .slice a1 n1 c1, .bool q3, .bool q4, .slice a2 n2 c2, .slice a3 n3 c3, .slice a4 n4 c4, .slice a5 n5 c5, .slice a6 n6 c6, .slice a7 n7 c7, .slice a8 n8 c8, .int .i64 q12, .bool q13] 60 (0, 0))).alloc (by simp) (.cells #[.int .i64 0, .int .i64 0] 29 (0, 0))
  have hA : ((w.alloc (.cells #[.int .i64 q0, .slice a0 n0 c0, .slice a1 n1 c1, .bool q3, .bool q4, .slice a2 n2 c2, .slice a3 n3 c3, .slice a4 n4 c4, .slice a5 n5 c5, .slice a6 n6 c6, .slice a7 n7 c7, .slice a8 n8 c8, .int .i64 q12, .bool q13] 60 (0, 0))).alloc (.cells #[.int .i64 0, .int .i64 0] 29 (0, 0))).heap[w.heap.size]? = some (.cells #[.int .i64 q0, .slice a0 n0 c0, .slice a1 n1 c1, .bool q3, .bool q4, .slice a2 n2 c2, .slice a3 n3 c3, .slice a4 n4 c4, .slice a5 n5 c5, .slice a6 n6 c6, .slice a7 n7 c7, .slice a8 n8 c8, .int .i64 q12, .bool q13] 60 (0, 0)) := by
    rw [Below.heap_alloc _ _ _ (by simp)]
    exact heap_alloc_new w _
  have hC : ((w.alloc (.cells #[.int .i64 q0, .slice a0 n0 c0, .slice a1 n1 c1, .bool q3, .bool q4, .slice a2 n2 c2, .slice a3 n3 c3, .slice a4 n4 c4, .slice a5 n5 c5, .slice a6 n6 c6, .slice a7 n7 c7, .slice a8 n8 c8, .int .i64 q12, .bool q13] 60 (0, 0))).alloc (.cells #[.int .i64 0, .int .i64 0] 29 (0, 0))).heap[w.heap.size + 1]? = some (.cells #[.int .i64 0, .int .i64 0] 29 (0, 0)) := by
    have := heap_alloc_new (w.alloc (.cells #[.int .i64 q0, .slice a0 n0 c0, .slice a1 n1 c1, .bool q3, .bool q4, .slice a2 n2 c2, .slice a3 n3 c3, .slice a4 n4 c4, .slice a5 n5 c5, .slice a6 n6 c6, .slice a7 n7 c7, .slice a8 n8 c8, .int .i64 q12, .bool q13] 60 (0, 0))) (.cells #[.int .i64 0, .int .i64 0] 29 (0, 0))
    simpa using this
  have HA := Lib.hid hal
  have HBA := Lib.hid hA
  have HBC := Lib.hid hC
  have HL := Lib.hid (l0.below hal (Nat.le_refl _))
  have HN : Hid ((planS x).length = n0) := Lib.hid l0.1
  have HP : Hid (pcS x = q0) := Lib.hid hq0
  have hn : n0 ≤ 9223372036854775807 := Nat.le_trans p0 r0
  clear h l0 p0 r0 hq0 hq3 hq4 hq12 hq13 hal hA hC

  by_cases hm : q0 < 0
  · skip
    have hno : nextS x = (0, 0) := by unfold nextS; rw [HN.out, HP.out, show inB 0 ((n0 : Int) - 1) q0 = false from decide_eq_false (by omega)]; rfl
    rw [hno]
    clear hno
    go_enter Try.func33, Try.ntmps33
    go_upto_region 1 with fail
    generalize ((w.alloc (.cells #[.int .i64 q0, .slice a0 n0 c0, .slice a1 n1 c1, .bool q3, .bool q4, .slice a2 n2 c2, .slice a3 n3 c3, .slice a4 n4 c4, .slice a5 n5 c5, .slice a6 n6 c6, .slice a7 n7 c7, .slice a8 n8 c8, .int .i64 q12, .bool q13] 60 (0, 0))).alloc (.cells #[.int .i64 0, .int .i64 0] 29 (0, 0))) = wa at HA HBA HBC HL ⊢
    have z0 := boxs HBA.out 0 _ rfl
    have z1 := boxs HBA.out 1 _ rfl
    obtain ⟨y0, y1⟩ := boxi HBC.out
    have f0 : wa.frozen? ⟨w.heap.size + 1, 0, none⟩ = false := frozen_of_row _ _ _ _ _ HBC.out
    have f1 : wa.frozen? ⟨w.heap.size + 1, 1, none⟩ = false := frozen_of_row _ _ _ _ _ HBC.out
    go_wp2_with fail
    refine bodyPost_ret (results_cell_row rfl _ _ (w.heap.size + 1) 29 #[.int .i64 0, .int .i64 0] (0, 0) _ rfl (store2 (by exact HBC.out) _ _) Try.underlying29 rfl (by kernel_rfl)) rfl ?_
    exact ⟨rfl, (HA.out.setCell (p := ⟨w.heap.size + 1, 0, none⟩) (by show w.heap.size ≤ w.heap.size + 1; omega) _).setCell (p := ⟨w.heap.size + 1, 1, none⟩) (by show w.heap.size ≤ w.heap.size + 1; omega) _⟩
  · by_cases hge : (n0 : Int) ≤ q0
    · skip
      have hno : nextS x = (0, 0) := by unfold nextS; rw [HN.out, HP.out, show inB 0 ((n0 : Int) - 1) q0 = false from decide_eq_false (by omega)]; rfl
      rw [hno]
      clear hno
      go_enter Try.func33, Try.ntmps33
      go_upto_region 1 with fail
      generalize ((w.alloc (.cells #[.int .i64 q0, .slice a0 n0 c0, .slice a1 n1 c1, .bool q3, .bool q4, .slice a2 n2 c2, .slice a3 n3 c3, .slice a4 n4 c4, .slice a5 n5 c5, .slice a6 n6 c6, .slice a7 n7 c7, .slice a8 n8 c8, .int .i64 q12, .bool q13] 60 (0, 0))).alloc (.cells #[.int .i64 0, .int .i64 0] 29 (0, 0))) = wa at HA HBA HBC HL ⊢
      have z0 := boxs HBA.out 0 _ rfl
      have z1 := boxs HBA.out 1 _ rfl
      obtain ⟨y0, y1⟩ := boxi HBC.out
      have f0 : wa.frozen? ⟨w.heap.size + 1, 0, none⟩ = false := frozen_of_row _ _ _ _ _ HBC.out
      have f1 : wa.frozen? ⟨w.heap.size + 1, 1, none⟩ = false := frozen_of_row _ _ _ _ _ HBC.out
      go_wp2_with fail
      refine bodyPost_ret (results_cell_row rfl _ _ (w.heap.size + 1) 29 #[.int .i64 0, .int .i64 0] (0, 0) _ rfl (store2 (by exact HBC.out) _ _) Try.underlying29 rfl (by kernel_rfl)) rfl ?_
      exact ⟨rfl, (HA.out.setCell (p := ⟨w.heap.size + 1, 0, none⟩) (by show w.heap.size ≤ w.heap.size + 1; omega) _).setCell (p := ⟨w.heap.size + 1, 1, none⟩) (by show w.heap.size ≤ w.heap.size + 1; omega) _⟩
    · obtain ⟨j, rfl⟩ : ∃ j : Nat, q0 = (j : Int) := ⟨q0.toNat, by omega⟩
      have hj : j < n0 := by omega
      have hyes : nextS x = (planS x).getD j (0, 0) := by unfold nextS; rw [HN.out, HP.out, show inB 0 ((n0 : Int) - 1) (j : Int) = true from decide_eq_true (by omega), if_pos rfl, Int.toNat_natCast]
      rw [hyes]
      obtain ⟨b, o, rfl, hbB, g0, g1⟩ := plan_at HL.out j hj
      obtain ⟨U, hU⟩ : ∃ U, ((planS x).getD j (0, 0)).1 = U := ⟨_, rfl⟩
      obtain ⟨V, hV⟩ : ∃ V, ((planS x).getD j (0, 0)).2 = V := ⟨_, rfl⟩
      rw [hU, hV]
      rw [hU] at g0
      rw [hV] at g1
      clear hyes hU hV HL
      go_enter Try.func33, Try.ntmps33
      go_upto_region 1 with fail
      generalize ((w.alloc (.cells #[.int .i64 (j : Int), .slice (some ⟨b, o, none⟩) n0 c0, .slice a1 n1 c1, .bool q3, .bool q4, .slice a2 n2 c2, .slice a3 n3 c3, .slice a4 n4 c4, .slice a5 n5 c5, .slice a6 n6 c6, .slice a7 n7 c7, .slice a8 n8 c8, .int .i64 q12, .bool q13] 60 (0, 0))).alloc (.cells #[.int .i64 0, .int .i64 0] 29 (0, 0))) = wa at HA HBA HBC g0 g1 ⊢
      have z0 := boxs HBA.out 0 _ rfl
      have z1 := boxs HBA.out 1 _ rfl
      obtain ⟨y0, y1⟩ := boxi HBC.out
      have f0 : wa.frozen? ⟨w.heap.size + 1, 0, none⟩ = false := frozen_of_row _ _ _ _ _ HBC.out
      have f1 : wa.frozen? ⟨w.heap.size + 1, 1, none⟩ = false := frozen_of_row _ _ _ _ _ HBC.out
      go_wp2_with fail
      refine bodyPost_ret (results_cell_row rfl _ _ (w.heap.size + 1) 29 #[.int .i64 U, .int .i64 V] (0, 0) _ rfl (store2 (by exact HBC.out) _ _) Try.underlying29 rfl (by kernel_rfl)) rfl ?_
      exact ⟨rfl, (HA.out.setCell (p := ⟨w.heap.size + 1, 0, none⟩) (by show w.heap.size ≤ w.heap.size + 1; omega) _).setCell (p := ⟨w.heap.size + 1, 1, none⟩) (by show w.heap.size ≤ w.heap.size + 1; omega) _⟩

set_option maxRecDepth 100000 in
set_option maxHeartbeats 3200000 in
theorem implNext_d (w : World) (es : List Value) (p : dPipe) (h : shPipe.reads (Under w.heap.size) w es p) (hb : shPipe.bulk p ≤ 1048576) (s : Int) :
    Calls Try.prog 11 #[.agg es.toArray, .int .i64 s] w fun e w' => e = .returned (.agg #[.int .i64 (nextN p s).1, .int .i64 (nextN p s).2]) ∧ Below w.heap.size w w' := by
  obtain ⟨a0, n0, c0, a1, n1, c1, a2, n2, c2, a3, n3, c3, rfl, -, ⟨m1, l1, -⟩, -, -⟩ := pipe_in h hb
  have hal := ((Below.refl w.heap.size w).alloc (Nat.le_refl _) (.cells #[.slice a0 n0 c0, .slice a1 n1 c1, .slice a2 n2 c2, .slice a3 n3 c3] 35 (0, 0))).alloc (by simp) (.cells #[.int .i64 0, .int .i64 0] 29 (0, 0))
  have hA : ((w.alloc (.cells #[.slice a0 n0 c0, .slice a1 n1 c1, .slice a2 n2 c2, .slice a3 n3 c3] 35 (0, 0))).alloc (.cells #[.int .i64 0, .int .i64 0] 29 (0, 0))).heap[w.heap.size]? = some (.cells #[.slice a0 n0 c0, .slice a1 n1 c1, .slice a2 n2 c2, .slice a3 n3 c3] 35 (0, 0)) := by
    rw [Below.heap_alloc _ _ _ (by simp)]
    exact heap_alloc_new w _
  have hC : ((w.alloc (.cells #[.slice a0 n0 c0, .slice a1 n1 c1, .slice a2 n2 c2, .slice a3 n3 c3] 35 (0, 0))).alloc (.cells #[.int .i64 0, .int .i64 0] 29 (0, 0))).heap[w.heap.size + 1]? = some (.cells #[.int .i64 0, .int .i64 0] 29 (0, 0)) := by
    have := heap_alloc_new (w.alloc (.cells #[.slice a0 n0 c0, .slice a1 n1 c1, .slice a2 n2 c2, .slice a3 n3 c3] 35 (0, 0))) (.cells #[.int .i64 0, .int .i64 0] 29 (0, 0))
    simpa using this
  have HA := Lib.hid hal
  have HBA := Lib.hid hA
  have HBC := Lib.hid hC
  have HL := Lib.hid (l1.below hal (Nat.le_refl _))
  obtain ⟨l, hl⟩ : ∃ l, stagesP p = l := ⟨_, rfl⟩
  rw [hl] at HL
  have hn : n1 = l.length := by rw [← hl]; exact l1.1.symm
  have HNX : Hid (nextN p s = if inB 0 ((n1 : Int) - 1) s = true then nextS (stageAt p s.toNat) else (0, 0)) := Lib.hid (by unfold nextN; rw [hl, hn])
  have HPL := Lib.hid hl
  clear h hb hal hA hC l1 hn hl

  by_cases hm : s < 0
  · skip
    have hno : nextN p s = (0, 0) := by rw [HNX.out, show inB 0 ((n1 : Int) - 1) s = false from decide_eq_false (by omega)]; rfl
    rw [hno]
    clear hno
    go_enter Try.func11, Try.ntmps11
    go_upto_region 1 with fail
    generalize ((w.alloc (.cells #[.slice a0 n0 c0, .slice a1 n1 c1, .slice a2 n2 c2, .slice a3 n3 c3] 35 (0, 0))).alloc (.cells #[.int .i64 0, .int .i64 0] 29 (0, 0))) = wa at HA HBA HBC HL ⊢
    obtain ⟨z0, z1, z2, z3⟩ := boxp HBA.out
    obtain ⟨y0, y1⟩ := boxi HBC.out
    have f0 : wa.frozen? ⟨w.heap.size + 1, 0, none⟩ = false := frozen_of_row _ _ _ _ _ HBC.out
    have f1 : wa.frozen? ⟨w.heap.size + 1, 1, none⟩ = false := frozen_of_row _ _ _ _ _ HBC.out
    go_wp2_with fail
    refine bodyPost_ret (results_cell_row rfl _ _ (w.heap.size + 1) 29 #[.int .i64 0, .int .i64 0] (0, 0) _ rfl (store2 (by exact HBC.out) _ _) Try.underlying29 rfl (by kernel_rfl)) rfl ?_
    exact ⟨rfl, (HA.out.setCell (p := ⟨w.heap.size + 1, 0, none⟩) (by show w.heap.size ≤ w.heap.size + 1; omega) _).setCell (p := ⟨w.heap.size + 1, 1, none⟩) (by show w.heap.size ≤ w.heap.size + 1; omega) _⟩
  · by_cases hge : (n1 : Int) ≤ s
    · skip
      have hno : nextN p s = (0, 0) := by rw [HNX.out, show inB 0 ((n1 : Int) - 1) s = false from decide_eq_false (by omega)]; rfl
      rw [hno]
      clear hno
      go_enter Try.func11, Try.ntmps11
      go_upto_region 1 with fail
      generalize ((w.alloc (.cells #[.slice a0 n0 c0, .slice a1 n1 c1, .slice a2 n2 c2, .slice a3 n3 c3] 35 (0, 0))).alloc (.cells #[.int .i64 0, .int .i64 0] 29 (0, 0))) = wa at HA HBA HBC HL ⊢
      obtain ⟨z0, z1, z2, z3⟩ := boxp HBA.out
      obtain ⟨y0, y1⟩ := boxi HBC.out
      have f0 : wa.frozen? ⟨w.heap.size + 1, 0, none⟩ = false := frozen_of_row _ _ _ _ _ HBC.out
      have f1 : wa.frozen? ⟨w.heap.size + 1, 1, none⟩ = false := frozen_of_row _ _ _ _ _ HBC.out
      go_wp2_with fail
      refine bodyPost_ret (results_cell_row rfl _ _ (w.heap.size + 1) 29 #[.int .i64 0, .int .i64 0] (0, 0) _ rfl (store2 (by exact HBC.out) _ _) Try.underlying29 rfl (by kernel_rfl)) rfl ?_
      exact ⟨rfl, (HA.out.setCell (p := ⟨w.heap.size + 1, 0, none⟩) (by show w.heap.size ≤ w.heap.size + 1; omega) _).setCell (p := ⟨w.heap.size + 1, 1, none⟩) (by show w.heap.size ≤ w.heap.size + 1; omega) _⟩
    · obtain ⟨k, rfl⟩ : ∃ k : Nat, s = (k : Int) := ⟨s.toNat, by omega⟩
      have hk : k < n1 := by omega
      obtain ⟨b, o, x, es, hx, rfl, hbB, hr, hs⟩ := stage_at HL.out k hk
      have hst : nextN p (k : Int) = nextS x := by rw [HNX.out, show inB 0 ((n1 : Int) - 1) (k : Int) = true from decide_eq_true (by omega), if_pos rfl, Int.toNat_natCast, stageAt_get (by rw [HPL.out]; exact hx)]
      rw [hst]
      have hc := implNextS_c _ es x (shStage.le hs HA.out.size)
      obtain ⟨b0, nb0, cb0, b1, nb1, cb1, b2, nb2, cb2, b3, nb3, cb3, b4, nb4, cb4, b5, nb5, cb5, b6, nb6, cb6, b7, nb7, cb7, b8, nb8, cb8, rfl, -⟩ := shStage_reads.1 hs
      obtain ⟨U, hU⟩ : ∃ U, (nextS x).1 = U := ⟨_, rfl⟩
      obtain ⟨V, hV⟩ : ∃ V, (nextS x).2 = V := ⟨_, rfl⟩
      rw [hU, hV] at hc ⊢
      have HC := Lib.hid hc
      have c100 := hr 0 _ rfl
      have c101 := hr 1 _ rfl
      have c102 := hr 2 _ rfl
      have c103 := hr 3 _ rfl
      have c104 := hr 4 _ rfl
      have c105 := hr 5 _ rfl
      have c106 := hr 6 _ rfl
      have c107 := hr 7 _ rfl
      have c108 := hr 8 _ rfl
      have c109 := hr 9 _ rfl
      have c110 := hr 10 _ rfl
      have c111 := hr 11 _ rfl
      have c112 := hr 12 _ rfl
      have c113 := hr 13 _ rfl
      simp only [Nat.add_zero] at c100
      clear hr hs hx hst hU hV hc HNX
      go_enter Try.func11, Try.ntmps11
      go_upto_region 1 with fail
      generalize ((w.alloc (.cells #[.slice a0 n0 c0, .slice (some ⟨b, o, none⟩) n1 c1, .slice a2 n2 c2, .slice a3 n3 c3] 35 (0, 0))).alloc (.cells #[.int .i64 0, .int .i64 0] 29 (0, 0))) = wa at HA HBA HBC HL HC c100 c101 c102 c103 c104 c105 c106 c107 c108 c109 c110 c111 c112 c113 ⊢
      obtain ⟨z0, z1, z2, z3⟩ := boxp HBA.out
      go_wp2_with fail
      clear c100 c101 c102 c103 c104 c105 c106 c107 c108 c109 c110 c111 c112 c113
      refine HC.out.mono ?_
      rintro e w1 ⟨rfl, hb⟩
      have HB := Lib.hid (HA.out.trans (hb.mono HA.out.size))
      have K1 := Lib.hid ((hb.block (w.heap.size + 1) (Array.getElem?_eq_some_iff.1 HBC.out).1).trans HBC.out)
      clear hb
      obtain ⟨y0, y1⟩ := boxi K1.out
      have f0 : w1.frozen? ⟨w.heap.size + 1, 0, none⟩ = false := frozen_of_row _ _ _ _ _ K1.out
      have f1 : w1.frozen? ⟨w.heap.size + 1, 1, none⟩ = false := frozen_of_row _ _ _ _ _ K1.out
      go_wp2_with fail
      refine bodyPost_ret (results_cell_row rfl _ _ (w.heap.size + 1) 29 #[.int .i64 U, .int .i64 V] (0, 0) _ rfl (store2 (by exact K1.out) _ _) Try.underlying29 rfl (by kernel_rfl)) rfl ?_
      exact ⟨rfl, (HB.out.setCell (p := ⟨w.heap.size + 1, 0, none⟩) (by show w.heap.size ≤ w.heap.size + 1; omega) _).setCell (p := ⟨w.heap.size + 1, 1, none⟩) (by show w.heap.size ≤ w.heap.size + 1; omega) _⟩

end Go.Proofs.Ytcooobnaocbdjaa
