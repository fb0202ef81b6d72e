/-
  Data with depth: more of the laws' types.
-/
import Derived.Test.YtcooobnaocbdjaaJoin8
import Derived.Test.YtcooobnaocbdjaaJoin11
namespace Go.Proofs.Ytcooobnaocbdjaa
open Go.RowKit Go.Sort
set_option linter.unusedVariables false
set_option linter.unusedSimpArgs false


abbrev dPipe := List dPair × List dStage × List dQueue × List dQueue
def shPipe : Shape dPipe := .struct (.cons (Shape.list shPair) (.cons (Shape.list shStage) (.cons (Shape.list shQueue) (.last (Shape.list shQueue)))))
theorem shPipe_reads {I : Nat → Prop} {w : World} {cs : List Value} {d : dPipe} : shPipe.reads I w cs d ↔ ∃ a0 n0 c0 a1 n1 c1 a2 n2 c2 a3 n3 c3, cs = [.slice a0 n0 c0, .slice a1 n1 c1, .slice a2 n2 c2, .slice a3 n3 c3] ∧ (n0 ≤ c0 ∧ c0 ≤ 9223372036854775807 ∧ ListAt shPair I w a0 n0 d.1) ∧ (n1 ≤ c1 ∧ c1 ≤ 9223372036854775807 ∧ ListAt shStage I w a1 n1 d.2.1) ∧ (n2 ≤ c2 ∧ c2 ≤ 9223372036854775807 ∧ ListAt shQueue I w a2 n2 d.2.2.1) ∧ (n3 ≤ c3 ∧ c3 ≤ 9223372036854775807 ∧ ListAt shQueue I w a3 n3 d.2.2.2) := by
  constructor
  · rintro ⟨_, _, rfl, ⟨a0, n0, c0, rfl, g0⟩, _, _, rfl, ⟨a1, n1, c1, rfl, g1⟩, _, _, rfl, ⟨a2, n2, c2, rfl, g2⟩, ⟨a3, n3, c3, rfl, g3⟩⟩
    exact ⟨a0, n0, c0, a1, n1, c1, a2, n2, c2, a3, n3, c3, rfl, g0, g1, g2, g3⟩
  · rintro ⟨a0, n0, c0, a1, n1, c1, a2, n2, c2, a3, n3, c3, rfl, g0, g1, g2, g3⟩
    exact ⟨_, _, rfl, ⟨a0, n0, c0, rfl, g0⟩, _, _, rfl, ⟨a1, n1, c1, rfl, g1⟩, _, _, rfl, ⟨a2, n2, c2, rfl, g2⟩, ⟨a3, n3, c3, rfl, g3⟩⟩
theorem shPipe_bulk (d : dPipe) : shPipe.bulk d = (Shape.list shPair).bulk d.1 + (Shape.list shStage).bulk d.2.1 + (Shape.list shQueue).bulk d.2.2.1 + (Shape.list shQueue).bulk d.2.2.2 := by
  simp only [shPipe, Shape.struct, FieldsOf.cons, FieldsOf.last, Shape.int, Shape.bool]
  try omega
def smallPipe (d : dPipe) : Prop := (Shape.list shPair).bulk d.1 ≤ 1048576 ∧ looseStageS d.2.1 ∧ (Shape.list shQueue).bulk d.2.2.1 ≤ 1048576 ∧ (Shape.list shQueue).bulk d.2.2.2 ≤ 1048576
theorem smallPipe_of {d : dPipe} (h : shPipe.bulk d ≤ 1048576) : smallPipe d := by
  rw [shPipe_bulk] at h
  exact ⟨by omega, looseStageS_of (by omega), by omega, by omega⟩
set_option maxRecDepth 100000 in
theorem szPipe_c (w : World) (B : Nat) (es : List Value) (x : dPipe) (L : Int) (h : shPipe.reads (Under B) w es x) (hB : B ≤ w.heap.size) (h0 : 0 ≤ L) (h1 : L ≤ 1048576) :
    Calls Try.prog 8 #[.agg es.toArray, .int .i64 L] w fun e w' => e = .returned (.int .i64 (szN (shPipe.bulk x) L)) ∧ Below w.heap.size w w' := by
  obtain ⟨a0, n0, c0, a1, n1, c1, a2, n2, c2, a3, n3, c3, rfl, ⟨p0, r0, l0⟩, ⟨p1, r1, l1⟩, ⟨p2, r2, l2⟩, ⟨p3, r3, l3⟩⟩ := shPipe_reads.1 h
  rw [shPipe_bulk]
  have ha := (Below.refl w.heap.size w).alloc (Nat.le_refl _) (.cells #[.slice a0 n0 c0, .slice a1 n1 c1, .slice a2 n2 c2, .slice a3 n3 c3] 26 (0, 0))
  have hb0 := heap_alloc_new w (.cells #[.slice a0 n0 c0, .slice a1 n1 c1, .slice a2 n2 c2, .slice a3 n3 c3] 26 (0, 0))
  have hs0 : w.heap.size < (w.alloc (.cells #[.slice a0 n0 c0, .slice a1 n1 c1, .slice a2 n2 c2, .slice a3 n3 c3] 26 (0, 0))).heap.size := by simp
  have H0 := fun (w1 : World) (hb : Below w.heap.size w w1) (V : Int) (g0 : 0 ≤ V) (g1 : V ≤ 1048576) => szPairS_c w1 B a0 n0 c0 _ V (l0.below hb hB) (Nat.le_trans hB hb.size) (by omega) g0 g1
  obtain ⟨u0, hu0⟩ : ∃ u, (Shape.list shPair).bulk x.1 = u := ⟨_, rfl⟩
  simp only [hu0] at H0 ⊢
  have H1 := fun (w1 : World) (hb : Below w.heap.size w w1) (V : Int) (g0 : 0 ≤ V) (g1 : V ≤ 1048576) => szStageS_c w1 B a1 n1 c1 _ V (l1.below hb hB) (Nat.le_trans hB hb.size) (by omega) g0 g1
  obtain ⟨u1, hu1⟩ : ∃ u, (Shape.list shStage).bulk x.2.1 = u := ⟨_, rfl⟩
  simp only [hu1] at H1 ⊢
  have H2 := fun (w1 : World) (hb : Below w.heap.size w w1) (V : Int) (g0 : 0 ≤ V) (g1 : V ≤ 1048576) => szQueueS_c w1 B a2 n2 c2 _ V (l2.below hb hB) (Nat.le_trans hB hb.size) (by omega) g0 g1
  obtain ⟨u2, hu2⟩ : ∃ u, (Shape.list shQueue).bulk x.2.2.1 = u := ⟨_, rfl⟩
  simp only [hu2] at H2 ⊢
  have H3 := fun (w1 : World) (hb : Below w.heap.size w w1) (V : Int) (g0 : 0 ≤ V) (g1 : V ≤ 1048576) => szQueueS_c w1 B a3 n3 c3 _ V (l3.below hb hB) (Nat.le_trans hB hb.size) (by omega) g0 g1
  obtain ⟨u3, hu3⟩ : ∃ u, (Shape.list shQueue).bulk x.2.2.2 = u := ⟨_, rfl⟩
  simp only [hu3] at H3 ⊢
  replace H0 := Lib.hid H0
  replace H1 := Lib.hid H1
  replace H2 := Lib.hid H2
  replace H3 := Lib.hid H3
  have HA := Lib.hid ha
  have HB0 := Lib.hid hb0
  have HS0 := Lib.hid hs0
  clear ha hb0 hs0 h hu0 hu1 hu2 hu3
  clear p0 r0 l0 p1 r1 l1 p2 r2 l2 p3 r3 l3
  obtain ⟨d, hd⟩ : ∃ d, d = szN (u0 + u1 + u2 + u3) L := ⟨_, rfl⟩
  rw [← hd]
  replace HD := Lib.hid hd
  clear hd
  by_cases f0 : (u0 : Int) ≤ L
  · have q0 := H0.out _ HA.out L (by omega) (by omega)
    rw [szN_yes f0] at q0
    obtain ⟨V0, hV0⟩ : ∃ V', L - (u0 : Int) = V' := ⟨_, rfl⟩
    rw [hV0] at q0
    have t0 : decide (V0 < 0) = false := decide_eq_false (by omega)
    replace q0 := Lib.hid q0
    go_enter Try.func8, Try.ntmps8
    go_wp2_with fail
    refine q0.out.mono ?_
    rintro e w1 ⟨rfl, hb0⟩
    have B0 := Lib.hid (HA.out.trans (hb0.mono HA.out.size))
    have X0 := Lib.hid ((hb0.block w.heap.size HS0.out).trans HB0.out)
    have S0 := Lib.hid (hb0.size)
    clear hb0
    have z0_0 : w1.cell? ⟨w.heap.size, 0, none⟩ = _ := cell_of_row _ _ _ _ _ _ X0.out
    have z0_1 : w1.cell? ⟨w.heap.size, 1, none⟩ = _ := cell_of_row _ _ _ _ _ _ X0.out
    have z0_2 : w1.cell? ⟨w.heap.size, 2, none⟩ = _ := cell_of_row _ _ _ _ _ _ X0.out
    have z0_3 : w1.cell? ⟨w.heap.size, 3, none⟩ = _ := cell_of_row _ _ _ _ _ _ X0.out
    simp only [List.getElem?_toArray, List.getElem?_cons_zero, List.getElem?_cons_succ] at z0_0 z0_1 z0_2 z0_3
    by_cases f1 : (u1 : Int) ≤ V0
    · have q1 := H1.out _ B0.out V0 (by omega) (by omega)
      rw [szN_yes f1] at q1
      obtain ⟨V1, hV1⟩ : ∃ V', V0 - (u1 : Int) = V' := ⟨_, rfl⟩
      rw [hV1] at q1
      have t1 : decide (V1 < 0) = false := decide_eq_false (by omega)
      replace q1 := Lib.hid q1
      go_wp2_with fail
      refine q1.out.mono ?_
      rintro e w2 ⟨rfl, hb1⟩
      have B1 := Lib.hid (B0.out.trans (hb1.mono B0.out.size))
      have X1 := Lib.hid ((hb1.block w.heap.size (Nat.lt_of_lt_of_le HS0.out S0.out)).trans X0.out)
      have S1 := Lib.hid (Nat.le_trans S0.out hb1.size)
      clear hb1
      have z1_0 : w2.cell? ⟨w.heap.size, 0, none⟩ = _ := cell_of_row _ _ _ _ _ _ X1.out
      have z1_1 : w2.cell? ⟨w.heap.size, 1, none⟩ = _ := cell_of_row _ _ _ _ _ _ X1.out
      have z1_2 : w2.cell? ⟨w.heap.size, 2, none⟩ = _ := cell_of_row _ _ _ _ _ _ X1.out
      have z1_3 : w2.cell? ⟨w.heap.size, 3, none⟩ = _ := cell_of_row _ _ _ _ _ _ X1.out
      simp only [List.getElem?_toArray, List.getElem?_cons_zero, List.getElem?_cons_succ] at z1_0 z1_1 z1_2 z1_3
      by_cases f2 : (u2 : Int) ≤ V1
      · have q2 := H2.out _ B1.out V1 (by omega) (by omega)
        rw [szN_yes f2] at q2
        obtain ⟨V2, hV2⟩ : ∃ V', V1 - (u2 : Int) = V' := ⟨_, rfl⟩
        rw [hV2] at q2
        have t2 : decide (V2 < 0) = false := decide_eq_false (by omega)
        replace q2 := Lib.hid q2
        go_wp2_with fail
        refine q2.out.mono ?_
        rintro e w3 ⟨rfl, hb2⟩
        have B2 := Lib.hid (B1.out.trans (hb2.mono B1.out.size))
        have X2 := Lib.hid ((hb2.block w.heap.size (Nat.lt_of_lt_of_le HS0.out S1.out)).trans X1.out)
        have S2 := Lib.hid (Nat.le_trans S1.out hb2.size)
        clear hb2
        have z2_0 : w3.cell? ⟨w.heap.size, 0, none⟩ = _ := cell_of_row _ _ _ _ _ _ X2.out
        have z2_1 : w3.cell? ⟨w.heap.size, 1, none⟩ = _ := cell_of_row _ _ _ _ _ _ X2.out
        have z2_2 : w3.cell? ⟨w.heap.size, 2, none⟩ = _ := cell_of_row _ _ _ _ _ _ X2.out
        have z2_3 : w3.cell? ⟨w.heap.size, 3, none⟩ = _ := cell_of_row _ _ _ _ _ _ X2.out
        simp only [List.getElem?_toArray, List.getElem?_cons_zero, List.getElem?_cons_succ] at z2_0 z2_1 z2_2 z2_3
        by_cases f3 : (u3 : Int) ≤ V2
        · have q3 := H3.out _ B2.out V2 (by omega) (by omega)
          rw [szN_yes f3] at q3
          obtain ⟨V3, hV3⟩ : ∃ V', V2 - (u3 : Int) = V' := ⟨_, rfl⟩
          rw [hV3] at q3
          have t3 : decide (V3 < 0) = false := decide_eq_false (by omega)
          have hdd : V3 = d := by rw [HD.out, szN_yes (by omega)]; omega
          subst hdd
          replace q3 := Lib.hid q3
          go_wp2_with fail
          refine q3.out.mono ?_
          rintro e w4 ⟨rfl, hb3⟩
          have B3 := Lib.hid (B2.out.trans (hb3.mono B2.out.size))
          clear hb3
          go_wp2_with fail
          go_ret
          exact ⟨rfl, B3.out⟩
        · have q3 := H3.out _ B2.out V2 (by omega) (by omega)
          rw [szN_no f3] at q3
          have hdd : d = -1 := by rw [HD.out]; exact szN_no (by omega)
          subst hdd
          replace q3 := Lib.hid q3
          go_wp2_with fail
          refine q3.out.mono ?_
          rintro e w4 ⟨rfl, hb3⟩
          have B3 := Lib.hid (B2.out.trans (hb3.mono B2.out.size))
          clear hb3
          go_wp2_with fail
          go_ret
          exact ⟨rfl, B3.out⟩
      · have q2 := H2.out _ B1.out V1 (by omega) (by omega)
        rw [szN_no f2] at q2
        have hdd : d = -1 := by rw [HD.out]; exact szN_no (by omega)
        subst hdd
        replace q2 := Lib.hid q2
        go_wp2_with fail
        refine q2.out.mono ?_
        rintro e w3 ⟨rfl, hb2⟩
        have B2 := Lib.hid (B1.out.trans (hb2.mono B1.out.size))
        clear hb2
        go_wp2_with fail
        go_ret
        exact ⟨rfl, B2.out⟩
    · have q1 := H1.out _ B0.out V0 (by omega) (by omega)
      rw [szN_no f1] at q1
      have hdd : d = -1 := by rw [HD.out]; exact szN_no (by omega)
      subst hdd
      replace q1 := Lib.hid q1
      go_wp2_with fail
      refine q1.out.mono ?_
      rintro e w2 ⟨rfl, hb1⟩
      have B1 := Lib.hid (B0.out.trans (hb1.mono B0.out.size))
      clear hb1
      go_wp2_with fail
      go_ret
      exact ⟨rfl, B1.out⟩
  · have q0 := H0.out _ HA.out L (by omega) (by omega)
    rw [szN_no f0] at q0
    have hdd : d = -1 := by rw [HD.out]; exact szN_no (by omega)
    subst hdd
    replace q0 := Lib.hid q0
    go_enter Try.func8, Try.ntmps8
    go_wp2_with fail
    refine q0.out.mono ?_
    rintro e w1 ⟨rfl, hb0⟩
    have B0 := Lib.hid (HA.out.trans (hb0.mono HA.out.size))
    clear hb0
    go_wp2_with fail
    go_ret
    exact ⟨rfl, B0.out⟩
set_option maxRecDepth 100000 in
set_option maxHeartbeats 800000 in
theorem toPipe_c (w : World) (B : Nat) (es : List Value) (x : dPipe) (h : shPipe.reads (Under B) w es x) (hB : B ≤ w.heap.size) (hb : shPipe.bulk x ≤ 1048576) :
    Calls Try.prog 10 #[.agg es.toArray] w fun e w' => ∃ es', e = .returned (.agg es'.toArray) ∧ shPipe.reads (From w.heap.size w'.heap.size) w' es' x ∧ Below w.heap.size w w' := by
  obtain ⟨a0, n0, c0, a1, n1, c1, a2, n2, c2, a3, n3, c3, rfl, ⟨p0, r0, l0⟩, ⟨p1, r1, l1⟩, ⟨p2, r2, l2⟩, ⟨p3, r3, l3⟩⟩ := shPipe_reads.1 h
  rw [shPipe_bulk] at hb
  have m0 : n0 ≤ 1048576 := by have := bulk_list shPair l0; omega
  have H0 := Lib.hid fun (w1 : World) (hbw : Below w.heap.size w w1) => toPairS_c w1 B a0 n0 c0 _ (l0.below hbw hB) (Nat.le_trans hB hbw.size) (by omega)
  have m1 : n1 ≤ 1048576 := by have := bulk_list shStage l1; omega
  have H1 := Lib.hid fun (w1 : World) (hbw : Below w.heap.size w w1) => toStageS_c w1 B a1 n1 c1 _ (l1.below hbw hB) (Nat.le_trans hB hbw.size) (by omega)
  have m2 : n2 ≤ 1048576 := by have := bulk_list shQueue l2; omega
  have H2 := Lib.hid fun (w1 : World) (hbw : Below w.heap.size w w1) => toQueueS_c w1 B a2 n2 c2 _ (l2.below hbw hB) (Nat.le_trans hB hbw.size) (by omega)
  have m3 : n3 ≤ 1048576 := by have := bulk_list shQueue l3; omega
  have H3 := Lib.hid fun (w1 : World) (hbw : Below w.heap.size w w1) => toQueueS_c w1 B a3 n3 c3 _ (l3.below hbw hB) (Nat.le_trans hB hbw.size) (by omega)
  have hbx := Boxes.start w #[.slice a0 n0 c0, .slice a1 n1 c1, .slice a2 n2 c2, .slice a3 n3 c3] #[.slice none 0 0, .slice none 0 0, .slice none 0 0, .slice none 0 0] #[.slice none 0 0, .slice none 0 0, .slice none 0 0, .slice none 0 0] 26 35
  clear h hb l0 r0 p0 l1 r1 p1 l2 r2 p2 l3 r3 p3
  go_enter Try.func10, Try.ntmps10
  go_wp2_with fail
  generalize ((w.alloc (.cells #[.slice a0 n0 c0, .slice a1 n1 c1, .slice a2 n2 c2, .slice a3 n3 c3] 26 (0, 0))).alloc (.cells #[.slice none 0 0, .slice none 0 0, .slice none 0 0, .slice none 0 0] 35 (0, 0))).alloc (.cells #[.slice none 0 0, .slice none 0 0, .slice none 0 0, .slice none 0 0] 35 (0, 0)) = v0 at hbx ⊢
  have BX0 := Lib.hid hbx
  clear hbx
  refine (H0.out v0 BX0.out.below).mono ?_
  rintro e w1 ⟨rfl, hr0, hb0⟩
  have hbx := BX0.out.call hb0
  have hlt0 := BX0.out.size
  have za0_0 : w1.cell? ⟨w.heap.size, 0, none⟩ = _ := cell_of_row _ _ _ _ _ _ hbx.a
  have za0_1 : w1.cell? ⟨w.heap.size, 1, none⟩ = _ := cell_of_row _ _ _ _ _ _ hbx.a
  have za0_2 : w1.cell? ⟨w.heap.size, 2, none⟩ = _ := cell_of_row _ _ _ _ _ _ hbx.a
  have za0_3 : w1.cell? ⟨w.heap.size, 3, none⟩ = _ := cell_of_row _ _ _ _ _ _ hbx.a
  have zo0_0 : w1.cell? ⟨w.heap.size + 1 + 1, 0, none⟩ = _ := cell_of_row _ _ _ _ _ _ hbx.o
  have zo0_1 : w1.cell? ⟨w.heap.size + 1 + 1, 1, none⟩ = _ := cell_of_row _ _ _ _ _ _ hbx.o
  have zo0_2 : w1.cell? ⟨w.heap.size + 1 + 1, 2, none⟩ = _ := cell_of_row _ _ _ _ _ _ hbx.o
  have zo0_3 : w1.cell? ⟨w.heap.size + 1 + 1, 3, none⟩ = _ := cell_of_row _ _ _ _ _ _ hbx.o
  have zr0_0 : w1.cell? ⟨w.heap.size + 1, 0, none⟩ = _ := cell_of_row _ _ _ _ _ _ hbx.z
  have zr0_1 : w1.cell? ⟨w.heap.size + 1, 1, none⟩ = _ := cell_of_row _ _ _ _ _ _ hbx.z
  have zr0_2 : w1.cell? ⟨w.heap.size + 1, 2, none⟩ = _ := cell_of_row _ _ _ _ _ _ hbx.z
  have zr0_3 : w1.cell? ⟨w.heap.size + 1, 3, none⟩ = _ := cell_of_row _ _ _ _ _ _ hbx.z
  have fo0_0 : w1.frozen? ⟨w.heap.size + 1 + 1, 0, none⟩ = false := frozen_of_row _ _ _ _ _ hbx.o
  have fr0_0 : w1.frozen? ⟨w.heap.size + 1, 0, none⟩ = false := frozen_of_row _ _ _ _ _ hbx.z
  have fo0_1 : w1.frozen? ⟨w.heap.size + 1 + 1, 1, none⟩ = false := frozen_of_row _ _ _ _ _ hbx.o
  have fr0_1 : w1.frozen? ⟨w.heap.size + 1, 1, none⟩ = false := frozen_of_row _ _ _ _ _ hbx.z
  have fo0_2 : w1.frozen? ⟨w.heap.size + 1 + 1, 2, none⟩ = false := frozen_of_row _ _ _ _ _ hbx.o
  have fr0_2 : w1.frozen? ⟨w.heap.size + 1, 2, none⟩ = false := frozen_of_row _ _ _ _ _ hbx.z
  have fo0_3 : w1.frozen? ⟨w.heap.size + 1 + 1, 3, none⟩ = false := frozen_of_row _ _ _ _ _ hbx.o
  have fr0_3 : w1.frozen? ⟨w.heap.size + 1, 3, none⟩ = false := frozen_of_row _ _ _ _ _ hbx.z
  simp only [List.setIfInBounds_toArray, List.set_cons_zero, List.set_cons_succ, List.getElem?_toArray, List.getElem?_cons_zero, List.getElem?_cons_succ] at za0_0 zo0_0 zr0_0 za0_1 zo0_1 zr0_1 za0_2 zo0_2 zr0_2 za0_3 zo0_3 zr0_3
  have N0_0 := hr0.lo (Nat.le_trans (by omega) hlt0 : w.heap.size + 3 ≤ v0.heap.size)
  have hby := (hbx.store 0 (.slice (some ⟨v0.heap.size, 0, none⟩) n0 n0))
  have O0_0 := (N0_0.stored (w.heap.size + 1 + 1) 0 (.slice (some ⟨v0.heap.size, 0, none⟩) n0 n0) (by omega))
  replace hb0 := Lib.hid hb0
  replace hby := Lib.hid hby
  replace O0_0 := Lib.hid O0_0
  clear N0_0
  clear hr0 hbx
  go_wp2_with fail
  clear za0_0 zo0_0 zr0_0 fo0_0 fr0_0 za0_1 zo0_1 zr0_1 fo0_1 fr0_1 za0_2 zo0_2 zr0_2 fo0_2 fr0_2 za0_3 zo0_3 zr0_3 fo0_3 fr0_3
  generalize (w1.setCell ⟨w.heap.size + 1 + 1, 0, none⟩ (.slice (some ⟨v0.heap.size, 0, none⟩) n0 n0)) = v1 at hby O0_0 ⊢
  have BX1 := hby
  have M0_0 := O0_0
  clear O0_0 hby
  refine (H1.out v1 BX1.out.below).mono ?_
  rintro e w2 ⟨rfl, hr1, hb1⟩
  have hbx := BX1.out.call hb1
  have hlt1 := BX1.out.size
  have za1_0 : w2.cell? ⟨w.heap.size, 0, none⟩ = _ := cell_of_row _ _ _ _ _ _ hbx.a
  have za1_1 : w2.cell? ⟨w.heap.size, 1, none⟩ = _ := cell_of_row _ _ _ _ _ _ hbx.a
  have za1_2 : w2.cell? ⟨w.heap.size, 2, none⟩ = _ := cell_of_row _ _ _ _ _ _ hbx.a
  have za1_3 : w2.cell? ⟨w.heap.size, 3, none⟩ = _ := cell_of_row _ _ _ _ _ _ hbx.a
  have zo1_0 : w2.cell? ⟨w.heap.size + 1 + 1, 0, none⟩ = _ := cell_of_row _ _ _ _ _ _ hbx.o
  have zo1_1 : w2.cell? ⟨w.heap.size + 1 + 1, 1, none⟩ = _ := cell_of_row _ _ _ _ _ _ hbx.o
  have zo1_2 : w2.cell? ⟨w.heap.size + 1 + 1, 2, none⟩ = _ := cell_of_row _ _ _ _ _ _ hbx.o
  have zo1_3 : w2.cell? ⟨w.heap.size + 1 + 1, 3, none⟩ = _ := cell_of_row _ _ _ _ _ _ hbx.o
  have zr1_0 : w2.cell? ⟨w.heap.size + 1, 0, none⟩ = _ := cell_of_row _ _ _ _ _ _ hbx.z
  have zr1_1 : w2.cell? ⟨w.heap.size + 1, 1, none⟩ = _ := cell_of_row _ _ _ _ _ _ hbx.z
  have zr1_2 : w2.cell? ⟨w.heap.size + 1, 2, none⟩ = _ := cell_of_row _ _ _ _ _ _ hbx.z
  have zr1_3 : w2.cell? ⟨w.heap.size + 1, 3, none⟩ = _ := cell_of_row _ _ _ _ _ _ hbx.z
  have fo1_0 : w2.frozen? ⟨w.heap.size + 1 + 1, 0, none⟩ = false := frozen_of_row _ _ _ _ _ hbx.o
  have fr1_0 : w2.frozen? ⟨w.heap.size + 1, 0, none⟩ = false := frozen_of_row _ _ _ _ _ hbx.z
  have fo1_1 : w2.frozen? ⟨w.heap.size + 1 + 1, 1, none⟩ = false := frozen_of_row _ _ _ _ _ hbx.o
  have fr1_1 : w2.frozen? ⟨w.heap.size + 1, 1, none⟩ = false := frozen_of_row _ _ _ _ _ hbx.z
  have fo1_2 : w2.frozen? ⟨w.heap.size + 1 + 1, 2, none⟩ = false := frozen_of_row _ _ _ _ _ hbx.o
  have fr1_2 : w2.frozen? ⟨w.heap.size + 1, 2, none⟩ = false := frozen_of_row _ _ _ _ _ hbx.z
  have fo1_3 : w2.frozen? ⟨w.heap.size + 1 + 1, 3, none⟩ = false := frozen_of_row _ _ _ _ _ hbx.o
  have fr1_3 : w2.frozen? ⟨w.heap.size + 1, 3, none⟩ = false := frozen_of_row _ _ _ _ _ hbx.z
  simp only [List.setIfInBounds_toArray, List.set_cons_zero, List.set_cons_succ, List.getElem?_toArray, List.getElem?_cons_zero, List.getElem?_cons_succ] at za1_0 zo1_0 zr1_0 za1_1 zo1_1 zr1_1 za1_2 zo1_2 zr1_2 za1_3 zo1_3 zr1_3
  have N0_1 := M0_0.out.called hb1
  have N1_1 := hr1.lo (Nat.le_trans (by omega) hlt1 : w.heap.size + 3 ≤ v1.heap.size)
  have hby := (hbx.store 1 (.slice (some ⟨v1.heap.size, 0, none⟩) n1 n1))
  have O0_1 := (N0_1.stored (w.heap.size + 1 + 1) 1 (.slice (some ⟨v1.heap.size, 0, none⟩) n1 n1) (by omega))
  have O1_1 := (N1_1.stored (w.heap.size + 1 + 1) 1 (.slice (some ⟨v1.heap.size, 0, none⟩) n1 n1) (by omega))
  replace hb1 := Lib.hid hb1
  replace hby := Lib.hid hby
  replace O0_1 := Lib.hid O0_1
  clear N0_1
  replace O1_1 := Lib.hid O1_1
  clear N1_1
  clear hr1 hbx
  go_wp2_with fail
  clear za1_0 zo1_0 zr1_0 fo1_0 fr1_0 za1_1 zo1_1 zr1_1 fo1_1 fr1_1 za1_2 zo1_2 zr1_2 fo1_2 fr1_2 za1_3 zo1_3 zr1_3 fo1_3 fr1_3
  generalize (w2.setCell ⟨w.heap.size + 1 + 1, 1, none⟩ (.slice (some ⟨v1.heap.size, 0, none⟩) n1 n1)) = v2 at hby O0_1 O1_1 ⊢
  have BX2 := hby
  have M0_1 := O0_1
  have M1_1 := O1_1
  clear O0_1 O1_1 hby
  refine (H2.out v2 BX2.out.below).mono ?_
  rintro e w3 ⟨rfl, hr2, hb2⟩
  have hbx := BX2.out.call hb2
  have hlt2 := BX2.out.size
  have za2_0 : w3.cell? ⟨w.heap.size, 0, none⟩ = _ := cell_of_row _ _ _ _ _ _ hbx.a
  have za2_1 : w3.cell? ⟨w.heap.size, 1, none⟩ = _ := cell_of_row _ _ _ _ _ _ hbx.a
  have za2_2 : w3.cell? ⟨w.heap.size, 2, none⟩ = _ := cell_of_row _ _ _ _ _ _ hbx.a
  have za2_3 : w3.cell? ⟨w.heap.size, 3, none⟩ = _ := cell_of_row _ _ _ _ _ _ hbx.a
  have zo2_0 : w3.cell? ⟨w.heap.size + 1 + 1, 0, none⟩ = _ := cell_of_row _ _ _ _ _ _ hbx.o
  have zo2_1 : w3.cell? ⟨w.heap.size + 1 + 1, 1, none⟩ = _ := cell_of_row _ _ _ _ _ _ hbx.o
  have zo2_2 : w3.cell? ⟨w.heap.size + 1 + 1, 2, none⟩ = _ := cell_of_row _ _ _ _ _ _ hbx.o
  have zo2_3 : w3.cell? ⟨w.heap.size + 1 + 1, 3, none⟩ = _ := cell_of_row _ _ _ _ _ _ hbx.o
  have zr2_0 : w3.cell? ⟨w.heap.size + 1, 0, none⟩ = _ := cell_of_row _ _ _ _ _ _ hbx.z
  have zr2_1 : w3.cell? ⟨w.heap.size + 1, 1, none⟩ = _ := cell_of_row _ _ _ _ _ _ hbx.z
  have zr2_2 : w3.cell? ⟨w.heap.size + 1, 2, none⟩ = _ := cell_of_row _ _ _ _ _ _ hbx.z
  have zr2_3 : w3.cell? ⟨w.heap.size + 1, 3, none⟩ = _ := cell_of_row _ _ _ _ _ _ hbx.z
  have fo2_0 : w3.frozen? ⟨w.heap.size + 1 + 1, 0, none⟩ = false := frozen_of_row _ _ _ _ _ hbx.o
  have fr2_0 : w3.frozen? ⟨w.heap.size + 1, 0, none⟩ = false := frozen_of_row _ _ _ _ _ hbx.z
  have fo2_1 : w3.frozen? ⟨w.heap.size + 1 + 1, 1, none⟩ = false := frozen_of_row _ _ _ _ _ hbx.o
  have fr2_1 : w3.frozen? ⟨w.heap.size + 1, 1, none⟩ = false := frozen_of_row _ _ _ _ _ hbx.z
  have fo2_2 : w3.frozen? ⟨w.heap.size + 1 + 1, 2, none⟩ = false := frozen_of_row _ _ _ _ _ hbx.o
  have fr2_2 : w3.frozen? ⟨w.heap.size + 1, 2, none⟩ = false := frozen_of_row _ _ _ _ _ hbx.z
  have fo2_3 : w3.frozen? ⟨w.heap.size + 1 + 1, 3, none⟩ = false := frozen_of_row _ _ _ _ _ hbx.o
  have fr2_3 : w3.frozen? ⟨w.heap.size + 1, 3, none⟩ = false := frozen_of_row _ _ _ _ _ hbx.z
  simp only [List.setIfInBounds_toArray, List.set_cons_zero, List.set_cons_succ, List.getElem?_toArray, List.getElem?_cons_zero, List.getElem?_cons_succ] at za2_0 zo2_0 zr2_0 za2_1 zo2_1 zr2_1 za2_2 zo2_2 zr2_2 za2_3 zo2_3 zr2_3
  have N0_2 := M0_1.out.called hb2
  have N1_2 := M1_1.out.called hb2
  have N2_2 := hr2.lo (Nat.le_trans (by omega) hlt2 : w.heap.size + 3 ≤ v2.heap.size)
  have hby := (hbx.store 2 (.slice (some ⟨v2.heap.size, 0, none⟩) n2 n2))
  have O0_2 := (N0_2.stored (w.heap.size + 1 + 1) 2 (.slice (some ⟨v2.heap.size, 0, none⟩) n2 n2) (by omega))
  have O1_2 := (N1_2.stored (w.heap.size + 1 + 1) 2 (.slice (some ⟨v2.heap.size, 0, none⟩) n2 n2) (by omega))
  have O2_2 := (N2_2.stored (w.heap.size + 1 + 1) 2 (.slice (some ⟨v2.heap.size, 0, none⟩) n2 n2) (by omega))
  replace hb2 := Lib.hid hb2
  replace hby := Lib.hid hby
  replace O0_2 := Lib.hid O0_2
  clear N0_2
  replace O1_2 := Lib.hid O1_2
  clear N1_2
  replace O2_2 := Lib.hid O2_2
  clear N2_2
  clear hr2 hbx
  go_wp2_with fail
  clear za2_0 zo2_0 zr2_0 fo2_0 fr2_0 za2_1 zo2_1 zr2_1 fo2_1 fr2_1 za2_2 zo2_2 zr2_2 fo2_2 fr2_2 za2_3 zo2_3 zr2_3 fo2_3 fr2_3
  generalize (w3.setCell ⟨w.heap.size + 1 + 1, 2, none⟩ (.slice (some ⟨v2.heap.size, 0, none⟩) n2 n2)) = v3 at hby O0_2 O1_2 O2_2 ⊢
  have BX3 := hby
  have M0_2 := O0_2
  have M1_2 := O1_2
  have M2_2 := O2_2
  clear O0_2 O1_2 O2_2 hby
  refine (H3.out v3 BX3.out.below).mono ?_
  rintro e w4 ⟨rfl, hr3, hb3⟩
  have hbx := BX3.out.call hb3
  have hlt3 := BX3.out.size
  have za3_0 : w4.cell? ⟨w.heap.size, 0, none⟩ = _ := cell_of_row _ _ _ _ _ _ hbx.a
  have za3_1 : w4.cell? ⟨w.heap.size, 1, none⟩ = _ := cell_of_row _ _ _ _ _ _ hbx.a
  have za3_2 : w4.cell? ⟨w.heap.size, 2, none⟩ = _ := cell_of_row _ _ _ _ _ _ hbx.a
  have za3_3 : w4.cell? ⟨w.heap.size, 3, none⟩ = _ := cell_of_row _ _ _ _ _ _ hbx.a
  have zo3_0 : w4.cell? ⟨w.heap.size + 1 + 1, 0, none⟩ = _ := cell_of_row _ _ _ _ _ _ hbx.o
  have zo3_1 : w4.cell? ⟨w.heap.size + 1 + 1, 1, none⟩ = _ := cell_of_row _ _ _ _ _ _ hbx.o
  have zo3_2 : w4.cell? ⟨w.heap.size + 1 + 1, 2, none⟩ = _ := cell_of_row _ _ _ _ _ _ hbx.o
  have zo3_3 : w4.cell? ⟨w.heap.size + 1 + 1, 3, none⟩ = _ := cell_of_row _ _ _ _ _ _ hbx.o
  have zr3_0 : w4.cell? ⟨w.heap.size + 1, 0, none⟩ = _ := cell_of_row _ _ _ _ _ _ hbx.z
  have zr3_1 : w4.cell? ⟨w.heap.size + 1, 1, none⟩ = _ := cell_of_row _ _ _ _ _ _ hbx.z
  have zr3_2 : w4.cell? ⟨w.heap.size + 1, 2, none⟩ = _ := cell_of_row _ _ _ _ _ _ hbx.z
  have zr3_3 : w4.cell? ⟨w.heap.size + 1, 3, none⟩ = _ := cell_of_row _ _ _ _ _ _ hbx.z
  have fo3_0 : w4.frozen? ⟨w.heap.size + 1 + 1, 0, none⟩ = false := frozen_of_row _ _ _ _ _ hbx.o
  have fr3_0 : w4.frozen? ⟨w.heap.size + 1, 0, none⟩ = false := frozen_of_row _ _ _ _ _ hbx.z
  have fo3_1 : w4.frozen? ⟨w.heap.size + 1 + 1, 1, none⟩ = false := frozen_of_row _ _ _ _ _ hbx.o
  have fr3_1 : w4.frozen? ⟨w.heap.size + 1, 1, none⟩ = false := frozen_of_row _ _ _ _ _ hbx.z
  have fo3_2 : w4.frozen? ⟨w.heap.size + 1 + 1, 2, none⟩ = false := frozen_of_row _ _ _ _ _ hbx.o
  have fr3_2 : w4.frozen? ⟨w.heap.size + 1, 2, none⟩ = false := frozen_of_row _ _ _ _ _ hbx.z
  have fo3_3 : w4.frozen? ⟨w.heap.size + 1 + 1, 3, none⟩ = false := frozen_of_row _ _ _ _ _ hbx.o
  have fr3_3 : w4.frozen? ⟨w.heap.size + 1, 3, none⟩ = false := frozen_of_row _ _ _ _ _ hbx.z
  simp only [List.setIfInBounds_toArray, List.set_cons_zero, List.set_cons_succ, List.getElem?_toArray, List.getElem?_cons_zero, List.getElem?_cons_succ] at za3_0 zo3_0 zr3_0 za3_1 zo3_1 zr3_1 za3_2 zo3_2 zr3_2 za3_3 zo3_3 zr3_3
  have N0_3 := M0_2.out.called hb3
  have N1_3 := M1_2.out.called hb3
  have N2_3 := M2_2.out.called hb3
  have N3_3 := hr3.lo (Nat.le_trans (by omega) hlt3 : w.heap.size + 3 ≤ v3.heap.size)
  have hby := (hbx.store 3 (.slice (some ⟨v3.heap.size, 0, none⟩) n3 n3))
  have O0_3 := (N0_3.stored (w.heap.size + 1 + 1) 3 (.slice (some ⟨v3.heap.size, 0, none⟩) n3 n3) (by omega))
  have O1_3 := (N1_3.stored (w.heap.size + 1 + 1) 3 (.slice (some ⟨v3.heap.size, 0, none⟩) n3 n3) (by omega))
  have O2_3 := (N2_3.stored (w.heap.size + 1 + 1) 3 (.slice (some ⟨v3.heap.size, 0, none⟩) n3 n3) (by omega))
  have O3_3 := (N3_3.stored (w.heap.size + 1 + 1) 3 (.slice (some ⟨v3.heap.size, 0, none⟩) n3 n3) (by omega))
  replace hby := Lib.hid hby
  replace O0_3 := Lib.hid O0_3
  clear N0_3
  replace O1_3 := Lib.hid O1_3
  clear N1_3
  replace O2_3 := Lib.hid O2_3
  clear N2_3
  replace O3_3 := Lib.hid O3_3
  clear N3_3
  clear hr3 hbx hb3
  go_wp2_with fail
  refine bodyPost_ret (results_cell_row rfl _ _ (w.heap.size + 1) 35 #[.slice (some ⟨v0.heap.size, 0, none⟩) n0 n0, .slice (some ⟨v1.heap.size, 0, none⟩) n1 n1, .slice (some ⟨v2.heap.size, 0, none⟩) n2 n2, .slice (some ⟨v3.heap.size, 0, none⟩) n3 n3] (0, 0) _ rfl ?_ Try.underlying35 rfl (by kernel_rfl)) rfl ?_
  · exact hby.out.result [.slice (some ⟨v0.heap.size, 0, none⟩) n0 n0, .slice (some ⟨v1.heap.size, 0, none⟩) n1 n1, .slice (some ⟨v2.heap.size, 0, none⟩) n2 n2, .slice (some ⟨v3.heap.size, 0, none⟩) n3 n3] rfl
  refine ⟨[.slice (some ⟨v0.heap.size, 0, none⟩) n0 n0, .slice (some ⟨v1.heap.size, 0, none⟩) n1 n1, .slice (some ⟨v2.heap.size, 0, none⟩) n2 n2, .slice (some ⟨v3.heap.size, 0, none⟩) n3 n3], rfl, ?_, hby.out.last [.slice (some ⟨v0.heap.size, 0, none⟩) n0 n0, .slice (some ⟨v1.heap.size, 0, none⟩) n1 n1, .slice (some ⟨v2.heap.size, 0, none⟩) n2 n2, .slice (some ⟨v3.heap.size, 0, none⟩) n3 n3]⟩
  exact shPipe_reads.2 ⟨_, _, _, _, _, _, _, _, _, _, _, _, rfl, ⟨Nat.le_refl _, by omega, (O0_3.out.storedAll (w.heap.size + 1) 0 [.slice (some ⟨v0.heap.size, 0, none⟩) n0 n0, .slice (some ⟨v1.heap.size, 0, none⟩) n1 n1, .slice (some ⟨v2.heap.size, 0, none⟩) n2 n2, .slice (some ⟨v3.heap.size, 0, none⟩) n3 n3] (by omega)).lo (by omega)⟩, ⟨Nat.le_refl _, by omega, (O1_3.out.storedAll (w.heap.size + 1) 0 [.slice (some ⟨v0.heap.size, 0, none⟩) n0 n0, .slice (some ⟨v1.heap.size, 0, none⟩) n1 n1, .slice (some ⟨v2.heap.size, 0, none⟩) n2 n2, .slice (some ⟨v3.heap.size, 0, none⟩) n3 n3] (by omega)).lo (by omega)⟩, ⟨Nat.le_refl _, by omega, (O2_3.out.storedAll (w.heap.size + 1) 0 [.slice (some ⟨v0.heap.size, 0, none⟩) n0 n0, .slice (some ⟨v1.heap.size, 0, none⟩) n1 n1, .slice (some ⟨v2.heap.size, 0, none⟩) n2 n2, .slice (some ⟨v3.heap.size, 0, none⟩) n3 n3] (by omega)).lo (by omega)⟩, ⟨Nat.le_refl _, by omega, (O3_3.out.storedAll (w.heap.size + 1) 0 [.slice (some ⟨v0.heap.size, 0, none⟩) n0 n0, .slice (some ⟨v1.heap.size, 0, none⟩) n1 n1, .slice (some ⟨v2.heap.size, 0, none⟩) n2 n2, .slice (some ⟨v3.heap.size, 0, none⟩) n3 n3] (by omega)).lo (by omega)⟩⟩
set_option maxRecDepth 100000 in
set_option maxHeartbeats 800000 in
theorem eqPipe_c (w : World) (B B' : Nat) (es es' : List Value) (x : dPipe) (h : shPipe.reads (Under B) w es x) (h' : shPipe.reads (Under B') w es' x) (hB : B ≤ w.heap.size) (hB' : B' ≤ w.heap.size) (hb : smallPipe x) :
    Calls Try.prog 13 #[.agg es.toArray, .agg es'.toArray] w fun e w' => e = .returned (.bool true) ∧ Below w.heap.size w w' := by
  obtain ⟨a0, n0, c0, a1, n1, c1, a2, n2, c2, a3, n3, c3, rfl, ⟨-, -, l0⟩, ⟨-, -, l1⟩, ⟨-, -, l2⟩, ⟨-, -, l3⟩⟩ := shPipe_reads.1 h
  obtain ⟨b0, nb0, cb0, b1, nb1, cb1, b2, nb2, cb2, b3, nb3, cb3, rfl, ⟨-, -, m0⟩, ⟨-, -, m1⟩, ⟨-, -, m2⟩, ⟨-, -, m3⟩⟩ := shPipe_reads.1 h'
  obtain rfl : nb0 = n0 := by rw [← l0.1, ← m0.1]
  obtain rfl : nb1 = n1 := by rw [← l1.1, ← m1.1]
  obtain rfl : nb2 = n2 := by rw [← l2.1, ← m2.1]
  obtain rfl : nb3 = n3 := by rw [← l3.1, ← m3.1]
  obtain ⟨hb0, hb1, hb2, hb3⟩ := hb
  have ha := ((Below.refl w.heap.size w).alloc (Nat.le_refl _) (.cells #[.slice a0 nb0 c0, .slice a1 nb1 c1, .slice a2 nb2 c2, .slice a3 nb3 c3] 35 (0, 0))).alloc (by simp) (.cells #[.slice b0 nb0 cb0, .slice b1 nb1 cb1, .slice b2 nb2 cb2, .slice b3 nb3 cb3] 35 (0, 0))
  have hA : ((w.alloc (.cells #[.slice a0 nb0 c0, .slice a1 nb1 c1, .slice a2 nb2 c2, .slice a3 nb3 c3] 35 (0, 0))).alloc (.cells #[.slice b0 nb0 cb0, .slice b1 nb1 cb1, .slice b2 nb2 cb2, .slice b3 nb3 cb3] 35 (0, 0))).heap[w.heap.size]? = some (.cells #[.slice a0 nb0 c0, .slice a1 nb1 c1, .slice a2 nb2 c2, .slice a3 nb3 c3] 35 (0, 0)) := by
    rw [Below.heap_alloc _ _ _ (by simp)]
    exact heap_alloc_new w _
  have hC : ((w.alloc (.cells #[.slice a0 nb0 c0, .slice a1 nb1 c1, .slice a2 nb2 c2, .slice a3 nb3 c3] 35 (0, 0))).alloc (.cells #[.slice b0 nb0 cb0, .slice b1 nb1 cb1, .slice b2 nb2 cb2, .slice b3 nb3 cb3] 35 (0, 0))).heap[w.heap.size + 1]? = some (.cells #[.slice b0 nb0 cb0, .slice b1 nb1 cb1, .slice b2 nb2 cb2, .slice b3 nb3 cb3] 35 (0, 0)) := by
    have := heap_alloc_new (w.alloc (.cells #[.slice a0 nb0 c0, .slice a1 nb1 c1, .slice a2 nb2 c2, .slice a3 nb3 c3] 35 (0, 0))) (.cells #[.slice b0 nb0 cb0, .slice b1 nb1 cb1, .slice b2 nb2 cb2, .slice b3 nb3 cb3] 35 (0, 0))
    simpa using this
  have hS : w.heap.size + 1 < ((w.alloc (.cells #[.slice a0 nb0 c0, .slice a1 nb1 c1, .slice a2 nb2 c2, .slice a3 nb3 c3] 35 (0, 0))).alloc (.cells #[.slice b0 nb0 cb0, .slice b1 nb1 cb1, .slice b2 nb2 cb2, .slice b3 nb3 cb3] 35 (0, 0))).heap.size := by simp
  have H0 := Lib.hid fun (w1 : World) (hbw : Below w.heap.size w w1) => eqPairS_c w1 B B' a0 b0 nb0 c0 cb0 _ (l0.below hbw hB) (m0.below hbw hB') (Nat.le_trans hB hbw.size) (Nat.le_trans hB' hbw.size) hb0
  have H1 := Lib.hid fun (w1 : World) (hbw : Below w.heap.size w w1) => eqStageS_c w1 B B' a1 b1 nb1 c1 cb1 _ (l1.below hbw hB) (m1.below hbw hB') (Nat.le_trans hB hbw.size) (Nat.le_trans hB' hbw.size) hb1
  have H2 := Lib.hid fun (w1 : World) (hbw : Below w.heap.size w w1) => eqQueueS_c w1 B B' a2 b2 nb2 c2 cb2 _ (l2.below hbw hB) (m2.below hbw hB') (Nat.le_trans hB hbw.size) (Nat.le_trans hB' hbw.size) hb2
  have H3 := Lib.hid fun (w1 : World) (hbw : Below w.heap.size w w1) => eqQueueS_c w1 B B' a3 b3 nb3 c3 cb3 _ (l3.below hbw hB) (m3.below hbw hB') (Nat.le_trans hB hbw.size) (Nat.le_trans hB' hbw.size) hb3
  have HA := Lib.hid ha
  have XA := Lib.hid hA
  have XC := Lib.hid hC
  have HS := Lib.hid hS
  clear h h' hb0 hb1 hb2 hb3 ha hA hC hS l0 m0 l1 m1 l2 m2 l3 m3
  go_enter Try.func13, Try.ntmps13
  go_wp2_with fail
  refine (H0.out _ HA.out).mono ?_
  rintro e w1 ⟨rfl, hb0⟩
  have B0 := Lib.hid (HA.out.trans (hb0.mono HA.out.size))
  have XA0 := Lib.hid ((hb0.block w.heap.size (by have := HS.out; omega)).trans XA.out)
  have XC0 := Lib.hid ((hb0.block (w.heap.size + 1) HS.out).trans XC.out)
  have HS0 := Lib.hid (Nat.lt_of_lt_of_le HS.out hb0.size)
  have za0_0 : w1.cell? ⟨w.heap.size, 0, none⟩ = _ := cell_of_row _ _ _ _ _ _ XA0.out
  have zc0_0 : w1.cell? ⟨w.heap.size + 1, 0, none⟩ = _ := cell_of_row _ _ _ _ _ _ XC0.out
  have za0_1 : w1.cell? ⟨w.heap.size, 1, none⟩ = _ := cell_of_row _ _ _ _ _ _ XA0.out
  have zc0_1 : w1.cell? ⟨w.heap.size + 1, 1, none⟩ = _ := cell_of_row _ _ _ _ _ _ XC0.out
  have za0_2 : w1.cell? ⟨w.heap.size, 2, none⟩ = _ := cell_of_row _ _ _ _ _ _ XA0.out
  have zc0_2 : w1.cell? ⟨w.heap.size + 1, 2, none⟩ = _ := cell_of_row _ _ _ _ _ _ XC0.out
  have za0_3 : w1.cell? ⟨w.heap.size, 3, none⟩ = _ := cell_of_row _ _ _ _ _ _ XA0.out
  have zc0_3 : w1.cell? ⟨w.heap.size + 1, 3, none⟩ = _ := cell_of_row _ _ _ _ _ _ XC0.out
  simp only [List.getElem?_toArray, List.getElem?_cons_zero, List.getElem?_cons_succ] at za0_0 zc0_0 za0_1 zc0_1 za0_2 zc0_2 za0_3 zc0_3
  clear hb0
  go_wp2_with fail
  refine (H1.out _ B0.out).mono ?_
  rintro e w2 ⟨rfl, hb1⟩
  have B1 := Lib.hid (B0.out.trans (hb1.mono B0.out.size))
  have XA1 := Lib.hid ((hb1.block w.heap.size (by have := HS0.out; omega)).trans XA0.out)
  have XC1 := Lib.hid ((hb1.block (w.heap.size + 1) HS0.out).trans XC0.out)
  have HS1 := Lib.hid (Nat.lt_of_lt_of_le HS0.out hb1.size)
  have za1_0 : w2.cell? ⟨w.heap.size, 0, none⟩ = _ := cell_of_row _ _ _ _ _ _ XA1.out
  have zc1_0 : w2.cell? ⟨w.heap.size + 1, 0, none⟩ = _ := cell_of_row _ _ _ _ _ _ XC1.out
  have za1_1 : w2.cell? ⟨w.heap.size, 1, none⟩ = _ := cell_of_row _ _ _ _ _ _ XA1.out
  have zc1_1 : w2.cell? ⟨w.heap.size + 1, 1, none⟩ = _ := cell_of_row _ _ _ _ _ _ XC1.out
  have za1_2 : w2.cell? ⟨w.heap.size, 2, none⟩ = _ := cell_of_row _ _ _ _ _ _ XA1.out
  have zc1_2 : w2.cell? ⟨w.heap.size + 1, 2, none⟩ = _ := cell_of_row _ _ _ _ _ _ XC1.out
  have za1_3 : w2.cell? ⟨w.heap.size, 3, none⟩ = _ := cell_of_row _ _ _ _ _ _ XA1.out
  have zc1_3 : w2.cell? ⟨w.heap.size + 1, 3, none⟩ = _ := cell_of_row _ _ _ _ _ _ XC1.out
  simp only [List.getElem?_toArray, List.getElem?_cons_zero, List.getElem?_cons_succ] at za1_0 zc1_0 za1_1 zc1_1 za1_2 zc1_2 za1_3 zc1_3
  clear hb1
  go_wp2_with fail
  refine (H2.out _ B1.out).mono ?_
  rintro e w3 ⟨rfl, hb2⟩
  have B2 := Lib.hid (B1.out.trans (hb2.mono B1.out.size))
  have XA2 := Lib.hid ((hb2.block w.heap.size (by have := HS1.out; omega)).trans XA1.out)
  have XC2 := Lib.hid ((hb2.block (w.heap.size + 1) HS1.out).trans XC1.out)
  have HS2 := Lib.hid (Nat.lt_of_lt_of_le HS1.out hb2.size)
  have za2_0 : w3.cell? ⟨w.heap.size, 0, none⟩ = _ := cell_of_row _ _ _ _ _ _ XA2.out
  have zc2_0 : w3.cell? ⟨w.heap.size + 1, 0, none⟩ = _ := cell_of_row _ _ _ _ _ _ XC2.out
  have za2_1 : w3.cell? ⟨w.heap.size, 1, none⟩ = _ := cell_of_row _ _ _ _ _ _ XA2.out
  have zc2_1 : w3.cell? ⟨w.heap.size + 1, 1, none⟩ = _ := cell_of_row _ _ _ _ _ _ XC2.out
  have za2_2 : w3.cell? ⟨w.heap.size, 2, none⟩ = _ := cell_of_row _ _ _ _ _ _ XA2.out
  have zc2_2 : w3.cell? ⟨w.heap.size + 1, 2, none⟩ = _ := cell_of_row _ _ _ _ _ _ XC2.out
  have za2_3 : w3.cell? ⟨w.heap.size, 3, none⟩ = _ := cell_of_row _ _ _ _ _ _ XA2.out
  have zc2_3 : w3.cell? ⟨w.heap.size + 1, 3, none⟩ = _ := cell_of_row _ _ _ _ _ _ XC2.out
  simp only [List.getElem?_toArray, List.getElem?_cons_zero, List.getElem?_cons_succ] at za2_0 zc2_0 za2_1 zc2_1 za2_2 zc2_2 za2_3 zc2_3
  clear hb2
  go_wp2_with fail
  refine (H3.out _ B2.out).mono ?_
  rintro e w4 ⟨rfl, hb3⟩
  have B3 := Lib.hid (B2.out.trans (hb3.mono B2.out.size))
  clear hb3
  go_wp2_with fail
  go_ret
  exact ⟨rfl, B3.out⟩
end Go.Proofs.Ytcooobnaocbdjaa
