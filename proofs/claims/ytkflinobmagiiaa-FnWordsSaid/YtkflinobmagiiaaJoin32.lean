/-
  Data with depth: more of the laws' types.
-/
import Derived.Test.YtkflinobmagiiaaJoin20
import Derived.Test.YtkflinobmagiiaaJoin31
namespace Go.Proofs.Ytkflinobmagiiaa
open Go.RowKit Go.Sort
set_option linter.unusedVariables false
set_option linter.unusedSimpArgs false


abbrev dConfig := dModel × List Int × Int × List Bool × List Int × List Int
def shConfig : Shape dConfig := .struct (.cons shModel (.cons (Shape.list Shape.int) (.cons Shape.int (.cons (Shape.list Shape.bool) (.cons (Shape.list Shape.int) (.last (Shape.list Shape.int)))))))
theorem shConfig_size : shConfig.size = 6 := rfl
theorem shConfig_reads {I : Nat → Prop} {w : World} {cs : List Value} {d : dConfig} : shConfig.reads I w cs d ↔ ∃ a0 n0 c0 a1 n1 c1 a2 n2 c2 a3 n3 c3 a4 n4 c4, cs = [.slice a0 n0 c0, .slice a1 n1 c1, .int .i64 d.2.2.1, .slice a2 n2 c2, .slice a3 n3 c3, .slice a4 n4 c4] ∧ (n0 ≤ c0 ∧ c0 ≤ 9223372036854775807 ∧ ListAt shOp I w a0 n0 d.1) ∧ (n1 ≤ c1 ∧ c1 ≤ 9223372036854775807 ∧ ListAt Shape.int I w a1 n1 d.2.1) ∧ (n2 ≤ c2 ∧ c2 ≤ 9223372036854775807 ∧ ListAt Shape.bool I w a2 n2 d.2.2.2.1) ∧ (n3 ≤ c3 ∧ c3 ≤ 9223372036854775807 ∧ ListAt Shape.int I w a3 n3 d.2.2.2.2.1) ∧ (n4 ≤ c4 ∧ c4 ≤ 9223372036854775807 ∧ ListAt Shape.int I w a4 n4 d.2.2.2.2.2) := by
  constructor
  · rintro ⟨_, _, rfl, ⟨a0, n0, c0, rfl, g0⟩, _, _, rfl, ⟨a1, n1, c1, rfl, g1⟩, _, _, rfl, rfl, _, _, rfl, ⟨a2, n2, c2, rfl, g2⟩, _, _, rfl, ⟨a3, n3, c3, rfl, g3⟩, ⟨a4, n4, c4, rfl, g4⟩⟩
    exact ⟨a0, n0, c0, a1, n1, c1, a2, n2, c2, a3, n3, c3, a4, n4, c4, rfl, g0, g1, g2, g3, g4⟩
  · rintro ⟨a0, n0, c0, a1, n1, c1, a2, n2, c2, a3, n3, c3, a4, n4, c4, rfl, g0, g1, g2, g3, g4⟩
    exact ⟨_, _, rfl, ⟨a0, n0, c0, rfl, g0⟩, _, _, rfl, ⟨a1, n1, c1, rfl, g1⟩, _, _, rfl, rfl, _, _, rfl, ⟨a2, n2, c2, rfl, g2⟩, _, _, rfl, ⟨a3, n3, c3, rfl, g3⟩, ⟨a4, n4, c4, rfl, g4⟩⟩
theorem shConfig_bulk (d : dConfig) : shConfig.bulk d = (Shape.list shOp).bulk d.1 + (Shape.list Shape.int).bulk d.2.1 + (Shape.list Shape.bool).bulk d.2.2.2.1 + (Shape.list Shape.int).bulk d.2.2.2.2.1 + (Shape.list Shape.int).bulk d.2.2.2.2.2 := by
  simp only [shConfig, Shape.struct, FieldsOf.cons, FieldsOf.last, Shape.int, Shape.bool, shModel]
  try omega
set_option maxRecDepth 100000 in
theorem szConfig_c (w : World) (B : Nat) (es : List Value) (x : dConfig) (L : Int) (h : shConfig.reads (Under B) w es x) (hB : B ≤ w.heap.size) (h0 : 0 ≤ L) (h1 : L ≤ 1048576) :
    Calls Try.prog 17 #[.agg es.toArray, .int .i64 L] w fun e w' => e = .returned (.int .i64 (szN (shConfig.bulk x) L)) ∧ Below w.heap.size w w' := by
  obtain ⟨a0, n0, c0, a1, n1, c1, a2, n2, c2, a3, n3, c3, a4, n4, c4, rfl, ⟨p0, r0, l0⟩, ⟨p1, r1, l1⟩, ⟨p2, r2, l2⟩, ⟨p3, r3, l3⟩, ⟨p4, r4, l4⟩⟩ := shConfig_reads.1 h
  rw [shConfig_bulk]
  have ha := (Below.refl w.heap.size w).alloc (Nat.le_refl _) (.cells #[.slice a0 n0 c0, .slice a1 n1 c1, .int .i64 x.2.2.1, .slice a2 n2 c2, .slice a3 n3 c3, .slice a4 n4 c4] 41 (0, 0))
  have hb0 := heap_alloc_new w (.cells #[.slice a0 n0 c0, .slice a1 n1 c1, .int .i64 x.2.2.1, .slice a2 n2 c2, .slice a3 n3 c3, .slice a4 n4 c4] 41 (0, 0))
  have hs0 : w.heap.size < (w.alloc (.cells #[.slice a0 n0 c0, .slice a1 n1 c1, .int .i64 x.2.2.1, .slice a2 n2 c2, .slice a3 n3 c3, .slice a4 n4 c4] 41 (0, 0))).heap.size := by simp
  have H0 := fun (w1 : World) (hb : Below w.heap.size w w1) (V : Int) (g0 : 0 ≤ V) (g1 : V ≤ 1048576) => szModel_c w1 B [.slice a0 n0 c0] x.1 V (shModel_reads.2 ⟨_, _, _, rfl, p0, r0, l0.below hb hB⟩) (Nat.le_trans hB hb.size) g0 g1
  simp only [shModel_bulk] at H0
  obtain ⟨u0, hu0⟩ : ∃ u, (Shape.list shOp).bulk x.1 = u := ⟨_, rfl⟩
  simp only [hu0] at H0 ⊢
  have H1 := fun (w1 : World) (hb : Below w.heap.size w w1) (V : Int) (g0 : 0 ≤ V) (g1 : V ≤ 1048576) => szIntS_c w1 B a1 n1 c1 _ V (l1.below hb hB) (Nat.le_trans hB hb.size) (by omega) g0 g1
  obtain ⟨u1, hu1⟩ : ∃ u, (Shape.list Shape.int).bulk x.2.1 = u := ⟨_, rfl⟩
  simp only [hu1] at H1 ⊢
  have H2 := fun (w1 : World) (hb : Below w.heap.size w w1) (V : Int) (g0 : 0 ≤ V) (g1 : V ≤ 1048576) => szBoolS_c w1 B a2 n2 c2 _ V (l2.below hb hB) (Nat.le_trans hB hb.size) (by omega) g0 g1
  obtain ⟨u2, hu2⟩ : ∃ u, (Shape.list Shape.bool).bulk x.2.2.2.1 = u := ⟨_, rfl⟩
  simp only [hu2] at H2 ⊢
  have H3 := fun (w1 : World) (hb : Below w.heap.size w w1) (V : Int) (g0 : 0 ≤ V) (g1 : V ≤ 1048576) => szIntS_c w1 B a3 n3 c3 _ V (l3.below hb hB) (Nat.le_trans hB hb.size) (by omega) g0 g1
  obtain ⟨u3, hu3⟩ : ∃ u, (Shape.list Shape.int).bulk x.2.2.2.2.1 = u := ⟨_, rfl⟩
  simp only [hu3] at H3 ⊢
  have H4 := fun (w1 : World) (hb : Below w.heap.size w w1) (V : Int) (g0 : 0 ≤ V) (g1 : V ≤ 1048576) => szIntS_c w1 B a4 n4 c4 _ V (l4.below hb hB) (Nat.le_trans hB hb.size) (by omega) g0 g1
  obtain ⟨u4, hu4⟩ : ∃ u, (Shape.list Shape.int).bulk x.2.2.2.2.2 = u := ⟨_, rfl⟩
  simp only [hu4] at H4 ⊢
  replace H0 := Lib.hid H0
  replace H1 := Lib.hid H1
  replace H2 := Lib.hid H2
  replace H3 := Lib.hid H3
  replace H4 := Lib.hid H4
  have HA := Lib.hid ha
  have HB0 := Lib.hid hb0
  have HS0 := Lib.hid hs0
  clear ha hb0 hs0 h hu0 hu1 hu2 hu3 hu4
  clear p0 r0 l0 p1 r1 l1 p2 r2 l2 p3 r3 l3 p4 r4 l4
  obtain ⟨d, hd⟩ : ∃ d, d = szN (u0 + u1 + u2 + u3 + u4) L := ⟨_, rfl⟩
  rw [← hd]
  replace HD := Lib.hid hd
  clear hd
  by_cases f0 : (u0 : Int) ≤ L
  · have q0 := H0.out _ HA.out L (by omega) (by omega)
    rw [szN_yes f0] at q0
    obtain ⟨V0, hV0⟩ : ∃ V', L - (u0 : Int) = V' := ⟨_, rfl⟩
    rw [hV0] at q0
    have t0 : decide (V0 < 0) = false := decide_eq_false (by omega)
    replace q0 := Lib.hid q0
    go_enter Try.func17, Try.ntmps17
    go_wp2_with fail
    refine q0.out.mono ?_
    rintro e w1 ⟨rfl, hb0⟩
    have B0 := Lib.hid (HA.out.trans (hb0.mono HA.out.size))
    have X0 := Lib.hid ((hb0.block w.heap.size HS0.out).trans HB0.out)
    have S0 := Lib.hid (hb0.size)
    clear hb0
    have z0_0 : w1.cell? ⟨w.heap.size, 0, none⟩ = _ := cell_of_row _ _ _ _ _ _ X0.out
    have z0_1 : w1.cell? ⟨w.heap.size, 1, none⟩ = _ := cell_of_row _ _ _ _ _ _ X0.out
    have z0_2 : w1.cell? ⟨w.heap.size, 2, none⟩ = _ := cell_of_row _ _ _ _ _ _ X0.out
    have z0_3 : w1.cell? ⟨w.heap.size, 3, none⟩ = _ := cell_of_row _ _ _ _ _ _ X0.out
    have z0_4 : w1.cell? ⟨w.heap.size, 4, none⟩ = _ := cell_of_row _ _ _ _ _ _ X0.out
    have z0_5 : w1.cell? ⟨w.heap.size, 5, none⟩ = _ := cell_of_row _ _ _ _ _ _ X0.out
    simp only [List.getElem?_toArray, List.getElem?_cons_zero, List.getElem?_cons_succ] at z0_0 z0_1 z0_2 z0_3 z0_4 z0_5
    by_cases f1 : (u1 : Int) ≤ V0
    · have q1 := H1.out _ B0.out V0 (by omega) (by omega)
      rw [szN_yes f1] at q1
      obtain ⟨V1, hV1⟩ : ∃ V', V0 - (u1 : Int) = V' := ⟨_, rfl⟩
      rw [hV1] at q1
      have t1 : decide (V1 < 0) = false := decide_eq_false (by omega)
      replace q1 := Lib.hid q1
      go_wp2_with fail
      refine q1.out.mono ?_
      rintro e w2 ⟨rfl, hb1⟩
      have B1 := Lib.hid (B0.out.trans (hb1.mono B0.out.size))
      have X1 := Lib.hid ((hb1.block w.heap.size (Nat.lt_of_lt_of_le HS0.out S0.out)).trans X0.out)
      have S1 := Lib.hid (Nat.le_trans S0.out hb1.size)
      clear hb1
      have z1_0 : w2.cell? ⟨w.heap.size, 0, none⟩ = _ := cell_of_row _ _ _ _ _ _ X1.out
      have z1_1 : w2.cell? ⟨w.heap.size, 1, none⟩ = _ := cell_of_row _ _ _ _ _ _ X1.out
      have z1_2 : w2.cell? ⟨w.heap.size, 2, none⟩ = _ := cell_of_row _ _ _ _ _ _ X1.out
      have z1_3 : w2.cell? ⟨w.heap.size, 3, none⟩ = _ := cell_of_row _ _ _ _ _ _ X1.out
      have z1_4 : w2.cell? ⟨w.heap.size, 4, none⟩ = _ := cell_of_row _ _ _ _ _ _ X1.out
      have z1_5 : w2.cell? ⟨w.heap.size, 5, none⟩ = _ := cell_of_row _ _ _ _ _ _ X1.out
      simp only [List.getElem?_toArray, List.getElem?_cons_zero, List.getElem?_cons_succ] at z1_0 z1_1 z1_2 z1_3 z1_4 z1_5
      by_cases f2 : (u2 : Int) ≤ V1
      · have q2 := H2.out _ B1.out V1 (by omega) (by omega)
        rw [szN_yes f2] at q2
        obtain ⟨V2, hV2⟩ : ∃ V', V1 - (u2 : Int) = V' := ⟨_, rfl⟩
        rw [hV2] at q2
        have t2 : decide (V2 < 0) = false := decide_eq_false (by omega)
        replace q2 := Lib.hid q2
        go_wp2_with fail
        refine q2.out.mono ?_
        rintro e w3 ⟨rfl, hb2⟩
        have B2 := Lib.hid (B1.out.trans (hb2.mono B1.out.size))
        have X2 := Lib.hid ((hb2.block w.heap.size (Nat.lt_of_lt_of_le HS0.out S1.out)).trans X1.out)
        have S2 := Lib.hid (Nat.le_trans S1.out hb2.size)
        clear hb2
        have z2_0 : w3.cell? ⟨w.heap.size, 0, none⟩ = _ := cell_of_row _ _ _ _ _ _ X2.out
        have z2_1 : w3.cell? ⟨w.heap.size, 1, none⟩ = _ := cell_of_row _ _ _ _ _ _ X2.out
        have z2_2 : w3.cell? ⟨w.heap.size, 2, none⟩ = _ := cell_of_row _ _ _ _ _ _ X2.out
        have z2_3 : w3.cell? ⟨w.heap.size, 3, none⟩ = _ := cell_of_row _ _ _ _ _ _ X2.out
        have z2_4 : w3.cell? ⟨w.heap.size, 4, none⟩ = _ := cell_of_row _ _ _ _ _ _ X2.out
        have z2_5 : w3.cell? ⟨w.heap.size, 5, none⟩ = _ := cell_of_row _ _ _ _ _ _ X2.out
        simp only [List.getElem?_toArray, List.getElem?_cons_zero, List.getElem?_cons_succ] at z2_0 z2_1 z2_2 z2_3 z2_4 z2_5
        by_cases f3 : (u3 : Int) ≤ V2
        · have q3 := H3.out _ B2.out V2 (by omega) (by omega)
          rw [szN_yes f3] at q3
          obtain ⟨V3, hV3⟩ : ∃ V', V2 - (u3 : Int) = V' := ⟨_, rfl⟩
          rw [hV3] at q3
          have t3 : decide (V3 < 0) = false := decide_eq_false (by omega)
          replace q3 := Lib.hid q3
          go_wp2_with fail
          refine q3.out.mono ?_
          rintro e w4 ⟨rfl, hb3⟩
          have B3 := Lib.hid (B2.out.trans (hb3.mono B2.out.size))
          have X3 := Lib.hid ((hb3.block w.heap.size (Nat.lt_of_lt_of_le HS0.out S2.out)).trans X2.out)
          have S3 := Lib.hid (Nat.le_trans S2.out hb3.size)
          clear hb3
          have z3_0 : w4.cell? ⟨w.heap.size, 0, none⟩ = _ := cell_of_row _ _ _ _ _ _ X3.out
          have z3_1 : w4.cell? ⟨w.heap.size, 1, none⟩ = _ := cell_of_row _ _ _ _ _ _ X3.out
          have z3_2 : w4.cell? ⟨w.heap.size, 2, none⟩ = _ := cell_of_row _ _ _ _ _ _ X3.out
          have z3_3 : w4.cell? ⟨w.heap.size, 3, none⟩ = _ := cell_of_row _ _ _ _ _ _ X3.out
          have z3_4 : w4.cell? ⟨w.heap.size, 4, none⟩ = _ := cell_of_row _ _ _ _ _ _ X3.out
          have z3_5 : w4.cell? ⟨w.heap.size, 5, none⟩ = _ := cell_of_row _ _ _ _ _ _ X3.out
          simp only [List.getElem?_toArray, List.getElem?_cons_zero, List.getElem?_cons_succ] at z3_0 z3_1 z3_2 z3_3 z3_4 z3_5
          by_cases f4 : (u4 : Int) ≤ V3
          · have q4 := H4.out _ B3.out V3 (by omega) (by omega)
            rw [szN_yes f4] at q4
            obtain ⟨V4, hV4⟩ : ∃ V', V3 - (u4 : Int) = V' := ⟨_, rfl⟩
            rw [hV4] at q4
            have t4 : decide (V4 < 0) = false := decide_eq_false (by omega)
            have hdd : V4 = d := by rw [HD.out, szN_yes (by omega)]; omega
            subst hdd
            replace q4 := Lib.hid q4
            go_wp2_with fail
            refine q4.out.mono ?_
            rintro e w5 ⟨rfl, hb4⟩
            have B4 := Lib.hid (B3.out.trans (hb4.mono B3.out.size))
            clear hb4
            go_wp2_with fail
            go_ret
            exact ⟨rfl, B4.out⟩
          · have q4 := H4.out _ B3.out V3 (by omega) (by omega)
            rw [szN_no f4] at q4
            have hdd : d = -1 := by rw [HD.out]; exact szN_no (by omega)
            subst hdd
            replace q4 := Lib.hid q4
            go_wp2_with fail
            refine q4.out.mono ?_
            rintro e w5 ⟨rfl, hb4⟩
            have B4 := Lib.hid (B3.out.trans (hb4.mono B3.out.size))
            clear hb4
            go_wp2_with fail
            go_ret
            exact ⟨rfl, B4.out⟩
        · have q3 := H3.out _ B2.out V2 (by omega) (by omega)
          rw [szN_no f3] at q3
          have hdd : d = -1 := by rw [HD.out]; exact szN_no (by omega)
          subst hdd
          replace q3 := Lib.hid q3
          go_wp2_with fail
          refine q3.out.mono ?_
          rintro e w4 ⟨rfl, hb3⟩
          have B3 := Lib.hid (B2.out.trans (hb3.mono B2.out.size))
          clear hb3
          go_wp2_with fail
          go_ret
          exact ⟨rfl, B3.out⟩
      · have q2 := H2.out _ B1.out V1 (by omega) (by omega)
        rw [szN_no f2] at q2
        have hdd : d = -1 := by rw [HD.out]; exact szN_no (by omega)
        subst hdd
        replace q2 := Lib.hid q2
        go_wp2_with fail
        refine q2.out.mono ?_
        rintro e w3 ⟨rfl, hb2⟩
        have B2 := Lib.hid (B1.out.trans (hb2.mono B1.out.size))
        clear hb2
        go_wp2_with fail
        go_ret
        exact ⟨rfl, B2.out⟩
    · have q1 := H1.out _ B0.out V0 (by omega) (by omega)
      rw [szN_no f1] at q1
      have hdd : d = -1 := by rw [HD.out]; exact szN_no (by omega)
      subst hdd
      replace q1 := Lib.hid q1
      go_wp2_with fail
      refine q1.out.mono ?_
      rintro e w2 ⟨rfl, hb1⟩
      have B1 := Lib.hid (B0.out.trans (hb1.mono B0.out.size))
      clear hb1
      go_wp2_with fail
      go_ret
      exact ⟨rfl, B1.out⟩
  · have q0 := H0.out _ HA.out L (by omega) (by omega)
    rw [szN_no f0] at q0
    have hdd : d = -1 := by rw [HD.out]; exact szN_no (by omega)
    subst hdd
    replace q0 := Lib.hid q0
    go_enter Try.func17, Try.ntmps17
    go_wp2_with fail
    refine q0.out.mono ?_
    rintro e w1 ⟨rfl, hb0⟩
    have B0 := Lib.hid (HA.out.trans (hb0.mono HA.out.size))
    clear hb0
    go_wp2_with fail
    go_ret
    exact ⟨rfl, B0.out⟩
set_option maxRecDepth 100000 in
set_option maxHeartbeats 800000 in
theorem toConfig_c (w : World) (B : Nat) (es : List Value) (x : dConfig) (h : shConfig.reads (Under B) w es x) (hB : B ≤ w.heap.size) (hb : shConfig.bulk x ≤ 1048576) :
    Calls Try.prog 19 #[.agg es.toArray] w fun e w' => ∃ es', e = .returned (.agg es'.toArray) ∧ shConfig.reads (From w.heap.size w'.heap.size) w' es' x ∧ Below w.heap.size w w' := by
  obtain ⟨a0, n0, c0, a1, n1, c1, a2, n2, c2, a3, n3, c3, a4, n4, c4, rfl, ⟨p0, r0, l0⟩, ⟨p1, r1, l1⟩, ⟨p2, r2, l2⟩, ⟨p3, r3, l3⟩, ⟨p4, r4, l4⟩⟩ := shConfig_reads.1 h
  rw [shConfig_bulk] at hb
  have m0 : n0 ≤ 1048576 := by have := bulk_list shOp l0; omega
  have H0 := Lib.hid fun (w1 : World) (hbw : Below w.heap.size w w1) => toModel_c w1 B [.slice a0 n0 c0] x.1 (shModel_reads.2 ⟨_, _, _, rfl, p0, r0, l0.below hbw hB⟩) (Nat.le_trans hB hbw.size) (by rw [shModel_bulk]; omega)
  have m1 : n1 ≤ 1048576 := by have := bulk_list Shape.int l1; omega
  have H1 := Lib.hid fun (w1 : World) (hbw : Below w.heap.size w w1) => toIntS_c w1 B a1 n1 c1 _ (l1.below hbw hB) (Nat.le_trans hB hbw.size) (by omega)
  have m2 : n2 ≤ 1048576 := by have := bulk_list Shape.bool l2; omega
  have H2 := Lib.hid fun (w1 : World) (hbw : Below w.heap.size w w1) => toBoolS_c w1 B a2 n2 c2 _ (l2.below hbw hB) (Nat.le_trans hB hbw.size) (by omega)
  have m3 : n3 ≤ 1048576 := by have := bulk_list Shape.int l3; omega
  have H3 := Lib.hid fun (w1 : World) (hbw : Below w.heap.size w w1) => toIntS_c w1 B a3 n3 c3 _ (l3.below hbw hB) (Nat.le_trans hB hbw.size) (by omega)
  have m4 : n4 ≤ 1048576 := by have := bulk_list Shape.int l4; omega
  have H4 := Lib.hid fun (w1 : World) (hbw : Below w.heap.size w w1) => toIntS_c w1 B a4 n4 c4 _ (l4.below hbw hB) (Nat.le_trans hB hbw.size) (by omega)
  have hbx := Boxes.start w #[.slice a0 n0 c0, .slice a1 n1 c1, .int .i64 x.2.2.1, .slice a2 n2 c2, .slice a3 n3 c3, .slice a4 n4 c4] #[.slice none 0 0, .slice none 0 0, .int .i64 0, .slice none 0 0, .slice none 0 0, .slice none 0 0] #[.slice none 0 0, .slice none 0 0, .int .i64 0, .slice none 0 0, .slice none 0 0, .slice none 0 0] 41 30
  clear h hb l0 r0 p0 l1 r1 p1 l2 r2 p2 l3 r3 p3 l4 r4 p4
  go_enter Try.func19, Try.ntmps19
  go_wp2_with fail
  generalize ((w.alloc (.cells #[.slice a0 n0 c0, .slice a1 n1 c1, .int .i64 x.2.2.1, .slice a2 n2 c2, .slice a3 n3 c3, .slice a4 n4 c4] 41 (0, 0))).alloc (.cells #[.slice none 0 0, .slice none 0 0, .int .i64 0, .slice none 0 0, .slice none 0 0, .slice none 0 0] 30 (0, 0))).alloc (.cells #[.slice none 0 0, .slice none 0 0, .int .i64 0, .slice none 0 0, .slice none 0 0, .slice none 0 0] 30 (0, 0)) = v0 at hbx ⊢
  have BX0 := Lib.hid hbx
  clear hbx
  refine (H0.out v0 BX0.out.below).mono ?_
  rintro e w1 ⟨es', rfl, hr', hb0⟩
  obtain ⟨a0', n0', c0', rfl, p0', r0', hr0⟩ := shModel_reads.1 hr'
  clear hr'
  have hbx := BX0.out.call hb0
  have hlt0 := BX0.out.size
  have za0_0 : w1.cell? ⟨w.heap.size, 0, none⟩ = _ := cell_of_row _ _ _ _ _ _ hbx.a
  have za0_1 : w1.cell? ⟨w.heap.size, 1, none⟩ = _ := cell_of_row _ _ _ _ _ _ hbx.a
  have za0_2 : w1.cell? ⟨w.heap.size, 2, none⟩ = _ := cell_of_row _ _ _ _ _ _ hbx.a
  have za0_3 : w1.cell? ⟨w.heap.size, 3, none⟩ = _ := cell_of_row _ _ _ _ _ _ hbx.a
  have za0_4 : w1.cell? ⟨w.heap.size, 4, none⟩ = _ := cell_of_row _ _ _ _ _ _ hbx.a
  have za0_5 : w1.cell? ⟨w.heap.size, 5, none⟩ = _ := cell_of_row _ _ _ _ _ _ hbx.a
  have zo0_0 : w1.cell? ⟨w.heap.size + 1 + 1, 0, none⟩ = _ := cell_of_row _ _ _ _ _ _ hbx.o
  have zo0_1 : w1.cell? ⟨w.heap.size + 1 + 1, 1, none⟩ = _ := cell_of_row _ _ _ _ _ _ hbx.o
  have zo0_2 : w1.cell? ⟨w.heap.size + 1 + 1, 2, none⟩ = _ := cell_of_row _ _ _ _ _ _ hbx.o
  have zo0_3 : w1.cell? ⟨w.heap.size + 1 + 1, 3, none⟩ = _ := cell_of_row _ _ _ _ _ _ hbx.o
  have zo0_4 : w1.cell? ⟨w.heap.size + 1 + 1, 4, none⟩ = _ := cell_of_row _ _ _ _ _ _ hbx.o
  have zo0_5 : w1.cell? ⟨w.heap.size + 1 + 1, 5, none⟩ = _ := cell_of_row _ _ _ _ _ _ hbx.o
  have zr0_0 : w1.cell? ⟨w.heap.size + 1, 0, none⟩ = _ := cell_of_row _ _ _ _ _ _ hbx.z
  have zr0_1 : w1.cell? ⟨w.heap.size + 1, 1, none⟩ = _ := cell_of_row _ _ _ _ _ _ hbx.z
  have zr0_2 : w1.cell? ⟨w.heap.size + 1, 2, none⟩ = _ := cell_of_row _ _ _ _ _ _ hbx.z
  have zr0_3 : w1.cell? ⟨w.heap.size + 1, 3, none⟩ = _ := cell_of_row _ _ _ _ _ _ hbx.z
  have zr0_4 : w1.cell? ⟨w.heap.size + 1, 4, none⟩ = _ := cell_of_row _ _ _ _ _ _ hbx.z
  have zr0_5 : w1.cell? ⟨w.heap.size + 1, 5, none⟩ = _ := cell_of_row _ _ _ _ _ _ hbx.z
  have fo0_0 : w1.frozen? ⟨w.heap.size + 1 + 1, 0, none⟩ = false := frozen_of_row _ _ _ _ _ hbx.o
  have fr0_0 : w1.frozen? ⟨w.heap.size + 1, 0, none⟩ = false := frozen_of_row _ _ _ _ _ hbx.z
  have fo0_1 : w1.frozen? ⟨w.heap.size + 1 + 1, 1, none⟩ = false := frozen_of_row _ _ _ _ _ hbx.o
  have fr0_1 : w1.frozen? ⟨w.heap.size + 1, 1, none⟩ = false := frozen_of_row _ _ _ _ _ hbx.z
  have fo0_2 : w1.frozen? ⟨w.heap.size + 1 + 1, 2, none⟩ = false := frozen_of_row _ _ _ _ _ hbx.o
  have fr0_2 : w1.frozen? ⟨w.heap.size + 1, 2, none⟩ = false := frozen_of_row _ _ _ _ _ hbx.z
  have fo0_3 : w1.frozen? ⟨w.heap.size + 1 + 1, 3, none⟩ = false := frozen_of_row _ _ _ _ _ hbx.o
  have fr0_3 : w1.frozen? ⟨w.heap.size + 1, 3, none⟩ = false := frozen_of_row _ _ _ _ _ hbx.z
  have fo0_4 : w1.frozen? ⟨w.heap.size + 1 + 1, 4, none⟩ = false := frozen_of_row _ _ _ _ _ hbx.o
  have fr0_4 : w1.frozen? ⟨w.heap.size + 1, 4, none⟩ = false := frozen_of_row _ _ _ _ _ hbx.z
  have fo0_5 : w1.frozen? ⟨w.heap.size + 1 + 1, 5, none⟩ = false := frozen_of_row _ _ _ _ _ hbx.o
  have fr0_5 : w1.frozen? ⟨w.heap.size + 1, 5, none⟩ = false := frozen_of_row _ _ _ _ _ hbx.z
  simp only [List.setIfInBounds_toArray, List.set_cons_zero, List.set_cons_succ, List.getElem?_toArray, List.getElem?_cons_zero, List.getElem?_cons_succ] at za0_0 zo0_0 zr0_0 za0_1 zo0_1 zr0_1 za0_2 zo0_2 zr0_2 za0_3 zo0_3 zr0_3 za0_4 zo0_4 zr0_4 za0_5 zo0_5 zr0_5
  have N0_0 := hr0.lo (Nat.le_trans (by omega) hlt0 : w.heap.size + 3 ≤ v0.heap.size)
  have hby := (hbx.store 0 (.slice a0' n0' c0'))
  have O0_0 := (N0_0.stored (w.heap.size + 1 + 1) 0 (.slice a0' n0' c0') (by omega))
  replace hb0 := Lib.hid hb0
  replace hby := Lib.hid hby
  replace O0_0 := Lib.hid O0_0
  clear N0_0
  clear hr0 hbx
  go_wp2_with fail
  clear za0_0 zo0_0 zr0_0 fo0_0 fr0_0 za0_1 zo0_1 zr0_1 fo0_1 fr0_1 za0_2 zo0_2 zr0_2 fo0_2 fr0_2 za0_3 zo0_3 zr0_3 fo0_3 fr0_3 za0_4 zo0_4 zr0_4 fo0_4 fr0_4 za0_5 zo0_5 zr0_5 fo0_5 fr0_5
  generalize (w1.setCell ⟨w.heap.size + 1 + 1, 0, none⟩ (.slice a0' n0' c0')) = v1 at hby O0_0 ⊢
  have BX1 := hby
  have M0_0 := O0_0
  clear O0_0 hby
  refine (H1.out v1 BX1.out.below).mono ?_
  rintro e w2 ⟨rfl, hr1, hb1⟩
  have hbx := BX1.out.call hb1
  have hlt1 := BX1.out.size
  have za1_0 : w2.cell? ⟨w.heap.size, 0, none⟩ = _ := cell_of_row _ _ _ _ _ _ hbx.a
  have za1_1 : w2.cell? ⟨w.heap.size, 1, none⟩ = _ := cell_of_row _ _ _ _ _ _ hbx.a
  have za1_2 : w2.cell? ⟨w.heap.size, 2, none⟩ = _ := cell_of_row _ _ _ _ _ _ hbx.a
  have za1_3 : w2.cell? ⟨w.heap.size, 3, none⟩ = _ := cell_of_row _ _ _ _ _ _ hbx.a
  have za1_4 : w2.cell? ⟨w.heap.size, 4, none⟩ = _ := cell_of_row _ _ _ _ _ _ hbx.a
  have za1_5 : w2.cell? ⟨w.heap.size, 5, none⟩ = _ := cell_of_row _ _ _ _ _ _ hbx.a
  have zo1_0 : w2.cell? ⟨w.heap.size + 1 + 1, 0, none⟩ = _ := cell_of_row _ _ _ _ _ _ hbx.o
  have zo1_1 : w2.cell? ⟨w.heap.size + 1 + 1, 1, none⟩ = _ := cell_of_row _ _ _ _ _ _ hbx.o
  have zo1_2 : w2.cell? ⟨w.heap.size + 1 + 1, 2, none⟩ = _ := cell_of_row _ _ _ _ _ _ hbx.o
  have zo1_3 : w2.cell? ⟨w.heap.size + 1 + 1, 3, none⟩ = _ := cell_of_row _ _ _ _ _ _ hbx.o
  have zo1_4 : w2.cell? ⟨w.heap.size + 1 + 1, 4, none⟩ = _ := cell_of_row _ _ _ _ _ _ hbx.o
  have zo1_5 : w2.cell? ⟨w.heap.size + 1 + 1, 5, none⟩ = _ := cell_of_row _ _ _ _ _ _ hbx.o
  have zr1_0 : w2.cell? ⟨w.heap.size + 1, 0, none⟩ = _ := cell_of_row _ _ _ _ _ _ hbx.z
  have zr1_1 : w2.cell? ⟨w.heap.size + 1, 1, none⟩ = _ := cell_of_row _ _ _ _ _ _ hbx.z
  have zr1_2 : w2.cell? ⟨w.heap.size + 1, 2, none⟩ = _ := cell_of_row _ _ _ _ _ _ hbx.z
  have zr1_3 : w2.cell? ⟨w.heap.size + 1, 3, none⟩ = _ := cell_of_row _ _ _ _ _ _ hbx.z
  have zr1_4 : w2.cell? ⟨w.heap.size + 1, 4, none⟩ = _ := cell_of_row _ _ _ _ _ _ hbx.z
  have zr1_5 : w2.cell? ⟨w.heap.size + 1, 5, none⟩ = _ := cell_of_row _ _ _ _ _ _ hbx.z
  have fo1_0 : w2.frozen? ⟨w.heap.size + 1 + 1, 0, none⟩ = false := frozen_of_row _ _ _ _ _ hbx.o
  have fr1_0 : w2.frozen? ⟨w.heap.size + 1, 0, none⟩ = false := frozen_of_row _ _ _ _ _ hbx.z
  have fo1_1 : w2.frozen? ⟨w.heap.size + 1 + 1, 1, none⟩ = false := frozen_of_row _ _ _ _ _ hbx.o
  have fr1_1 : w2.frozen? ⟨w.heap.size + 1, 1, none⟩ = false := frozen_of_row _ _ _ _ _ hbx.z
  have fo1_2 : w2.frozen? ⟨w.heap.size + 1 + 1, 2, none⟩ = false := frozen_of_row _ _ _ _ _ hbx.o
  have fr1_2 : w2.frozen? ⟨w.heap.size + 1, 2, none⟩ = false := frozen_of_row _ _ _ _ _ hbx.z
  have fo1_3 : w2.frozen? ⟨w.heap.size + 1 + 1, 3, none⟩ = false := frozen_of_row _ _ _ _ _ hbx.o
  have fr1_3 : w2.frozen? ⟨w.heap.size + 1, 3, none⟩ = false := frozen_of_row _ _ _ _ _ hbx.z
  have fo1_4 : w2.frozen? ⟨w.heap.size + 1 + 1, 4, none⟩ = false := frozen_of_row _ _ _ _ _ hbx.o
  have fr1_4 : w2.frozen? ⟨w.heap.size + 1, 4, none⟩ = false := frozen_of_row _ _ _ _ _ hbx.z
  have fo1_5 : w2.frozen? ⟨w.heap.size + 1 + 1, 5, none⟩ = false := frozen_of_row _ _ _ _ _ hbx.o
  have fr1_5 : w2.frozen? ⟨w.heap.size + 1, 5, none⟩ = false := frozen_of_row _ _ _ _ _ hbx.z
  simp only [List.setIfInBounds_toArray, List.set_cons_zero, List.set_cons_succ, List.getElem?_toArray, List.getElem?_cons_zero, List.getElem?_cons_succ] at za1_0 zo1_0 zr1_0 za1_1 zo1_1 zr1_1 za1_2 zo1_2 zr1_2 za1_3 zo1_3 zr1_3 za1_4 zo1_4 zr1_4 za1_5 zo1_5 zr1_5
  have N0_1 := M0_0.out.called hb1
  have N1_1 := hr1.lo (Nat.le_trans (by omega) hlt1 : w.heap.size + 3 ≤ v1.heap.size)
  have hby := ((hbx.store 1 (.slice (some ⟨v1.heap.size, 0, none⟩) n1 n1)).store 2 (.int .i64 x.2.2.1))
  have O0_1 := ((N0_1.stored (w.heap.size + 1 + 1) 1 (.slice (some ⟨v1.heap.size, 0, none⟩) n1 n1) (by omega)).stored (w.heap.size + 1 + 1) 2 (.int .i64 x.2.2.1) (by omega))
  have O1_1 := ((N1_1.stored (w.heap.size + 1 + 1) 1 (.slice (some ⟨v1.heap.size, 0, none⟩) n1 n1) (by omega)).stored (w.heap.size + 1 + 1) 2 (.int .i64 x.2.2.1) (by omega))
  replace hb1 := Lib.hid hb1
  replace hby := Lib.hid hby
  replace O0_1 := Lib.hid O0_1
  clear N0_1
  replace O1_1 := Lib.hid O1_1
  clear N1_1
  clear hr1 hbx
  go_wp2_with fail
  clear za1_0 zo1_0 zr1_0 fo1_0 fr1_0 za1_1 zo1_1 zr1_1 fo1_1 fr1_1 za1_2 zo1_2 zr1_2 fo1_2 fr1_2 za1_3 zo1_3 zr1_3 fo1_3 fr1_3 za1_4 zo1_4 zr1_4 fo1_4 fr1_4 za1_5 zo1_5 zr1_5 fo1_5 fr1_5
  generalize ((w2.setCell ⟨w.heap.size + 1 + 1, 1, none⟩ (.slice (some ⟨v1.heap.size, 0, none⟩) n1 n1)).setCell ⟨w.heap.size + 1 + 1, 2, none⟩ (.int .i64 x.2.2.1)) = v2 at hby O0_1 O1_1 ⊢
  have BX2 := hby
  have M0_1 := O0_1
  have M1_1 := O1_1
  clear O0_1 O1_1 hby
  refine (H2.out v2 BX2.out.below).mono ?_
  rintro e w3 ⟨rfl, hr2, hb2⟩
  have hbx := BX2.out.call hb2
  have hlt2 := BX2.out.size
  have za2_0 : w3.cell? ⟨w.heap.size, 0, none⟩ = _ := cell_of_row _ _ _ _ _ _ hbx.a
  have za2_1 : w3.cell? ⟨w.heap.size, 1, none⟩ = _ := cell_of_row _ _ _ _ _ _ hbx.a
  have za2_2 : w3.cell? ⟨w.heap.size, 2, none⟩ = _ := cell_of_row _ _ _ _ _ _ hbx.a
  have za2_3 : w3.cell? ⟨w.heap.size, 3, none⟩ = _ := cell_of_row _ _ _ _ _ _ hbx.a
  have za2_4 : w3.cell? ⟨w.heap.size, 4, none⟩ = _ := cell_of_row _ _ _ _ _ _ hbx.a
  have za2_5 : w3.cell? ⟨w.heap.size, 5, none⟩ = _ := cell_of_row _ _ _ _ _ _ hbx.a
  have zo2_0 : w3.cell? ⟨w.heap.size + 1 + 1, 0, none⟩ = _ := cell_of_row _ _ _ _ _ _ hbx.o
  have zo2_1 : w3.cell? ⟨w.heap.size + 1 + 1, 1, none⟩ = _ := cell_of_row _ _ _ _ _ _ hbx.o
  have zo2_2 : w3.cell? ⟨w.heap.size + 1 + 1, 2, none⟩ = _ := cell_of_row _ _ _ _ _ _ hbx.o
  have zo2_3 : w3.cell? ⟨w.heap.size + 1 + 1, 3, none⟩ = _ := cell_of_row _ _ _ _ _ _ hbx.o
  have zo2_4 : w3.cell? ⟨w.heap.size + 1 + 1, 4, none⟩ = _ := cell_of_row _ _ _ _ _ _ hbx.o
  have zo2_5 : w3.cell? ⟨w.heap.size + 1 + 1, 5, none⟩ = _ := cell_of_row _ _ _ _ _ _ hbx.o
  have zr2_0 : w3.cell? ⟨w.heap.size + 1, 0, none⟩ = _ := cell_of_row _ _ _ _ _ _ hbx.z
  have zr2_1 : w3.cell? ⟨w.heap.size + 1, 1, none⟩ = _ := cell_of_row _ _ _ _ _ _ hbx.z
  have zr2_2 : w3.cell? ⟨w.heap.size + 1, 2, none⟩ = _ := cell_of_row _ _ _ _ _ _ hbx.z
  have zr2_3 : w3.cell? ⟨w.heap.size + 1, 3, none⟩ = _ := cell_of_row _ _ _ _ _ _ hbx.z
  have zr2_4 : w3.cell? ⟨w.heap.size + 1, 4, none⟩ = _ := cell_of_row _ _ _ _ _ _ hbx.z
  have zr2_5 : w3.cell? ⟨w.heap.size + 1, 5, none⟩ = _ := cell_of_row _ _ _ _ _ _ hbx.z
  have fo2_0 : w3.frozen? ⟨w.heap.size + 1 + 1, 0, none⟩ = false := frozen_of_row _ _ _ _ _ hbx.o
  have fr2_0 : w3.frozen? ⟨w.heap.size + 1, 0, none⟩ = false := frozen_of_row _ _ _ _ _ hbx.z
  have fo2_1 : w3.frozen? ⟨w.heap.size + 1 + 1, 1, none⟩ = false := frozen_of_row _ _ _ _ _ hbx.o
  have fr2_1 : w3.frozen? ⟨w.heap.size + 1, 1, none⟩ = false := frozen_of_row _ _ _ _ _ hbx.z
  have fo2_2 : w3.frozen? ⟨w.heap.size + 1 + 1, 2, none⟩ = false := frozen_of_row _ _ _ _ _ hbx.o
  have fr2_2 : w3.frozen? ⟨w.heap.size + 1, 2, none⟩ = false := frozen_of_row _ _ _ _ _ hbx.z
  have fo2_3 : w3.frozen? ⟨w.heap.size + 1 + 1, 3, none⟩ = false := frozen_of_row _ _ _ _ _ hbx.o
  have fr2_3 : w3.frozen? ⟨w.heap.size + 1, 3, none⟩ = false := frozen_of_row _ _ _ _ _ hbx.z
  have fo2_4 : w3.frozen? ⟨w.heap.size + 1 + 1, 4, none⟩ = false := frozen_of_row _ _ _ _ _ hbx.o
  have fr2_4 : w3.frozen? ⟨w.heap.size + 1, 4, none⟩ = false := frozen_of_row _ _ _ _ _ hbx.z
  have fo2_5 : w3.frozen? ⟨w.heap.size + 1 + 1, 5, none⟩ = false := frozen_of_row _ _ _ _ _ hbx.o
  have fr2_5 : w3.frozen? ⟨w.heap.size + 1, 5, none⟩ = false := frozen_of_row _ _ _ _ _ hbx.z
  simp only [List.setIfInBounds_toArray, List.set_cons_zero, List.set_cons_succ, List.getElem?_toArray, List.getElem?_cons_zero, List.getElem?_cons_succ] at za2_0 zo2_0 zr2_0 za2_1 zo2_1 zr2_1 za2_2 zo2_2 zr2_2 za2_3 zo2_3 zr2_3 za2_4 zo2_4 zr2_4 za2_5 zo2_5 zr2_5
  have N0_2 := M0_1.out.called hb2
  have N1_2 := M1_1.out.called hb2
  have N2_2 := hr2.lo (Nat.le_trans (by omega) hlt2 : w.heap.size + 3 ≤ v2.heap.size)
  have hby := (hbx.store 3 (.slice (some ⟨v2.heap.size, 0, none⟩) n2 n2))
  have O0_2 := (N0_2.stored (w.heap.size + 1 + 1) 3 (.slice (some ⟨v2.heap.size, 0, none⟩) n2 n2) (by omega))
  have O1_2 := (N1_2.stored (w.heap.size + 1 + 1) 3 (.slice (some ⟨v2.heap.size, 0, none⟩) n2 n2) (by omega))
  have O2_2 := (N2_2.stored (w.heap.size + 1 + 1) 3 (.slice (some ⟨v2.heap.size, 0, none⟩) n2 n2) (by omega))
  replace hb2 := Lib.hid hb2
  replace hby := Lib.hid hby
  replace O0_2 := Lib.hid O0_2
  clear N0_2
  replace O1_2 := Lib.hid O1_2
  clear N1_2
  replace O2_2 := Lib.hid O2_2
  clear N2_2
  clear hr2 hbx
  go_wp2_with fail
  clear za2_0 zo2_0 zr2_0 fo2_0 fr2_0 za2_1 zo2_1 zr2_1 fo2_1 fr2_1 za2_2 zo2_2 zr2_2 fo2_2 fr2_2 za2_3 zo2_3 zr2_3 fo2_3 fr2_3 za2_4 zo2_4 zr2_4 fo2_4 fr2_4 za2_5 zo2_5 zr2_5 fo2_5 fr2_5
  generalize (w3.setCell ⟨w.heap.size + 1 + 1, 3, none⟩ (.slice (some ⟨v2.heap.size, 0, none⟩) n2 n2)) = v3 at hby O0_2 O1_2 O2_2 ⊢
  have BX3 := hby
  have M0_2 := O0_2
  have M1_2 := O1_2
  have M2_2 := O2_2
  clear O0_2 O1_2 O2_2 hby
  refine (H3.out v3 BX3.out.below).mono ?_
  rintro e w4 ⟨rfl, hr3, hb3⟩
  have hbx := BX3.out.call hb3
  have hlt3 := BX3.out.size
  have za3_0 : w4.cell? ⟨w.heap.size, 0, none⟩ = _ := cell_of_row _ _ _ _ _ _ hbx.a
  have za3_1 : w4.cell? ⟨w.heap.size, 1, none⟩ = _ := cell_of_row _ _ _ _ _ _ hbx.a
  have za3_2 : w4.cell? ⟨w.heap.size, 2, none⟩ = _ := cell_of_row _ _ _ _ _ _ hbx.a
  have za3_3 : w4.cell? ⟨w.heap.size, 3, none⟩ = _ := cell_of_row _ _ _ _ _ _ hbx.a
  have za3_4 : w4.cell? ⟨w.heap.size, 4, none⟩ = _ := cell_of_row _ _ _ _ _ _ hbx.a
  have za3_5 : w4.cell? ⟨w.heap.size, 5, none⟩ = _ := cell_of_row _ _ _ _ _ _ hbx.a
  have zo3_0 : w4.cell? ⟨w.heap.size + 1 + 1, 0, none⟩ = _ := cell_of_row _ _ _ _ _ _ hbx.o
  have zo3_1 : w4.cell? ⟨w.heap.size + 1 + 1, 1, none⟩ = _ := cell_of_row _ _ _ _ _ _ hbx.o
  have zo3_2 : w4.cell? ⟨w.heap.size + 1 + 1, 2, none⟩ = _ := cell_of_row _ _ _ _ _ _ hbx.o
  have zo3_3 : w4.cell? ⟨w.heap.size + 1 + 1, 3, none⟩ = _ := cell_of_row _ _ _ _ _ _ hbx.o
  have zo3_4 : w4.cell? ⟨w.heap.size + 1 + 1, 4, none⟩ = _ := cell_of_row _ _ _ _ _ _ hbx.o
  have zo3_5 : w4.cell? ⟨w.heap.size + 1 + 1, 5, none⟩ = _ := cell_of_row _ _ _ _ _ _ hbx.o
  have zr3_0 : w4.cell? ⟨w.heap.size + 1, 0, none⟩ = _ := cell_of_row _ _ _ _ _ _ hbx.z
  have zr3_1 : w4.cell? ⟨w.heap.size + 1, 1, none⟩ = _ := cell_of_row _ _ _ _ _ _ hbx.z
  have zr3_2 : w4.cell? ⟨w.heap.size + 1, 2, none⟩ = _ := cell_of_row _ _ _ _ _ _ hbx.z
  have zr3_3 : w4.cell? ⟨w.heap.size + 1, 3, none⟩ = _ := cell_of_row _ _ _ _ _ _ hbx.z
  have zr3_4 : w4.cell? ⟨w.heap.size + 1, 4, none⟩ = _ := cell_of_row _ _ _ _ _ _ hbx.z
  have zr3_5 : w4.cell? ⟨w.heap.size + 1, 5, none⟩ = _ := cell_of_row _ _ _ _ _ _ hbx.z
  have fo3_0 : w4.frozen? ⟨w.heap.size + 1 + 1, 0, none⟩ = false := frozen_of_row _ _ _ _ _ hbx.o
  have fr3_0 : w4.frozen? ⟨w.heap.size + 1, 0, none⟩ = false := frozen_of_row _ _ _ _ _ hbx.z
  have fo3_1 : w4.frozen? ⟨w.heap.size + 1 + 1, 1, none⟩ = false := frozen_of_row _ _ _ _ _ hbx.o
  have fr3_1 : w4.frozen? ⟨w.heap.size + 1, 1, none⟩ = false := frozen_of_row _ _ _ _ _ hbx.z
  have fo3_2 : w4.frozen? ⟨w.heap.size + 1 + 1, 2, none⟩ = false := frozen_of_row _ _ _ _ _ hbx.o
  have fr3_2 : w4.frozen? ⟨w.heap.size + 1, 2, none⟩ = false := frozen_of_row _ _ _ _ _ hbx.z
  have fo3_3 : w4.frozen? ⟨w.heap.size + 1 + 1, 3, none⟩ = false := frozen_of_row _ _ _ _ _ hbx.o
  have fr3_3 : w4.frozen? ⟨w.heap.size + 1, 3, none⟩ = false := frozen_of_row _ _ _ _ _ hbx.z
  have fo3_4 : w4.frozen? ⟨w.heap.size + 1 + 1, 4, none⟩ = false := frozen_of_row _ _ _ _ _ hbx.o
  have fr3_4 : w4.frozen? ⟨w.heap.size + 1, 4, none⟩ = false := frozen_of_row _ _ _ _ _ hbx.z
  have fo3_5 : w4.frozen? ⟨w.heap.size + 1 + 1, 5, none⟩ = false := frozen_of_row _ _ _ _ _ hbx.o
  have fr3_5 : w4.frozen? ⟨w.heap.size + 1, 5, none⟩ = false := frozen_of_row _ _ _ _ _ hbx.z
  simp only [List.setIfInBounds_toArray, List.set_cons_zero, List.set_cons_succ, List.getElem?_toArray, List.getElem?_cons_zero, List.getElem?_cons_succ] at za3_0 zo3_0 zr3_0 za3_1 zo3_1 zr3_1 za3_2 zo3_2 zr3_2 za3_3 zo3_3 zr3_3 za3_4 zo3_4 zr3_4 za3_5 zo3_5 zr3_5
  have N0_3 := M0_2.out.called hb3
  have N1_3 := M1_2.out.called hb3
  have N2_3 := M2_2.out.called hb3
  have N3_3 := hr3.lo (Nat.le_trans (by omega) hlt3 : w.heap.size + 3 ≤ v3.heap.size)
  have hby := (hbx.store 4 (.slice (some ⟨v3.heap.size, 0, none⟩) n3 n3))
  have O0_3 := (N0_3.stored (w.heap.size + 1 + 1) 4 (.slice (some ⟨v3.heap.size, 0, none⟩) n3 n3) (by omega))
  have O1_3 := (N1_3.stored (w.heap.size + 1 + 1) 4 (.slice (some ⟨v3.heap.size, 0, none⟩) n3 n3) (by omega))
  have O2_3 := (N2_3.stored (w.heap.size + 1 + 1) 4 (.slice (some ⟨v3.heap.size, 0, none⟩) n3 n3) (by omega))
  have O3_3 := (N3_3.stored (w.heap.size + 1 + 1) 4 (.slice (some ⟨v3.heap.size, 0, none⟩) n3 n3) (by omega))
  replace hb3 := Lib.hid hb3
  replace hby := Lib.hid hby
  replace O0_3 := Lib.hid O0_3
  clear N0_3
  replace O1_3 := Lib.hid O1_3
  clear N1_3
  replace O2_3 := Lib.hid O2_3
  clear N2_3
  replace O3_3 := Lib.hid O3_3
  clear N3_3
  clear hr3 hbx
  go_wp2_with fail
  clear za3_0 zo3_0 zr3_0 fo3_0 fr3_0 za3_1 zo3_1 zr3_1 fo3_1 fr3_1 za3_2 zo3_2 zr3_2 fo3_2 fr3_2 za3_3 zo3_3 zr3_3 fo3_3 fr3_3 za3_4 zo3_4 zr3_4 fo3_4 fr3_4 za3_5 zo3_5 zr3_5 fo3_5 fr3_5
  generalize (w4.setCell ⟨w.heap.size + 1 + 1, 4, none⟩ (.slice (some ⟨v3.heap.size, 0, none⟩) n3 n3)) = v4 at hby O0_3 O1_3 O2_3 O3_3 ⊢
  have BX4 := hby
  have M0_3 := O0_3
  have M1_3 := O1_3
  have M2_3 := O2_3
  have M3_3 := O3_3
  clear O0_3 O1_3 O2_3 O3_3 hby
  refine (H4.out v4 BX4.out.below).mono ?_
  rintro e w5 ⟨rfl, hr4, hb4⟩
  have hbx := BX4.out.call hb4
  have hlt4 := BX4.out.size
  have za4_0 : w5.cell? ⟨w.heap.size, 0, none⟩ = _ := cell_of_row _ _ _ _ _ _ hbx.a
  have za4_1 : w5.cell? ⟨w.heap.size, 1, none⟩ = _ := cell_of_row _ _ _ _ _ _ hbx.a
  have za4_2 : w5.cell? ⟨w.heap.size, 2, none⟩ = _ := cell_of_row _ _ _ _ _ _ hbx.a
  have za4_3 : w5.cell? ⟨w.heap.size, 3, none⟩ = _ := cell_of_row _ _ _ _ _ _ hbx.a
  have za4_4 : w5.cell? ⟨w.heap.size, 4, none⟩ = _ := cell_of_row _ _ _ _ _ _ hbx.a
  have za4_5 : w5.cell? ⟨w.heap.size, 5, none⟩ = _ := cell_of_row _ _ _ _ _ _ hbx.a
  have zo4_0 : w5.cell? ⟨w.heap.size + 1 + 1, 0, none⟩ = _ := cell_of_row _ _ _ _ _ _ hbx.o
  have zo4_1 : w5.cell? ⟨w.heap.size + 1 + 1, 1, none⟩ = _ := cell_of_row _ _ _ _ _ _ hbx.o
  have zo4_2 : w5.cell? ⟨w.heap.size + 1 + 1, 2, none⟩ = _ := cell_of_row _ _ _ _ _ _ hbx.o
  have zo4_3 : w5.cell? ⟨w.heap.size + 1 + 1, 3, none⟩ = _ := cell_of_row _ _ _ _ _ _ hbx.o
  have zo4_4 : w5.cell? ⟨w.heap.size + 1 + 1, 4, none⟩ = _ := cell_of_row _ _ _ _ _ _ hbx.o
  have zo4_5 : w5.cell? ⟨w.heap.size + 1 + 1, 5, none⟩ = _ := cell_of_row _ _ _ _ _ _ hbx.o
  have zr4_0 : w5.cell? ⟨w.heap.size + 1, 0, none⟩ = _ := cell_of_row _ _ _ _ _ _ hbx.z
  have zr4_1 : w5.cell? ⟨w.heap.size + 1, 1, none⟩ = _ := cell_of_row _ _ _ _ _ _ hbx.z
  have zr4_2 : w5.cell? ⟨w.heap.size + 1, 2, none⟩ = _ := cell_of_row _ _ _ _ _ _ hbx.z
  have zr4_3 : w5.cell? ⟨w.heap.size + 1, 3, none⟩ = _ := cell_of_row _ _ _ _ _ _ hbx.z
  have zr4_4 : w5.cell? ⟨w.heap.size + 1, 4, none⟩ = _ := cell_of_row _ _ _ _ _ _ hbx.z
  have zr4_5 : w5.cell? ⟨w.heap.size + 1, 5, none⟩ = _ := cell_of_row _ _ _ _ _ _ hbx.z
  have fo4_0 : w5.frozen? ⟨w.heap.size + 1 + 1, 0, none⟩ = false := frozen_of_row _ _ _ _ _ hbx.o
  have fr4_0 : w5.frozen? ⟨w.heap.size + 1, 0, none⟩ = false := frozen_of_row _ _ _ _ _ hbx.z
  have fo4_1 : w5.frozen? ⟨w.heap.size + 1 + 1, 1, none⟩ = false := frozen_of_row _ _ _ _ _ hbx.o
  have fr4_1 : w5.frozen? ⟨w.heap.size + 1, 1, none⟩ = false := frozen_of_row _ _ _ _ _ hbx.z
  have fo4_2 : w5.frozen? ⟨w.heap.size + 1 + 1, 2, none⟩ = false := frozen_of_row _ _ _ _ _ hbx.o
  have fr4_2 : w5.frozen? ⟨w.heap.size + 1, 2, none⟩ = false := frozen_of_row _ _ _ _ _ hbx.z
  have fo4_3 : w5.frozen? ⟨w.heap.size + 1 + 1, 3, none⟩ = false := frozen_of_row _ _ _ _ _ hbx.o
  have fr4_3 : w5.frozen? ⟨w.heap.size + 1, 3, none⟩ = false := frozen_of_row _ _ _ _ _ hbx.z
  have fo4_4 : w5.frozen? ⟨w.heap.size + 1 + 1, 4, none⟩ = false := frozen_of_row _ _ _ _ _ hbx.o
  have fr4_4 : w5.frozen? ⟨w.heap.size + 1, 4, none⟩ = false := frozen_of_row _ _ _ _ _ hbx.z
  have fo4_5 : w5.frozen? ⟨w.heap.size + 1 + 1, 5, none⟩ = false := frozen_of_row _ _ _ _ _ hbx.o
  have fr4_5 : w5.frozen? ⟨w.heap.size + 1, 5, none⟩ = false := frozen_of_row _ _ _ _ _ hbx.z
  simp only [List.setIfInBounds_toArray, List.set_cons_zero, List.set_cons_succ, List.getElem?_toArray, List.getElem?_cons_zero, List.getElem?_cons_succ] at za4_0 zo4_0 zr4_0 za4_1 zo4_1 zr4_1 za4_2 zo4_2 zr4_2 za4_3 zo4_3 zr4_3 za4_4 zo4_4 zr4_4 za4_5 zo4_5 zr4_5
  have N0_4 := M0_3.out.called hb4
  have N1_4 := M1_3.out.called hb4
  have N2_4 := M2_3.out.called hb4
  have N3_4 := M3_3.out.called hb4
  have N4_4 := hr4.lo (Nat.le_trans (by omega) hlt4 : w.heap.size + 3 ≤ v4.heap.size)
  have hby := (hbx.store 5 (.slice (some ⟨v4.heap.size, 0, none⟩) n4 n4))
  have O0_4 := (N0_4.stored (w.heap.size + 1 + 1) 5 (.slice (some ⟨v4.heap.size, 0, none⟩) n4 n4) (by omega))
  have O1_4 := (N1_4.stored (w.heap.size + 1 + 1) 5 (.slice (some ⟨v4.heap.size, 0, none⟩) n4 n4) (by omega))
  have O2_4 := (N2_4.stored (w.heap.size + 1 + 1) 5 (.slice (some ⟨v4.heap.size, 0, none⟩) n4 n4) (by omega))
  have O3_4 := (N3_4.stored (w.heap.size + 1 + 1) 5 (.slice (some ⟨v4.heap.size, 0, none⟩) n4 n4) (by omega))
  have O4_4 := (N4_4.stored (w.heap.size + 1 + 1) 5 (.slice (some ⟨v4.heap.size, 0, none⟩) n4 n4) (by omega))
  replace hby := Lib.hid hby
  replace O0_4 := Lib.hid O0_4
  clear N0_4
  replace O1_4 := Lib.hid O1_4
  clear N1_4
  replace O2_4 := Lib.hid O2_4
  clear N2_4
  replace O3_4 := Lib.hid O3_4
  clear N3_4
  replace O4_4 := Lib.hid O4_4
  clear N4_4
  clear hr4 hbx hb4
  go_wp2_with fail
  refine bodyPost_ret (results_cell_row rfl _ _ (w.heap.size + 1) 30 #[.slice a0' n0' c0', .slice (some ⟨v1.heap.size, 0, none⟩) n1 n1, .int .i64 x.2.2.1, .slice (some ⟨v2.heap.size, 0, none⟩) n2 n2, .slice (some ⟨v3.heap.size, 0, none⟩) n3 n3, .slice (some ⟨v4.heap.size, 0, none⟩) n4 n4] (0, 0) _ rfl ?_ Try.underlying30 rfl (by kernel_rfl)) rfl ?_
  · exact hby.out.result [.slice a0' n0' c0', .slice (some ⟨v1.heap.size, 0, none⟩) n1 n1, .int .i64 x.2.2.1, .slice (some ⟨v2.heap.size, 0, none⟩) n2 n2, .slice (some ⟨v3.heap.size, 0, none⟩) n3 n3, .slice (some ⟨v4.heap.size, 0, none⟩) n4 n4] rfl
  refine ⟨[.slice a0' n0' c0', .slice (some ⟨v1.heap.size, 0, none⟩) n1 n1, .int .i64 x.2.2.1, .slice (some ⟨v2.heap.size, 0, none⟩) n2 n2, .slice (some ⟨v3.heap.size, 0, none⟩) n3 n3, .slice (some ⟨v4.heap.size, 0, none⟩) n4 n4], rfl, ?_, hby.out.last [.slice a0' n0' c0', .slice (some ⟨v1.heap.size, 0, none⟩) n1 n1, .int .i64 x.2.2.1, .slice (some ⟨v2.heap.size, 0, none⟩) n2 n2, .slice (some ⟨v3.heap.size, 0, none⟩) n3 n3, .slice (some ⟨v4.heap.size, 0, none⟩) n4 n4]⟩
  exact shConfig_reads.2 ⟨_, _, _, _, _, _, _, _, _, _, _, _, _, _, _, rfl, ⟨p0', r0', (O0_4.out.storedAll (w.heap.size + 1) 0 [.slice a0' n0' c0', .slice (some ⟨v1.heap.size, 0, none⟩) n1 n1, .int .i64 x.2.2.1, .slice (some ⟨v2.heap.size, 0, none⟩) n2 n2, .slice (some ⟨v3.heap.size, 0, none⟩) n3 n3, .slice (some ⟨v4.heap.size, 0, none⟩) n4 n4] (by omega)).lo (by omega)⟩, ⟨Nat.le_refl _, by omega, (O1_4.out.storedAll (w.heap.size + 1) 0 [.slice a0' n0' c0', .slice (some ⟨v1.heap.size, 0, none⟩) n1 n1, .int .i64 x.2.2.1, .slice (some ⟨v2.heap.size, 0, none⟩) n2 n2, .slice (some ⟨v3.heap.size, 0, none⟩) n3 n3, .slice (some ⟨v4.heap.size, 0, none⟩) n4 n4] (by omega)).lo (by omega)⟩, ⟨Nat.le_refl _, by omega, (O2_4.out.storedAll (w.heap.size + 1) 0 [.slice a0' n0' c0', .slice (some ⟨v1.heap.size, 0, none⟩) n1 n1, .int .i64 x.2.2.1, .slice (some ⟨v2.heap.size, 0, none⟩) n2 n2, .slice (some ⟨v3.heap.size, 0, none⟩) n3 n3, .slice (some ⟨v4.heap.size, 0, none⟩) n4 n4] (by omega)).lo (by omega)⟩, ⟨Nat.le_refl _, by omega, (O3_4.out.storedAll (w.heap.size + 1) 0 [.slice a0' n0' c0', .slice (some ⟨v1.heap.size, 0, none⟩) n1 n1, .int .i64 x.2.2.1, .slice (some ⟨v2.heap.size, 0, none⟩) n2 n2, .slice (some ⟨v3.heap.size, 0, none⟩) n3 n3, .slice (some ⟨v4.heap.size, 0, none⟩) n4 n4] (by omega)).lo (by omega)⟩, ⟨Nat.le_refl _, by omega, (O4_4.out.storedAll (w.heap.size + 1) 0 [.slice a0' n0' c0', .slice (some ⟨v1.heap.size, 0, none⟩) n1 n1, .int .i64 x.2.2.1, .slice (some ⟨v2.heap.size, 0, none⟩) n2 n2, .slice (some ⟨v3.heap.size, 0, none⟩) n3 n3, .slice (some ⟨v4.heap.size, 0, none⟩) n4 n4] (by omega)).lo (by omega)⟩⟩
set_option maxRecDepth 100000 in
set_option maxHeartbeats 800000 in
theorem eqConfig_c (w : World) (B B' : Nat) (es es' : List Value) (x : dConfig) (h : shConfig.reads (Under B) w es x) (h' : shConfig.reads (Under B') w es' x) (hB : B ≤ w.heap.size) (hB' : B' ≤ w.heap.size) (hb : shConfig.bulk x ≤ 1048576) :
    Calls Try.prog 21 #[.agg es.toArray, .agg es'.toArray] w fun e w' => e = .returned (.bool true) ∧ Below w.heap.size w w' := by
  obtain ⟨a0, n0, c0, a1, n1, c1, a2, n2, c2, a3, n3, c3, a4, n4, c4, rfl, ⟨p0, r0, l0⟩, ⟨-, -, l1⟩, ⟨-, -, l2⟩, ⟨-, -, l3⟩, ⟨-, -, l4⟩⟩ := shConfig_reads.1 h
  obtain ⟨b0, nb0, cb0, b1, nb1, cb1, b2, nb2, cb2, b3, nb3, cb3, b4, nb4, cb4, rfl, ⟨p0', r0', m0⟩, ⟨-, -, m1⟩, ⟨-, -, m2⟩, ⟨-, -, m3⟩, ⟨-, -, m4⟩⟩ := shConfig_reads.1 h'
  obtain rfl : nb0 = n0 := by rw [← l0.1, ← m0.1]
  obtain rfl : nb1 = n1 := by rw [← l1.1, ← m1.1]
  obtain rfl : nb2 = n2 := by rw [← l2.1, ← m2.1]
  obtain rfl : nb3 = n3 := by rw [← l3.1, ← m3.1]
  obtain rfl : nb4 = n4 := by rw [← l4.1, ← m4.1]
  rw [shConfig_bulk] at hb
  have ha := ((Below.refl w.heap.size w).alloc (Nat.le_refl _) (.cells #[.slice a0 nb0 c0, .slice a1 nb1 c1, .int .i64 x.2.2.1, .slice a2 nb2 c2, .slice a3 nb3 c3, .slice a4 nb4 c4] 30 (0, 0))).alloc (by simp) (.cells #[.slice b0 nb0 cb0, .slice b1 nb1 cb1, .int .i64 x.2.2.1, .slice b2 nb2 cb2, .slice b3 nb3 cb3, .slice b4 nb4 cb4] 30 (0, 0))
  have hA : ((w.alloc (.cells #[.slice a0 nb0 c0, .slice a1 nb1 c1, .int .i64 x.2.2.1, .slice a2 nb2 c2, .slice a3 nb3 c3, .slice a4 nb4 c4] 30 (0, 0))).alloc (.cells #[.slice b0 nb0 cb0, .slice b1 nb1 cb1, .int .i64 x.2.2.1, .slice b2 nb2 cb2, .slice b3 nb3 cb3, .slice b4 nb4 cb4] 30 (0, 0))).heap[w.heap.size]? = some (.cells #[.slice a0 nb0 c0, .slice a1 nb1 c1, .int .i64 x.2.2.1, .slice a2 nb2 c2, .slice a3 nb3 c3, .slice a4 nb4 c4] 30 (0, 0)) := by
    rw [Below.heap_alloc _ _ _ (by simp)]
    exact heap_alloc_new w _
  have hC : ((w.alloc (.cells #[.slice a0 nb0 c0, .slice a1 nb1 c1, .int .i64 x.2.2.1, .slice a2 nb2 c2, .slice a3 nb3 c3, .slice a4 nb4 c4] 30 (0, 0))).alloc (.cells #[.slice b0 nb0 cb0, .slice b1 nb1 cb1, .int .i64 x.2.2.1, .slice b2 nb2 cb2, .slice b3 nb3 cb3, .slice b4 nb4 cb4] 30 (0, 0))).heap[w.heap.size + 1]? = some (.cells #[.slice b0 nb0 cb0, .slice b1 nb1 cb1, .int .i64 x.2.2.1, .slice b2 nb2 cb2, .slice b3 nb3 cb3, .slice b4 nb4 cb4] 30 (0, 0)) := by
    have := heap_alloc_new (w.alloc (.cells #[.slice a0 nb0 c0, .slice a1 nb1 c1, .int .i64 x.2.2.1, .slice a2 nb2 c2, .slice a3 nb3 c3, .slice a4 nb4 c4] 30 (0, 0))) (.cells #[.slice b0 nb0 cb0, .slice b1 nb1 cb1, .int .i64 x.2.2.1, .slice b2 nb2 cb2, .slice b3 nb3 cb3, .slice b4 nb4 cb4] 30 (0, 0))
    simpa using this
  have hS : w.heap.size + 1 < ((w.alloc (.cells #[.slice a0 nb0 c0, .slice a1 nb1 c1, .int .i64 x.2.2.1, .slice a2 nb2 c2, .slice a3 nb3 c3, .slice a4 nb4 c4] 30 (0, 0))).alloc (.cells #[.slice b0 nb0 cb0, .slice b1 nb1 cb1, .int .i64 x.2.2.1, .slice b2 nb2 cb2, .slice b3 nb3 cb3, .slice b4 nb4 cb4] 30 (0, 0))).heap.size := by simp
  have H0 := Lib.hid fun (w1 : World) (hbw : Below w.heap.size w w1) => eqModel_c w1 B B' [.slice a0 nb0 c0] [.slice b0 nb0 cb0] x.1 (shModel_reads.2 ⟨_, _, _, rfl, p0, r0, l0.below hbw hB⟩) (shModel_reads.2 ⟨_, _, _, rfl, p0', r0', m0.below hbw hB'⟩) (Nat.le_trans hB hbw.size) (Nat.le_trans hB' hbw.size) (by rw [shModel_bulk]; omega)
  have H1 := Lib.hid fun (w1 : World) (hbw : Below w.heap.size w w1) => eqIntS_c w1 B B' a1 b1 nb1 c1 cb1 _ (l1.below hbw hB) (m1.below hbw hB') (Nat.le_trans hB hbw.size) (Nat.le_trans hB' hbw.size) (by omega)
  have H2 := Lib.hid fun (w1 : World) (hbw : Below w.heap.size w w1) => eqBoolS_c w1 B B' a2 b2 nb2 c2 cb2 _ (l2.below hbw hB) (m2.below hbw hB') (Nat.le_trans hB hbw.size) (Nat.le_trans hB' hbw.size) (by omega)
  have H3 := Lib.hid fun (w1 : World) (hbw : Below w.heap.size w w1) => eqIntS_c w1 B B' a3 b3 nb3 c3 cb3 _ (l3.below hbw hB) (m3.below hbw hB') (Nat.le_trans hB hbw.size) (Nat.le_trans hB' hbw.size) (by omega)
  have H4 := Lib.hid fun (w1 : World) (hbw : Below w.heap.size w w1) => eqIntS_c w1 B B' a4 b4 nb4 c4 cb4 _ (l4.below hbw hB) (m4.below hbw hB') (Nat.le_trans hB hbw.size) (Nat.le_trans hB' hbw.size) (by omega)
  have HA := Lib.hid ha
  have XA := Lib.hid hA
  have XC := Lib.hid hC
  have HS := Lib.hid hS
  clear h h' hb ha hA hC hS l0 m0 l1 m1 l2 m2 l3 m3 l4 m4
  go_enter Try.func21, Try.ntmps21
  go_wp2_with fail
  refine (H0.out _ HA.out).mono ?_
  rintro e w1 ⟨rfl, hb0⟩
  have B0 := Lib.hid (HA.out.trans (hb0.mono HA.out.size))
  have XA0 := Lib.hid ((hb0.block w.heap.size (by have := HS.out; omega)).trans XA.out)
  have XC0 := Lib.hid ((hb0.block (w.heap.size + 1) HS.out).trans XC.out)
  have HS0 := Lib.hid (Nat.lt_of_lt_of_le HS.out hb0.size)
  have za0_0 : w1.cell? ⟨w.heap.size, 0, none⟩ = _ := cell_of_row _ _ _ _ _ _ XA0.out
  have zc0_0 : w1.cell? ⟨w.heap.size + 1, 0, none⟩ = _ := cell_of_row _ _ _ _ _ _ XC0.out
  have za0_1 : w1.cell? ⟨w.heap.size, 1, none⟩ = _ := cell_of_row _ _ _ _ _ _ XA0.out
  have zc0_1 : w1.cell? ⟨w.heap.size + 1, 1, none⟩ = _ := cell_of_row _ _ _ _ _ _ XC0.out
  have za0_2 : w1.cell? ⟨w.heap.size, 2, none⟩ = _ := cell_of_row _ _ _ _ _ _ XA0.out
  have zc0_2 : w1.cell? ⟨w.heap.size + 1, 2, none⟩ = _ := cell_of_row _ _ _ _ _ _ XC0.out
  have za0_3 : w1.cell? ⟨w.heap.size, 3, none⟩ = _ := cell_of_row _ _ _ _ _ _ XA0.out
  have zc0_3 : w1.cell? ⟨w.heap.size + 1, 3, none⟩ = _ := cell_of_row _ _ _ _ _ _ XC0.out
  have za0_4 : w1.cell? ⟨w.heap.size, 4, none⟩ = _ := cell_of_row _ _ _ _ _ _ XA0.out
  have zc0_4 : w1.cell? ⟨w.heap.size + 1, 4, none⟩ = _ := cell_of_row _ _ _ _ _ _ XC0.out
  have za0_5 : w1.cell? ⟨w.heap.size, 5, none⟩ = _ := cell_of_row _ _ _ _ _ _ XA0.out
  have zc0_5 : w1.cell? ⟨w.heap.size + 1, 5, none⟩ = _ := cell_of_row _ _ _ _ _ _ XC0.out
  simp only [List.getElem?_toArray, List.getElem?_cons_zero, List.getElem?_cons_succ] at za0_0 zc0_0 za0_1 zc0_1 za0_2 zc0_2 za0_3 zc0_3 za0_4 zc0_4 za0_5 zc0_5
  clear hb0
  go_wp2_with fail
  refine (H1.out _ B0.out).mono ?_
  rintro e w2 ⟨rfl, hb1⟩
  have B1 := Lib.hid (B0.out.trans (hb1.mono B0.out.size))
  have XA1 := Lib.hid ((hb1.block w.heap.size (by have := HS0.out; omega)).trans XA0.out)
  have XC1 := Lib.hid ((hb1.block (w.heap.size + 1) HS0.out).trans XC0.out)
  have HS1 := Lib.hid (Nat.lt_of_lt_of_le HS0.out hb1.size)
  have za1_0 : w2.cell? ⟨w.heap.size, 0, none⟩ = _ := cell_of_row _ _ _ _ _ _ XA1.out
  have zc1_0 : w2.cell? ⟨w.heap.size + 1, 0, none⟩ = _ := cell_of_row _ _ _ _ _ _ XC1.out
  have za1_1 : w2.cell? ⟨w.heap.size, 1, none⟩ = _ := cell_of_row _ _ _ _ _ _ XA1.out
  have zc1_1 : w2.cell? ⟨w.heap.size + 1, 1, none⟩ = _ := cell_of_row _ _ _ _ _ _ XC1.out
  have za1_2 : w2.cell? ⟨w.heap.size, 2, none⟩ = _ := cell_of_row _ _ _ _ _ _ XA1.out
  have zc1_2 : w2.cell? ⟨w.heap.size + 1, 2, none⟩ = _ := cell_of_row _ _ _ _ _ _ XC1.out
  have za1_3 : w2.cell? ⟨w.heap.size, 3, none⟩ = _ := cell_of_row _ _ _ _ _ _ XA1.out
  have zc1_3 : w2.cell? ⟨w.heap.size + 1, 3, none⟩ = _ := cell_of_row _ _ _ _ _ _ XC1.out
  have za1_4 : w2.cell? ⟨w.heap.size, 4, none⟩ = _ := cell_of_row _ _ _ _ _ _ XA1.out
  have zc1_4 : w2.cell? ⟨w.heap.size + 1, 4, none⟩ = _ := cell_of_row _ _ _ _ _ _ XC1.out
  have za1_5 : w2.cell? ⟨w.heap.size, 5, none⟩ = _ := cell_of_row _ _ _ _ _ _ XA1.out
  have zc1_5 : w2.cell? ⟨w.heap.size + 1, 5, none⟩ = _ := cell_of_row _ _ _ _ _ _ XC1.out
  simp only [List.getElem?_toArray, List.getElem?_cons_zero, List.getElem?_cons_succ] at za1_0 zc1_0 za1_1 zc1_1 za1_2 zc1_2 za1_3 zc1_3 za1_4 zc1_4 za1_5 zc1_5
  clear hb1
  go_wp2_with fail
  refine (H2.out _ B1.out).mono ?_
  rintro e w3 ⟨rfl, hb2⟩
  have B2 := Lib.hid (B1.out.trans (hb2.mono B1.out.size))
  have XA2 := Lib.hid ((hb2.block w.heap.size (by have := HS1.out; omega)).trans XA1.out)
  have XC2 := Lib.hid ((hb2.block (w.heap.size + 1) HS1.out).trans XC1.out)
  have HS2 := Lib.hid (Nat.lt_of_lt_of_le HS1.out hb2.size)
  have za2_0 : w3.cell? ⟨w.heap.size, 0, none⟩ = _ := cell_of_row _ _ _ _ _ _ XA2.out
  have zc2_0 : w3.cell? ⟨w.heap.size + 1, 0, none⟩ = _ := cell_of_row _ _ _ _ _ _ XC2.out
  have za2_1 : w3.cell? ⟨w.heap.size, 1, none⟩ = _ := cell_of_row _ _ _ _ _ _ XA2.out
  have zc2_1 : w3.cell? ⟨w.heap.size + 1, 1, none⟩ = _ := cell_of_row _ _ _ _ _ _ XC2.out
  have za2_2 : w3.cell? ⟨w.heap.size, 2, none⟩ = _ := cell_of_row _ _ _ _ _ _ XA2.out
  have zc2_2 : w3.cell? ⟨w.heap.size + 1, 2, none⟩ = _ := cell_of_row _ _ _ _ _ _ XC2.out
  have za2_3 : w3.cell? ⟨w.heap.size, 3, none⟩ = _ := cell_of_row _ _ _ _ _ _ XA2.out
  have zc2_3 : w3.cell? ⟨w.heap.size + 1, 3, none⟩ = _ := cell_of_row _ _ _ _ _ _ XC2.out
  have za2_4 : w3.cell? ⟨w.heap.size, 4, none⟩ = _ := cell_of_row _ _ _ _ _ _ XA2.out
  have zc2_4 : w3.cell? ⟨w.heap.size + 1, 4, none⟩ = _ := cell_of_row _ _ _ _ _ _ XC2.out
  have za2_5 : w3.cell? ⟨w.heap.size, 5, none⟩ = _ := cell_of_row _ _ _ _ _ _ XA2.out
  have zc2_5 : w3.cell? ⟨w.heap.size + 1, 5, none⟩ = _ := cell_of_row _ _ _ _ _ _ XC2.out
  simp only [List.getElem?_toArray, List.getElem?_cons_zero, List.getElem?_cons_succ] at za2_0 zc2_0 za2_1 zc2_1 za2_2 zc2_2 za2_3 zc2_3 za2_4 zc2_4 za2_5 zc2_5
  clear hb2
  go_wp2_with fail
  refine (H3.out _ B2.out).mono ?_
  rintro e w4 ⟨rfl, hb3⟩
  have B3 := Lib.hid (B2.out.trans (hb3.mono B2.out.size))
  have XA3 := Lib.hid ((hb3.block w.heap.size (by have := HS2.out; omega)).trans XA2.out)
  have XC3 := Lib.hid ((hb3.block (w.heap.size + 1) HS2.out).trans XC2.out)
  have HS3 := Lib.hid (Nat.lt_of_lt_of_le HS2.out hb3.size)
  have za3_0 : w4.cell? ⟨w.heap.size, 0, none⟩ = _ := cell_of_row _ _ _ _ _ _ XA3.out
  have zc3_0 : w4.cell? ⟨w.heap.size + 1, 0, none⟩ = _ := cell_of_row _ _ _ _ _ _ XC3.out
  have za3_1 : w4.cell? ⟨w.heap.size, 1, none⟩ = _ := cell_of_row _ _ _ _ _ _ XA3.out
  have zc3_1 : w4.cell? ⟨w.heap.size + 1, 1, none⟩ = _ := cell_of_row _ _ _ _ _ _ XC3.out
  have za3_2 : w4.cell? ⟨w.heap.size, 2, none⟩ = _ := cell_of_row _ _ _ _ _ _ XA3.out
  have zc3_2 : w4.cell? ⟨w.heap.size + 1, 2, none⟩ = _ := cell_of_row _ _ _ _ _ _ XC3.out
  have za3_3 : w4.cell? ⟨w.heap.size, 3, none⟩ = _ := cell_of_row _ _ _ _ _ _ XA3.out
  have zc3_3 : w4.cell? ⟨w.heap.size + 1, 3, none⟩ = _ := cell_of_row _ _ _ _ _ _ XC3.out
  have za3_4 : w4.cell? ⟨w.heap.size, 4, none⟩ = _ := cell_of_row _ _ _ _ _ _ XA3.out
  have zc3_4 : w4.cell? ⟨w.heap.size + 1, 4, none⟩ = _ := cell_of_row _ _ _ _ _ _ XC3.out
  have za3_5 : w4.cell? ⟨w.heap.size, 5, none⟩ = _ := cell_of_row _ _ _ _ _ _ XA3.out
  have zc3_5 : w4.cell? ⟨w.heap.size + 1, 5, none⟩ = _ := cell_of_row _ _ _ _ _ _ XC3.out
  simp only [List.getElem?_toArray, List.getElem?_cons_zero, List.getElem?_cons_succ] at za3_0 zc3_0 za3_1 zc3_1 za3_2 zc3_2 za3_3 zc3_3 za3_4 zc3_4 za3_5 zc3_5
  clear hb3
  go_wp2_with fail
  refine (H4.out _ B3.out).mono ?_
  rintro e w5 ⟨rfl, hb4⟩
  have B4 := Lib.hid (B3.out.trans (hb4.mono B3.out.size))
  clear hb4
  go_wp2_with fail
  go_ret
  exact ⟨rfl, B4.out⟩
end Go.Proofs.Ytkflinobmagiiaa
