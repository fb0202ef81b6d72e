/-
  Exact laws whose answers are owned: the walks.
-/
import Derived.Test.YtgnjcfbfbpjndaaGreatDoorJoin30
import Derived.Deep.DeepCutAuto
import Derived.Deep.RegionLaw
namespace Go.Proofs.YtgnjcfbfbpjndaaGreatDoor
open Go.RowKit
set_option linter.unusedVariables false
set_option linter.unusedSimpArgs false

set_option maxRecDepth 100000 in
set_option maxHeartbeats 12800000 in
theorem lawMicroGrads_any (w : World) (es0 : List Value) (x0 : dModel) (h0 : shModel.reads (Under w.heap.size) w es0 x0) (es1 : List Value) (x1 : dPair) (h1 : shPair.reads (Under w.heap.size) w es1 x1) (hg : LaidE w) :
    Calls Tryz.prog 5 #[(.agg es0.toArray), (.agg es1.toArray)] w fun e w' => e = .returned (.bool true) ∧ Below w.heap.size w w' := by
  obtain ⟨a0_0, n0_0, c0_0, rfl, -⟩ := shModel_reads.1 h0
  obtain ⟨u0, hu0⟩ : ∃ u, shModel.bulk x0 = u := ⟨_, rfl⟩
  obtain ⟨k0, hk0⟩ : ∃ k, ownModel.ctT x0 = k := ⟨_, rfl⟩
  have K0 := Lib.hid hk0
  have fw0 : k0 ≤ 16 * u0 := by rw [← hk0, ← hu0]; exact ownModel_few x0
  have U0 := Lib.hid hu0
  have F0 := Lib.hid h0
  obtain ⟨a1_0, n1_0, c1_0, a1_1, n1_1, c1_1, rfl, -⟩ := shPair_reads.1 h1
  obtain ⟨u1, hu1⟩ : ∃ u, shPair.bulk x1 = u := ⟨_, rfl⟩
  obtain ⟨k1, hk1⟩ : ∃ k, ownPair.ctT x1 = k := ⟨_, rfl⟩
  have K1 := Lib.hid hk1
  have fw1 : k1 ≤ 16 * u1 := by rw [← hk1, ← hu1]; exact ownPair_few x1
  have U1 := Lib.hid hu1
  have F1 := Lib.hid h1
  have T := Lib.hid (Below.refl w.heap.size w)
  have hlt := hg.lt
  have HG := Lib.hid hg
  clear hu0 hk0 h0 hu1 hk1 h1 hg
  by_cases f0 : ((u0 : Nat) : Int) ≤ 1048576
  · skip
    by_cases f1 : ((u0 + u1 : Nat) : Int) ≤ 1048576
    · have hk0 : ((w.alloc (.cells #[.slice a0_0 n0_0 c0_0] 52 (0, 0))).alloc (.cells #[.slice a1_0 n1_0 c1_0, .slice a1_1 n1_1 c1_1] 53 (0, 0))).heap[w.heap.size]? = some (.cells #[.slice a0_0 n0_0 c0_0] 52 (0, 0)) := by
        rw [Below.heap_alloc _ _ _ (by simp)]
        have := heap_alloc_new w (.cells #[.slice a0_0 n0_0 c0_0] 52 (0, 0))
        simpa using this
      have hk1 : ((w.alloc (.cells #[.slice a0_0 n0_0 c0_0] 52 (0, 0))).alloc (.cells #[.slice a1_0 n1_0 c1_0, .slice a1_1 n1_1 c1_1] 53 (0, 0))).heap[w.heap.size + 1]? = some (.cells #[.slice a1_0 n1_0 c1_0, .slice a1_1 n1_1 c1_1] 53 (0, 0)) := by
        have := heap_alloc_new (w.alloc (.cells #[.slice a0_0 n0_0 c0_0] 52 (0, 0))) (.cells #[.slice a1_0 n1_0 c1_0, .slice a1_1 n1_1 c1_1] 53 (0, 0))
        simpa using this
      have hb := ((Below.refl w.heap.size w).alloc (Nat.le_refl _) (.cells #[.slice a0_0 n0_0 c0_0] 52 (0, 0))).alloc (by simp) (.cells #[.slice a1_0 n1_0 c1_0, .slice a1_1 n1_1 c1_1] 53 (0, 0))
      have szw1 : w.heap.size + 2 = ((w.alloc (.cells #[.slice a0_0 n0_0 c0_0] 52 (0, 0))).alloc (.cells #[.slice a1_0 n1_0 c1_0, .slice a1_1 n1_1 c1_1] 53 (0, 0))).heap.size := by simp
      go_enter Tryz.func5, Tryz.ntmps5
      go_wp2_with fail
      generalize ((w.alloc (.cells #[.slice a0_0 n0_0 c0_0] 52 (0, 0))).alloc (.cells #[.slice a1_0 n1_0 c1_0, .slice a1_1 n1_1 c1_1] 53 (0, 0))) = w1 at hb szw1 hk0 hk1 ⊢
      replace F0 := Lib.hid (shModel.below F0.out hb (by omega))
      replace F1 := Lib.hid (shPair.below F1.out hb (by omega))
      replace T := Lib.hid (T.out.trans (hb.mono (by omega)))
      have AB0 := Lib.hid hk0
      have AB1 := Lib.hid hk1
      clear hb hk0 hk1
      have hc := szModel_c _ _ _ x0 (1048576) F0.out (by omega) (by omega) (by omega)
      rw [U0.out, szN_yes (by omega)] at hc
      obtain ⟨l0, hl0⟩ : ∃ l, 1048576 - (u0 : Int) = l := ⟨_, rfl⟩
      rw [hl0] at hc
      have t0 : decide (l0 < 0) = false := decide_eq_false (by omega)
      have HC := Lib.hid hc
      clear hc
      refine HC.out.mono ?_
      rintro e w2 ⟨rfl, hb⟩
      clear HC
      have szw2 := hb.size
      replace F0 := Lib.hid (shModel.below F0.out hb (by omega))
      replace F1 := Lib.hid (shPair.below F1.out hb (by omega))
      replace AB0 := Lib.hid ((hb.block w.heap.size (by omega)).trans AB0.out)
      replace AB1 := Lib.hid ((hb.block (w.heap.size + 1) (by omega)).trans AB1.out)
      replace T := Lib.hid (T.out.trans (hb.mono (by omega)))
      clear hb
      have hc := szPair_c _ _ _ x1 (l0) F1.out (by omega) (by omega) (by omega)
      rw [U1.out, szN_yes (by omega)] at hc
      obtain ⟨l1, hl1⟩ : ∃ l, l0 - (u1 : Int) = l := ⟨_, rfl⟩
      rw [hl1] at hc
      have t1 : decide (l1 < 0) = false := decide_eq_false (by omega)
      have HC := Lib.hid hc
      clear hc
      have za_0 := cell_of_row _ (w.heap.size + 1) 0 _ _ _ AB1.out
      have za_1 := cell_of_row _ (w.heap.size + 1) 1 _ _ _ AB1.out
      simp only [List.getElem?_toArray, List.getElem?_cons_zero, List.getElem?_cons_succ] at za_0 za_1
      go_wp2_with fail
      clear za_0 za_1
      refine HC.out.mono ?_
      rintro e w3 ⟨rfl, hb⟩
      clear HC
      have szw3 := hb.size
      replace F0 := Lib.hid (shModel.below F0.out hb (by omega))
      replace F1 := Lib.hid (shPair.below F1.out hb (by omega))
      replace AB0 := Lib.hid ((hb.block w.heap.size (by omega)).trans AB0.out)
      replace AB1 := Lib.hid ((hb.block (w.heap.size + 1) (by omega)).trans AB1.out)
      replace T := Lib.hid (T.out.trans (hb.mono (by omega)))
      clear hb
      have ub : u0 + u1 ≤ 1048576 := by omega
      obtain ⟨v, hv⟩ : ∃ v, microG x0 x1 = v := ⟨_, rfl⟩
      have vb : shGrads.bulk v ≤ 1048576 := by
        rw [← hv]
        exact micro_small x0 x1
      obtain ⟨kv, hkv⟩ : ∃ k, ownGrads.ctT v = k := ⟨_, rfl⟩
      have fwv : kv ≤ 16777216 := by rw [← hkv]; have := ownGrads_few v; omega
      have KV := Lib.hid hkv
      have HV := Lib.hid hv
      clear hv hkv
      have zs0_0 := cell_of_row _ w.heap.size 0 _ _ _ AB0.out
      simp only [List.getElem?_toArray, List.getElem?_cons_zero, List.getElem?_cons_succ] at zs0_0
      have zs1_0 := cell_of_row _ (w.heap.size + 1) 0 _ _ _ AB1.out
      have zs1_1 := cell_of_row _ (w.heap.size + 1) 1 _ _ _ AB1.out
      simp only [List.getElem?_toArray, List.getElem?_cons_zero, List.getElem?_cons_succ] at zs1_0 zs1_1
      have zr0_0 := cell_of_row _ w.heap.size 0 _ _ _ ((heap_alloc_old w3 (.cells #[.slice none 0 0, .int .i64 0, .bool false] 32 (0, 0)) (show w.heap.size < w3.heap.size by omega)).trans AB0.out)
      simp only [List.getElem?_toArray, List.getElem?_cons_zero, List.getElem?_cons_succ] at zr0_0
      have zr1_0 := cell_of_row _ (w.heap.size + 1) 0 _ _ _ ((heap_alloc_old w3 (.cells #[.slice none 0 0, .int .i64 0, .bool false] 32 (0, 0)) (show (w.heap.size + 1) < w3.heap.size by omega)).trans AB1.out)
      have zr1_1 := cell_of_row _ (w.heap.size + 1) 1 _ _ _ ((heap_alloc_old w3 (.cells #[.slice none 0 0, .int .i64 0, .bool false] 32 (0, 0)) (show (w.heap.size + 1) < w3.heap.size by omega)).trans AB1.out)
      simp only [List.getElem?_toArray, List.getElem?_cons_zero, List.getElem?_cons_succ] at zr1_0 zr1_1
      go_upto_region 8 with fail
      go_cut [6] (fun t wx => BoxedR shGrads 32 w3 wx t v)
      case first =>
        have hA0 : w.heap.size < w3.heap.size := by omega
        have hA1 : (w.heap.size + 1) < w3.heap.size := by omega
        have hdr : Below w3.heap.size w3 w3.drew := (Below.refl _ _).drew
        have hdra : Below w3.heap.size w3 (w3.alloc (.cells #[.slice none 0 0, .int .i64 0, .bool false] 32 (0, 0))).drew := ((Below.refl _ _).alloc (Nat.le_refl _) _).drew
        have DR := Lib.hid hdr
        have DRA := Lib.hid hdra
        clear hdr hdra
        have HC0 := Lib.hid fun (w1 : World) (hb : Below w3.heap.size w3 w1) => toModel_c w1 _ _ x0 (shModel.below F0.out hb (by omega)) (by have := hb.size; omega) (by rw [U0.out]; omega)
        have HC1 := Lib.hid fun (w1 : World) (hb : Below w3.heap.size w3 w1) => toPair_c w1 _ _ x1 (shPair.below F1.out hb (by omega)) (by have := hb.size; omega) (by rw [U1.out]; omega)
        have HF := Lib.hid fun (w1 : World) (hb1 : Below w3.heap.size w3 w1) (q0 : List Value) (hr0 : shModel.reads (Under w1.heap.size) w1 q0 x0) (q1 : List Value) (hr1 : shPair.reads (Under w1.heap.size) w1 q1 x1) => specMicroGrads_o w1 q0 x0 hr0 (by rw [U0.out]; omega) q1 x1 hr1 (by rw [U1.out]; omega)
        simp only [HV.out] at HF
        clear szw1 szw2 szw3
        go_region_law (go_simp; first
          | (go_at_call 26; (with_reducible refine (HC0.out _ DR.out).mono ?_); rintro e t0 ⟨eg0, rfl, hr, hb⟩; have hp := DR.out; obtain ⟨ag0_0, ng0_0, cg0_0, rfl, -⟩ := shModel_reads.1 hr; have R0 := Lib.hid (shModel.under hr); have B := Lib.hid (hp.trans (hb.mono hp.size)); have zz0_1_0 := cell_of_row _ (w.heap.size + 1) 0 _ _ _ ((B.out.block (w.heap.size + 1) hA1).trans AB1.out); have zz0_1_1 := cell_of_row _ (w.heap.size + 1) 1 _ _ _ ((B.out.block (w.heap.size + 1) hA1).trans AB1.out); have zm0_1_0 := cell_of_row _ (w.heap.size + 1) 0 _ _ _ ((heap_alloc_old t0 (.cells #[.slice none 0 0, .int .i64 0, .bool false] 32 (0, 0)) (Nat.lt_of_lt_of_le hA1 B.out.size)).trans ((B.out.block (w.heap.size + 1) hA1).trans AB1.out)); have zm0_1_1 := cell_of_row _ (w.heap.size + 1) 1 _ _ _ ((heap_alloc_old t0 (.cells #[.slice none 0 0, .int .i64 0, .bool false] 32 (0, 0)) (Nat.lt_of_lt_of_le hA1 B.out.size)).trans ((B.out.block (w.heap.size + 1) hA1).trans AB1.out)); simp only [List.getElem?_toArray, List.getElem?_cons_zero, List.getElem?_cons_succ] at zz0_1_0 zm0_1_0 zz0_1_1 zm0_1_1; clear hb hr hp)
          | (go_at_call 26; (with_reducible refine (HC0.out _ DRA.out).mono ?_); rintro e t0 ⟨eg0, rfl, hr, hb⟩; have hp := DRA.out; have BX := Lib.hid ((BoxIn.new (Below.refl w3.heap.size w3) (.cells #[.slice none 0 0, .int .i64 0, .bool false] 32 (0, 0))).drew.call hb); obtain ⟨ag0_0, ng0_0, cg0_0, rfl, -⟩ := shModel_reads.1 hr; have R0 := Lib.hid (shModel.under hr); have B := Lib.hid (hp.trans (hb.mono hp.size)); have zz0_1_0 := cell_of_row _ (w.heap.size + 1) 0 _ _ _ ((B.out.block (w.heap.size + 1) hA1).trans AB1.out); have zz0_1_1 := cell_of_row _ (w.heap.size + 1) 1 _ _ _ ((B.out.block (w.heap.size + 1) hA1).trans AB1.out); have zm0_1_0 := cell_of_row _ (w.heap.size + 1) 0 _ _ _ ((heap_alloc_old t0 (.cells #[.slice none 0 0, .int .i64 0, .bool false] 32 (0, 0)) (Nat.lt_of_lt_of_le hA1 B.out.size)).trans ((B.out.block (w.heap.size + 1) hA1).trans AB1.out)); have zm0_1_1 := cell_of_row _ (w.heap.size + 1) 1 _ _ _ ((heap_alloc_old t0 (.cells #[.slice none 0 0, .int .i64 0, .bool false] 32 (0, 0)) (Nat.lt_of_lt_of_le hA1 B.out.size)).trans ((B.out.block (w.heap.size + 1) hA1).trans AB1.out)); simp only [List.getElem?_toArray, List.getElem?_cons_zero, List.getElem?_cons_succ] at zz0_1_0 zm0_1_0 zz0_1_1 zm0_1_1; clear hb hr hp)
          | (go_at_call 27; (with_reducible refine (HC1.out _ B.out).mono ?_); rintro e t1 ⟨eg1, rfl, hr, hb⟩; have hp := B.out; have hbb := hb; (try replace BX := Lib.hid (BX.out.call hb)); obtain ⟨ag1_0, ng1_0, cg1_0, ag1_1, ng1_1, cg1_1, rfl, -⟩ := shPair_reads.1 hr; replace R0 := Lib.hid (shModel.le (shModel.below R0.out hbb (Nat.le_refl _)) hbb.size); have R1 := Lib.hid (shPair.under hr); replace B := Lib.hid (hp.trans (hb.mono hp.size)); clear hb hr hp hbb)
          | (go_at_call 27; (with_reducible refine (HC1.out _ (B.out.alloc B.out.size (.cells #[.slice none 0 0, .int .i64 0, .bool false] 32 (0, 0)))).mono ?_); rintro e t1 ⟨eg1, rfl, hr, hb⟩; have hp := B.out.alloc B.out.size (.cells #[.slice none 0 0, .int .i64 0, .bool false] 32 (0, 0)); have hbb := ((Below.refl _ t0).alloc (Nat.le_refl _) (.cells #[.slice none 0 0, .int .i64 0, .bool false] 32 (0, 0))).trans (hb.mono (by simp)); have BX := Lib.hid ((BoxIn.new B.out (.cells #[.slice none 0 0, .int .i64 0, .bool false] 32 (0, 0))).call hb); obtain ⟨ag1_0, ng1_0, cg1_0, ag1_1, ng1_1, cg1_1, rfl, -⟩ := shPair_reads.1 hr; replace R0 := Lib.hid (shModel.le (shModel.below R0.out hbb (Nat.le_refl _)) hbb.size); have R1 := Lib.hid (shPair.under hr); replace B := Lib.hid (hp.trans (hb.mono hp.size)); clear hb hr hp hbb)
          | (go_at_call 25; (with_reducible refine (HF.out _ B.out _ R0.out _ R1.out).mono ?_); rintro e tq ⟨ew, rfl, hr, hb⟩; have hp := B.out; (try (have BL := Lib.hid BX.out.2.2; replace BX := Lib.hid (BX.out.call hb); have yy_0 := cell_of_row _ _ 0 _ _ _ BX.out.1; have ff_0 := frozen_of_row _ _ 0 _ _ BX.out.1; have yy_1 := cell_of_row _ _ 1 _ _ _ BX.out.1; have ff_1 := frozen_of_row _ _ 1 _ _ BX.out.1; have yy_2 := cell_of_row _ _ 2 _ _ _ BX.out.1; have ff_2 := frozen_of_row _ _ 2 _ _ BX.out.1; simp only [List.getElem?_toArray, List.getElem?_cons_zero, List.getElem?_cons_succ] at yy_0 yy_1 yy_2)); obtain ⟨aq_0, nq_0, cq_0, rfl, -⟩ := shGrads_reads.1 hr; have BQ := Lib.hid (hp.trans (hb.mono hp.size)); have RQ := Lib.hid hr; clear hb hr hp)
          | (go_at_call 25; (with_reducible refine (HF.out _ (B.out.alloc B.out.size (.cells #[.slice none 0 0, .int .i64 0, .bool false] 32 (0, 0))) _ (shModel.le (shModel.below R0.out ((Below.refl _ _).alloc (Nat.le_refl _) (.cells #[.slice none 0 0, .int .i64 0, .bool false] 32 (0, 0))) (Nat.le_refl _)) (by simp)) _ (shPair.le (shPair.below R1.out ((Below.refl _ _).alloc (Nat.le_refl _) (.cells #[.slice none 0 0, .int .i64 0, .bool false] 32 (0, 0))) (Nat.le_refl _)) (by simp))).mono ?_); rintro e tq ⟨ew, rfl, hr, hb⟩; have hp := B.out.alloc B.out.size (.cells #[.slice none 0 0, .int .i64 0, .bool false] 32 (0, 0)); have BX := Lib.hid ((BoxIn.new B.out (.cells #[.slice none 0 0, .int .i64 0, .bool false] 32 (0, 0))).call hb); have BL : Hid (t1.heap.size < (t1.alloc (.cells #[.slice none 0 0, .int .i64 0, .bool false] 32 (0, 0))).heap.size) := Lib.hid (by simp); have yy_0 := cell_of_row _ _ 0 _ _ _ BX.out.1; have ff_0 := frozen_of_row _ _ 0 _ _ BX.out.1; have yy_1 := cell_of_row _ _ 1 _ _ _ BX.out.1; have ff_1 := frozen_of_row _ _ 1 _ _ BX.out.1; have yy_2 := cell_of_row _ _ 2 _ _ _ BX.out.1; have ff_2 := frozen_of_row _ _ 2 _ _ BX.out.1; simp only [List.getElem?_toArray, List.getElem?_cons_zero, List.getElem?_cons_succ] at yy_0 yy_1 yy_2; obtain ⟨aq_0, nq_0, cq_0, rfl, -⟩ := shGrads_reads.1 hr; have BQ := Lib.hid (hp.trans (hb.mono hp.size)); have RQ := Lib.hid hr; clear hb hr hp))
        all_goals
          clear zs0_0 zr0_0 zs1_0 zs1_1 zr1_0 zr1_1
          try clear zz0_1_0 zm0_1_0 zz0_1_1 zm0_1_1
          try clear yy_0 ff_0 yy_1 ff_1 yy_2 ff_2
          clear HF DR DRA HC0 HC1
          go_wp2_with fail
          go_meet
          case rel => first | (with_reducible exact BoxedR.last BQ.out RQ.out) | (with_reducible exact BoxedR.early3 BQ.out RQ.out BX.out BL.out)
      case rest =>
        clear zs0_0
        clear zr0_0
        clear zs1_0 zs1_1
        clear zr1_0 zr1_1
        obtain ⟨gW, eW, rfl, hk, hr, hg1, hg2, hb⟩ := hcut
        obtain ⟨w4, rfl⟩ : ∃ x, x = wc := ⟨_, rfl⟩
        have szw4 := hb.size
        replace F0 := Lib.hid (shModel.below F0.out hb (by omega))
        replace F1 := Lib.hid (shPair.below F1.out hb (by omega))
        replace AB0 := Lib.hid ((hb.block w.heap.size (by omega)).trans AB0.out)
        replace AB1 := Lib.hid ((hb.block (w.heap.size + 1) (by omega)).trans AB1.out)
        replace T := Lib.hid (T.out.trans (hb.mono (by omega)))
        clear hb
        obtain ⟨aW_0, nW_0, cW_0, rfl, -⟩ := shGrads_reads.1 hr
        have W := Lib.hid hr
        have BW := Lib.hid hk
        clear hr hk
        have HC := Lib.hid (toModel_o _ _ _ x0 F0.out (by omega) (by rw [U0.out]; omega))
        have za_0 := cell_of_row _ w.heap.size 0 _ _ _ AB0.out
        simp only [List.getElem?_toArray, List.getElem?_cons_zero, List.getElem?_cons_succ] at za_0
        go_wp2_with fail
        clear za_0
        refine HC.out.mono ?_
        rintro e w5 ⟨eX0, rfl, hr, hb⟩
        clear HC
        have szw5 := hb.size
        replace F0 := Lib.hid (shModel.below F0.out hb (by omega))
        replace F1 := Lib.hid (shPair.below F1.out hb (by omega))
        replace AB0 := Lib.hid ((hb.block w.heap.size (by omega)).trans AB0.out)
        replace AB1 := Lib.hid ((hb.block (w.heap.size + 1) (by omega)).trans AB1.out)
        replace W := Lib.hid (shGrads.below W.out hb (by omega))
        replace BW := Lib.hid ((hb.block gW (by omega)).trans BW.out)
        replace T := Lib.hid (T.out.trans (hb.mono (by omega)))
        clear hb
        obtain ⟨aX0_0, nX0_0, cX0_0, rfl, -⟩ := ownModel_owns.1 hr
        have X0 := Lib.hid hr
        clear hr
        have hb := (Below.refl w5.heap.size w5).alloc (Nat.le_refl _) (.cells #[.slice aX0_0 nX0_0 cX0_0] 26 (0, 0))
        have hk := heap_alloc_new w5 (.cells #[.slice aX0_0 nX0_0 cX0_0] 26 (0, 0))
        have szw6 : w5.heap.size < (w5.alloc (.cells #[.slice aX0_0 nX0_0 cX0_0] 26 (0, 0))).heap.size := by simp
        obtain ⟨w6, hww6⟩ : ∃ W, w5.alloc (.cells #[.slice aX0_0 nX0_0 cX0_0] 26 (0, 0)) = W := ⟨_, rfl⟩
        rw [hww6] at hb hk szw6
        replace F0 := Lib.hid (shModel.below F0.out hb (by omega))
        replace F1 := Lib.hid (shPair.below F1.out hb (by omega))
        replace AB0 := Lib.hid ((hb.block w.heap.size (by omega)).trans AB0.out)
        replace AB1 := Lib.hid ((hb.block (w.heap.size + 1) (by omega)).trans AB1.out)
        replace W := Lib.hid (shGrads.below W.out hb (by omega))
        replace BW := Lib.hid ((hb.block gW (by omega)).trans BW.out)
        replace X0 := Lib.hid (ownModel.owns_keep X0.out (.of_below hb fun b o f => by have := f.2; omega))
        replace T := Lib.hid (T.out.trans (hb.mono (by omega)))
        have BX0 := Lib.hid hk
        clear hb hk
        have HC := Lib.hid (toPair_o _ _ _ x1 F1.out (by omega) (by rw [U1.out]; omega))
        have za_0 := cell_of_row _ (w.heap.size + 1) 0 _ _ _ AB1.out
        have za_1 := cell_of_row _ (w.heap.size + 1) 1 _ _ _ AB1.out
        simp only [List.getElem?_toArray, List.getElem?_cons_zero, List.getElem?_cons_succ] at za_0 za_1
        go_wp2_with fail
        clear hww6
        clear za_0 za_1
        refine HC.out.mono ?_
        rintro e w7 ⟨eX1, rfl, hr, hb⟩
        clear HC
        have szw7 := hb.size
        replace F0 := Lib.hid (shModel.below F0.out hb (by omega))
        replace F1 := Lib.hid (shPair.below F1.out hb (by omega))
        replace AB0 := Lib.hid ((hb.block w.heap.size (by omega)).trans AB0.out)
        replace AB1 := Lib.hid ((hb.block (w.heap.size + 1) (by omega)).trans AB1.out)
        replace W := Lib.hid (shGrads.below W.out hb (by omega))
        replace BW := Lib.hid ((hb.block gW (by omega)).trans BW.out)
        replace X0 := Lib.hid (ownModel.owns_keep X0.out (.of_below hb fun b o f => by have := f.2; omega))
        replace BX0 := Lib.hid ((hb.block w5.heap.size (by omega)).trans BX0.out)
        replace T := Lib.hid (T.out.trans (hb.mono (by omega)))
        clear hb
        obtain ⟨aX1_0, nX1_0, cX1_0, aX1_1, nX1_1, cX1_1, Gx0, Gx1, rfl, -⟩ := ownPair_owns.1 hr
        have X1 := Lib.hid hr
        clear hr
        have hb := (Below.refl w7.heap.size w7).alloc (Nat.le_refl _) (.cells #[.slice aX1_0 nX1_0 cX1_0, .slice aX1_1 nX1_1 cX1_1] 39 (0, 0))
        have hk := heap_alloc_new w7 (.cells #[.slice aX1_0 nX1_0 cX1_0, .slice aX1_1 nX1_1 cX1_1] 39 (0, 0))
        have szw8 : w7.heap.size < (w7.alloc (.cells #[.slice aX1_0 nX1_0 cX1_0, .slice aX1_1 nX1_1 cX1_1] 39 (0, 0))).heap.size := by simp
        obtain ⟨w8, hww8⟩ : ∃ W, w7.alloc (.cells #[.slice aX1_0 nX1_0 cX1_0, .slice aX1_1 nX1_1 cX1_1] 39 (0, 0)) = W := ⟨_, rfl⟩
        rw [hww8] at hb hk szw8
        replace F0 := Lib.hid (shModel.below F0.out hb (by omega))
        replace F1 := Lib.hid (shPair.below F1.out hb (by omega))
        replace AB0 := Lib.hid ((hb.block w.heap.size (by omega)).trans AB0.out)
        replace AB1 := Lib.hid ((hb.block (w.heap.size + 1) (by omega)).trans AB1.out)
        replace W := Lib.hid (shGrads.below W.out hb (by omega))
        replace BW := Lib.hid ((hb.block gW (by omega)).trans BW.out)
        replace X0 := Lib.hid (ownModel.owns_keep X0.out (.of_below hb fun b o f => by have := f.2; omega))
        replace BX0 := Lib.hid ((hb.block w5.heap.size (by omega)).trans BX0.out)
        replace X1 := Lib.hid (ownPair.owns_keep X1.out (.of_below hb fun b o f => by have := f.2; omega))
        replace T := Lib.hid (T.out.trans (hb.mono (by omega)))
        have BX1 := Lib.hid hk
        clear hb hk
        have hc := implMicroGrads_o _ _ x0 (ownModel.owns_reads X0.out fun b o f => by have := f.2; exact Nat.lt_of_lt_of_le this (by omega)) (by rw [U0.out]; omega) _ x1 (ownPair.owns_reads X1.out fun b o f => by have := f.2; exact Nat.lt_of_lt_of_le this (by omega)) (by rw [U1.out]; omega) (HG.out.below hlt T.out)
        rw [HV.out] at hc
        have HC := Lib.hid hc
        clear hc
        have zx0_0 := cell_of_row _ w5.heap.size 0 _ _ _ BX0.out
        simp only [List.getElem?_toArray, List.getElem?_cons_zero, List.getElem?_cons_succ] at zx0_0
        have zx1_0 := cell_of_row _ w7.heap.size 0 _ _ _ BX1.out
        have zx1_1 := cell_of_row _ w7.heap.size 1 _ _ _ BX1.out
        simp only [List.getElem?_toArray, List.getElem?_cons_zero, List.getElem?_cons_succ] at zx1_0 zx1_1
        go_wp2_with fail
        clear hww8
        clear zx0_0
        clear zx1_0 zx1_1
        refine HC.out.mono ?_
        rintro e w9 ⟨eG, rfl, hr, hb⟩
        clear HC
        have szw9 := hb.size
        replace F0 := Lib.hid (shModel.below F0.out hb (by omega))
        replace F1 := Lib.hid (shPair.below F1.out hb (by omega))
        replace AB0 := Lib.hid ((hb.block w.heap.size (by omega)).trans AB0.out)
        replace AB1 := Lib.hid ((hb.block (w.heap.size + 1) (by omega)).trans AB1.out)
        replace W := Lib.hid (shGrads.below W.out hb (by omega))
        replace BW := Lib.hid ((hb.block gW (by omega)).trans BW.out)
        replace X0 := Lib.hid (ownModel.owns_keep X0.out (.of_below hb fun b o f => by have := f.2; omega))
        replace BX0 := Lib.hid ((hb.block w5.heap.size (by omega)).trans BX0.out)
        replace X1 := Lib.hid (ownPair.owns_keep X1.out (.of_below hb fun b o f => by have := f.2; omega))
        replace BX1 := Lib.hid ((hb.block w7.heap.size (by omega)).trans BX1.out)
        replace T := Lib.hid (T.out.trans (hb.mono (by omega)))
        clear hb
        obtain ⟨aG_0, nG_0, cG_0, rfl, -⟩ := ownGrads_owns.1 hr
        have G := Lib.hid hr
        clear hr
        have hb := (Below.refl w9.heap.size w9).alloc (Nat.le_refl _) (.cells #[.slice aG_0 nG_0 cG_0, .int .i64 v.2.1, .bool v.2.2] 32 (0, 0))
        have hk := heap_alloc_new w9 (.cells #[.slice aG_0 nG_0 cG_0, .int .i64 v.2.1, .bool v.2.2] 32 (0, 0))
        have szw10 : w9.heap.size < (w9.alloc (.cells #[.slice aG_0 nG_0 cG_0, .int .i64 v.2.1, .bool v.2.2] 32 (0, 0))).heap.size := by simp
        obtain ⟨w10, hww10⟩ : ∃ W, w9.alloc (.cells #[.slice aG_0 nG_0 cG_0, .int .i64 v.2.1, .bool v.2.2] 32 (0, 0)) = W := ⟨_, rfl⟩
        rw [hww10] at hb hk szw10
        replace F0 := Lib.hid (shModel.below F0.out hb (by omega))
        replace F1 := Lib.hid (shPair.below F1.out hb (by omega))
        replace AB0 := Lib.hid ((hb.block w.heap.size (by omega)).trans AB0.out)
        replace AB1 := Lib.hid ((hb.block (w.heap.size + 1) (by omega)).trans AB1.out)
        replace W := Lib.hid (shGrads.below W.out hb (by omega))
        replace BW := Lib.hid ((hb.block gW (by omega)).trans BW.out)
        replace X0 := Lib.hid (ownModel.owns_keep X0.out (.of_below hb fun b o f => by have := f.2; omega))
        replace BX0 := Lib.hid ((hb.block w5.heap.size (by omega)).trans BX0.out)
        replace X1 := Lib.hid (ownPair.owns_keep X1.out (.of_below hb fun b o f => by have := f.2; omega))
        replace BX1 := Lib.hid ((hb.block w7.heap.size (by omega)).trans BX1.out)
        replace G := Lib.hid (ownGrads.owns_keep G.out (.of_below hb fun b o f => by have := f.2; omega))
        replace T := Lib.hid (T.out.trans (hb.mono (by omega)))
        have BG := Lib.hid hk
        clear hb hk
        have HC := Lib.hid (eqGrads_c _ _ _ _ _ v (ownGrads.owns_reads (I := Under w9.heap.size) G.out fun b o f => f.2) W.out (by omega) (by omega) vb)
        have zg_0 := cell_of_row _ w9.heap.size 0 _ _ _ BG.out
        have zg_1 := cell_of_row _ w9.heap.size 1 _ _ _ BG.out
        have zg_2 := cell_of_row _ w9.heap.size 2 _ _ _ BG.out
        simp only [List.getElem?_toArray, List.getElem?_cons_zero, List.getElem?_cons_succ] at zg_0 zg_1 zg_2
        have zw_0 := cell_of_row _ gW 0 _ _ _ BW.out
        have zw_1 := cell_of_row _ gW 1 _ _ _ BW.out
        have zw_2 := cell_of_row _ gW 2 _ _ _ BW.out
        simp only [List.getElem?_toArray, List.getElem?_cons_zero, List.getElem?_cons_succ] at zw_0 zw_1 zw_2
        go_wp2_with fail
        clear hww10
        clear zg_0 zg_1 zg_2
        clear zw_0 zw_1 zw_2
        refine HC.out.mono ?_
        rintro e w11 ⟨rfl, hb⟩
        clear HC
        have szw11 := hb.size
        replace F0 := Lib.hid (shModel.below F0.out hb (by omega))
        replace F1 := Lib.hid (shPair.below F1.out hb (by omega))
        replace AB0 := Lib.hid ((hb.block w.heap.size (by omega)).trans AB0.out)
        replace AB1 := Lib.hid ((hb.block (w.heap.size + 1) (by omega)).trans AB1.out)
        replace W := Lib.hid (shGrads.below W.out hb (by omega))
        replace BW := Lib.hid ((hb.block gW (by omega)).trans BW.out)
        replace X0 := Lib.hid (ownModel.owns_keep X0.out (.of_below hb fun b o f => by have := f.2; omega))
        replace BX0 := Lib.hid ((hb.block w5.heap.size (by omega)).trans BX0.out)
        replace X1 := Lib.hid (ownPair.owns_keep X1.out (.of_below hb fun b o f => by have := f.2; omega))
        replace BX1 := Lib.hid ((hb.block w7.heap.size (by omega)).trans BX1.out)
        replace G := Lib.hid (ownGrads.owns_keep G.out (.of_below hb fun b o f => by have := f.2; omega))
        replace BG := Lib.hid ((hb.block w9.heap.size (by omega)).trans BG.out)
        replace T := Lib.hid (T.out.trans (hb.mono (by omega)))
        clear hb
        have zx_0 := cell_of_row _ w5.heap.size 0 _ _ _ BX0.out
        simp only [List.getElem?_toArray, List.getElem?_cons_zero, List.getElem?_cons_succ] at zx_0
        have za_0 := cell_of_row _ w.heap.size 0 _ _ _ AB0.out
        simp only [List.getElem?_toArray, List.getElem?_cons_zero, List.getElem?_cons_succ] at za_0
        go_upto_region 14 with fail
        go_cut [44] (fun t wx => t = .bool false ∧ Below w11.heap.size w11 wx)
        case first =>
          have hdr : Below w11.heap.size w11 w11.drew := (Below.refl _ _).drew
          have FD := Lib.hid (shModel.below F0.out hdr (by omega))
          have XD := Lib.hid (shModel.below (ownModel.owns_reads (I := Under w5.heap.size) X0.out fun b o f => f.2) hdr (by omega))
          have DR := Lib.hid hdr
          have szd : w11.heap.size ≤ w11.drew.heap.size := hdr.size
          have XBD : Hid (w11.drew.heap[w5.heap.size]? = _) := Lib.hid BX0.out
          clear hdr
          have HC1 := Lib.hid (toModel_c w11.drew _ _ x0 FD.out (by omega) (by rw [U0.out]; omega))
          have HC2 := Lib.hid fun (w1 : World) (es : List Value) (hb : Below w11.drew.heap.size w11.drew w1) (hr : shModel.reads (From w11.drew.heap.size w1.heap.size) w1 es x0) => eqModel_c w1 _ _ _ es x0 (shModel.below XD.out hb (by omega)) (shModel.under hr) (by have := hb.size; omega) (Nat.le_refl _) (by rw [U0.out]; omega)
          go_region_law (first
            | (go_simp; go_at_call 26; (with_reducible refine HC1.out.mono ?_); rintro e wt ⟨eg, rfl, hr, hb⟩; have hq := HC2.out wt eg hb hr; have zz_0 := cell_of_row _ w5.heap.size 0 _ _ _ ((hb.block w5.heap.size (by omega)).trans XBD.out); simp only [List.getElem?_toArray, List.getElem?_cons_zero, List.getElem?_cons_succ] at zz_0; obtain ⟨ag_0, ng_0, cg_0, rfl, -⟩ := shModel_reads.1 hr; have HQ := Lib.hid hq; have HBT := Lib.hid hb; have szt := hb.size; clear hb hr hq)
            | (go_simp; go_at_call 29; (with_reducible refine HQ.out.mono ?_); rintro e wq ⟨rfl, hb⟩; have BQ := Lib.hid (DR.out.trans ((HBT.out.mono szd).trans (hb.mono (by omega)))); clear hb))
          all_goals
            go_wp2_with fail
            go_meet
            case rel => exact ⟨rfl, BQ.out⟩
        case rest =>
          obtain ⟨rfl, hb⟩ := hcut
          clear zx_0
          clear za_0
          obtain ⟨w12, rfl⟩ : ∃ x, x = wc := ⟨_, rfl⟩
          have szw12 := hb.size
          replace F0 := Lib.hid (shModel.below F0.out hb (by omega))
          replace F1 := Lib.hid (shPair.below F1.out hb (by omega))
          replace AB0 := Lib.hid ((hb.block w.heap.size (by omega)).trans AB0.out)
          replace AB1 := Lib.hid ((hb.block (w.heap.size + 1) (by omega)).trans AB1.out)
          replace W := Lib.hid (shGrads.below W.out hb (by omega))
          replace BW := Lib.hid ((hb.block gW (by omega)).trans BW.out)
          replace X0 := Lib.hid (ownModel.owns_keep X0.out (.of_below hb fun b o f => by have := f.2; omega))
          replace BX0 := Lib.hid ((hb.block w5.heap.size (by omega)).trans BX0.out)
          replace X1 := Lib.hid (ownPair.owns_keep X1.out (.of_below hb fun b o f => by have := f.2; omega))
          replace BX1 := Lib.hid ((hb.block w7.heap.size (by omega)).trans BX1.out)
          replace G := Lib.hid (ownGrads.owns_keep G.out (.of_below hb fun b o f => by have := f.2; omega))
          replace BG := Lib.hid ((hb.block w9.heap.size (by omega)).trans BG.out)
          replace T := Lib.hid (T.out.trans (hb.mono (by omega)))
          clear hb
          have zx_0 := cell_of_row _ w7.heap.size 0 _ _ _ BX1.out
          have zx_1 := cell_of_row _ w7.heap.size 1 _ _ _ BX1.out
          simp only [List.getElem?_toArray, List.getElem?_cons_zero, List.getElem?_cons_succ] at zx_0 zx_1
          have za_0 := cell_of_row _ (w.heap.size + 1) 0 _ _ _ AB1.out
          have za_1 := cell_of_row _ (w.heap.size + 1) 1 _ _ _ AB1.out
          simp only [List.getElem?_toArray, List.getElem?_cons_zero, List.getElem?_cons_succ] at za_0 za_1
          go_upto_region 16 with fail
          go_cut [49] (fun t wx => t = .bool false ∧ Below w12.heap.size w12 wx)
          case first =>
            have hdr : Below w12.heap.size w12 w12.drew := (Below.refl _ _).drew
            have FD := Lib.hid (shPair.below F1.out hdr (by omega))
            have XD := Lib.hid (shPair.below (ownPair.owns_reads (I := Under w7.heap.size) X1.out fun b o f => f.2) hdr (by omega))
            have DR := Lib.hid hdr
            have szd : w12.heap.size ≤ w12.drew.heap.size := hdr.size
            have XBD : Hid (w12.drew.heap[w7.heap.size]? = _) := Lib.hid BX1.out
            clear hdr
            have HC1 := Lib.hid (toPair_c w12.drew _ _ x1 FD.out (by omega) (by rw [U1.out]; omega))
            have HC2 := Lib.hid fun (w1 : World) (es : List Value) (hb : Below w12.drew.heap.size w12.drew w1) (hr : shPair.reads (From w12.drew.heap.size w1.heap.size) w1 es x1) => eqPair_c w1 _ _ _ es x1 (shPair.below XD.out hb (by omega)) (shPair.under hr) (by have := hb.size; omega) (Nat.le_refl _) (by rw [U1.out]; omega)
            go_region_law (first
              | (go_simp; go_at_call 27; (with_reducible refine HC1.out.mono ?_); rintro e wt ⟨eg, rfl, hr, hb⟩; have hq := HC2.out wt eg hb hr; have zz_0 := cell_of_row _ w7.heap.size 0 _ _ _ ((hb.block w7.heap.size (by omega)).trans XBD.out); have zz_1 := cell_of_row _ w7.heap.size 1 _ _ _ ((hb.block w7.heap.size (by omega)).trans XBD.out); simp only [List.getElem?_toArray, List.getElem?_cons_zero, List.getElem?_cons_succ] at zz_0 zz_1; obtain ⟨ag_0, ng_0, cg_0, ag_1, ng_1, cg_1, rfl, -⟩ := shPair_reads.1 hr; have HQ := Lib.hid hq; have HBT := Lib.hid hb; have szt := hb.size; clear hb hr hq)
              | (go_simp; go_at_call 30; (with_reducible refine HQ.out.mono ?_); rintro e wq ⟨rfl, hb⟩; have BQ := Lib.hid (DR.out.trans ((HBT.out.mono szd).trans (hb.mono (by omega)))); clear hb))
            all_goals
              go_wp2_with fail
              go_meet
              case rel => exact ⟨rfl, BQ.out⟩
          case rest =>
            obtain ⟨rfl, hb⟩ := hcut
            clear zx_0 zx_1
            clear za_0 za_1
            obtain ⟨w13, rfl⟩ : ∃ x, x = wc := ⟨_, rfl⟩
            have szw13 := hb.size
            replace F0 := Lib.hid (shModel.below F0.out hb (by omega))
            replace F1 := Lib.hid (shPair.below F1.out hb (by omega))
            replace AB0 := Lib.hid ((hb.block w.heap.size (by omega)).trans AB0.out)
            replace AB1 := Lib.hid ((hb.block (w.heap.size + 1) (by omega)).trans AB1.out)
            replace W := Lib.hid (shGrads.below W.out hb (by omega))
            replace BW := Lib.hid ((hb.block gW (by omega)).trans BW.out)
            replace X0 := Lib.hid (ownModel.owns_keep X0.out (.of_below hb fun b o f => by have := f.2; omega))
            replace BX0 := Lib.hid ((hb.block w5.heap.size (by omega)).trans BX0.out)
            replace X1 := Lib.hid (ownPair.owns_keep X1.out (.of_below hb fun b o f => by have := f.2; omega))
            replace BX1 := Lib.hid ((hb.block w7.heap.size (by omega)).trans BX1.out)
            replace G := Lib.hid (ownGrads.owns_keep G.out (.of_below hb fun b o f => by have := f.2; omega))
            replace BG := Lib.hid ((hb.block w9.heap.size (by omega)).trans BG.out)
            replace T := Lib.hid (T.out.trans (hb.mono (by omega)))
            clear hb
            have hc := markModel_o _ _ _ x0 (1) X0.out (fun b o f => Nat.lt_of_lt_of_le f.2 (by omega)) (by rw [U0.out]; omega) (by omega) (by rw [K0.out]; omega)
            have zx_0 := cell_of_row _ w5.heap.size 0 _ _ _ BX0.out
            simp only [List.getElem?_toArray, List.getElem?_cons_zero, List.getElem?_cons_succ] at zx_0
            rw [K0.out] at hc
            have HC := Lib.hid hc
            clear hc
            go_wp2_with fail
            clear zx_0
            refine HC.out.mono ?_
            rintro e w15 ⟨rfl, ho, w14, hb, ht⟩
            clear HC
            have szw14 := hb.size
            replace F0 := Lib.hid (shModel.below F0.out hb (by omega))
            replace F1 := Lib.hid (shPair.below F1.out hb (by omega))
            replace AB0 := Lib.hid ((hb.block w.heap.size (by omega)).trans AB0.out)
            replace AB1 := Lib.hid ((hb.block (w.heap.size + 1) (by omega)).trans AB1.out)
            replace W := Lib.hid (shGrads.below W.out hb (by omega))
            replace BW := Lib.hid ((hb.block gW (by omega)).trans BW.out)
            replace BX0 := Lib.hid ((hb.block w5.heap.size (by omega)).trans BX0.out)
            replace X1 := Lib.hid (ownPair.owns_keep X1.out (.of_below hb fun b o f => by have := f.2; omega))
            replace BX1 := Lib.hid ((hb.block w7.heap.size (by omega)).trans BX1.out)
            replace G := Lib.hid (ownGrads.owns_keep G.out (.of_below hb fun b o f => by have := f.2; omega))
            replace BG := Lib.hid ((hb.block w9.heap.size (by omega)).trans BG.out)
            replace T := Lib.hid (T.out.trans (hb.mono (by omega)))
            clear hb
            have hq := ht.below (B := w4.heap.size) fun b o f => f.1
            replace F0 := Lib.hid (shModel.below F0.out hq (by omega))
            replace F1 := Lib.hid (shPair.below F1.out hq (by omega))
            replace AB0 := Lib.hid ((ht.block w.heap.size fun o f => by have h1 := f.1; have h2 := f.2; omega).trans AB0.out)
            replace AB1 := Lib.hid ((ht.block (w.heap.size + 1) fun o f => by have h1 := f.1; have h2 := f.2; omega).trans AB1.out)
            replace W := Lib.hid (shGrads.below W.out hq (by omega))
            replace BW := Lib.hid ((ht.block gW fun o f => by have h1 := f.1; have h2 := f.2; omega).trans BW.out)
            replace BX0 := Lib.hid ((ht.block w5.heap.size fun o f => by have h1 := f.1; have h2 := f.2; omega).trans BX0.out)
            replace X1 := Lib.hid (ownPair.owns_keep X1.out (ht.same fun b o f f' => by have h1 := f.1; have h2 := f.2; have h3 := f'.1; have h4 := f'.2; omega))
            replace BX1 := Lib.hid ((ht.block w7.heap.size fun o f => by have h1 := f.1; have h2 := f.2; omega).trans BX1.out)
            replace G := Lib.hid (ownGrads.owns_keep G.out (ht.same fun b o f f' => by have h1 := f.1; have h2 := f.2; have h3 := f'.1; have h4 := f'.2; omega))
            replace BG := Lib.hid ((ht.block w9.heap.size fun o f => by have h1 := f.1; have h2 := f.2; omega).trans BG.out)
            replace T := Lib.hid (T.out.trans (hq.mono (by omega)))
            have szt := ht.size
            clear hq
            have szw15 : w14.heap.size ≤ w15.heap.size := Nat.le_of_eq szt.symm
            clear ht szt ho X0
            have hc := markPair_o _ _ _ x1 (1 + (k0 : Nat)) X1.out (fun b o f => Nat.lt_of_lt_of_le f.2 (by omega)) (by rw [U1.out]; omega) (by omega) (by rw [K1.out]; omega)
            have zx_0 := cell_of_row _ w7.heap.size 0 _ _ _ BX1.out
            have zx_1 := cell_of_row _ w7.heap.size 1 _ _ _ BX1.out
            simp only [List.getElem?_toArray, List.getElem?_cons_zero, List.getElem?_cons_succ] at zx_0 zx_1
            rw [K1.out] at hc
            have HC := Lib.hid hc
            clear hc
            go_wp2_with fail
            clear zx_0 zx_1
            refine HC.out.mono ?_
            rintro e w17 ⟨rfl, ho, w16, hb, ht⟩
            clear HC
            have szw16 := hb.size
            replace F0 := Lib.hid (shModel.below F0.out hb (by omega))
            replace F1 := Lib.hid (shPair.below F1.out hb (by omega))
            replace AB0 := Lib.hid ((hb.block w.heap.size (by omega)).trans AB0.out)
            replace AB1 := Lib.hid ((hb.block (w.heap.size + 1) (by omega)).trans AB1.out)
            replace W := Lib.hid (shGrads.below W.out hb (by omega))
            replace BW := Lib.hid ((hb.block gW (by omega)).trans BW.out)
            replace BX0 := Lib.hid ((hb.block w5.heap.size (by omega)).trans BX0.out)
            replace BX1 := Lib.hid ((hb.block w7.heap.size (by omega)).trans BX1.out)
            replace G := Lib.hid (ownGrads.owns_keep G.out (.of_below hb fun b o f => by have := f.2; omega))
            replace BG := Lib.hid ((hb.block w9.heap.size (by omega)).trans BG.out)
            replace T := Lib.hid (T.out.trans (hb.mono (by omega)))
            clear hb
            have hq := ht.below (B := w6.heap.size) fun b o f => f.1
            replace F0 := Lib.hid (shModel.below F0.out hq (by omega))
            replace F1 := Lib.hid (shPair.below F1.out hq (by omega))
            replace AB0 := Lib.hid ((ht.block w.heap.size fun o f => by have h1 := f.1; have h2 := f.2; omega).trans AB0.out)
            replace AB1 := Lib.hid ((ht.block (w.heap.size + 1) fun o f => by have h1 := f.1; have h2 := f.2; omega).trans AB1.out)
            replace W := Lib.hid (shGrads.below W.out hq (by omega))
            replace BW := Lib.hid ((ht.block gW fun o f => by have h1 := f.1; have h2 := f.2; omega).trans BW.out)
            replace BX0 := Lib.hid ((ht.block w5.heap.size fun o f => by have h1 := f.1; have h2 := f.2; omega).trans BX0.out)
            replace BX1 := Lib.hid ((ht.block w7.heap.size fun o f => by have h1 := f.1; have h2 := f.2; omega).trans BX1.out)
            replace G := Lib.hid (ownGrads.owns_keep G.out (ht.same fun b o f f' => by have h1 := f.1; have h2 := f.2; have h3 := f'.1; have h4 := f'.2; omega))
            replace BG := Lib.hid ((ht.block w9.heap.size fun o f => by have h1 := f.1; have h2 := f.2; omega).trans BG.out)
            replace T := Lib.hid (T.out.trans (hq.mono (by omega)))
            have szt := ht.size
            clear hq
            have szw17 : w16.heap.size ≤ w17.heap.size := Nat.le_of_eq szt.symm
            clear ht szt ho X1
            have tk : decide ((1 : Int) + (k0 : Int) + (k1 : Int) < 0) = false := decide_eq_false (by omega)
            have HC := Lib.hid (eqGrads_c _ _ _ _ _ v (ownGrads.owns_reads (I := Under w9.heap.size) G.out fun b o f => f.2) W.out (by omega) (by omega) vb)
            have zg_0 := cell_of_row _ w9.heap.size 0 _ _ _ BG.out
            have zg_1 := cell_of_row _ w9.heap.size 1 _ _ _ BG.out
            have zg_2 := cell_of_row _ w9.heap.size 2 _ _ _ BG.out
            simp only [List.getElem?_toArray, List.getElem?_cons_zero, List.getElem?_cons_succ] at zg_0 zg_1 zg_2
            have zw_0 := cell_of_row _ gW 0 _ _ _ BW.out
            have zw_1 := cell_of_row _ gW 1 _ _ _ BW.out
            have zw_2 := cell_of_row _ gW 2 _ _ _ BW.out
            simp only [List.getElem?_toArray, List.getElem?_cons_zero, List.getElem?_cons_succ] at zw_0 zw_1 zw_2
            go_wp2_with fail
            clear zg_0 zg_1 zg_2
            clear zw_0 zw_1 zw_2
            refine HC.out.mono ?_
            rintro e w18 ⟨rfl, hb⟩
            clear HC
            have szw18 := hb.size
            replace F0 := Lib.hid (shModel.below F0.out hb (by omega))
            replace F1 := Lib.hid (shPair.below F1.out hb (by omega))
            replace AB0 := Lib.hid ((hb.block w.heap.size (by omega)).trans AB0.out)
            replace AB1 := Lib.hid ((hb.block (w.heap.size + 1) (by omega)).trans AB1.out)
            replace W := Lib.hid (shGrads.below W.out hb (by omega))
            replace BW := Lib.hid ((hb.block gW (by omega)).trans BW.out)
            replace BX0 := Lib.hid ((hb.block w5.heap.size (by omega)).trans BX0.out)
            replace BX1 := Lib.hid ((hb.block w7.heap.size (by omega)).trans BX1.out)
            replace G := Lib.hid (ownGrads.owns_keep G.out (.of_below hb fun b o f => by have := f.2; omega))
            replace BG := Lib.hid ((hb.block w9.heap.size (by omega)).trans BG.out)
            replace T := Lib.hid (T.out.trans (hb.mono (by omega)))
            clear hb
            have hc := markGrads_o _ _ _ v 1 G.out (fun b o f => Nat.lt_of_lt_of_le f.2 (by omega)) vb (by omega) (by rw [KV.out]; omega)
            rw [KV.out] at hc
            have HC := Lib.hid hc
            clear hc
            have zg_0 := cell_of_row _ w9.heap.size 0 _ _ _ BG.out
            have zg_1 := cell_of_row _ w9.heap.size 1 _ _ _ BG.out
            have zg_2 := cell_of_row _ w9.heap.size 2 _ _ _ BG.out
            simp only [List.getElem?_toArray, List.getElem?_cons_zero, List.getElem?_cons_succ] at zg_0 zg_1 zg_2
            go_wp2_with fail
            clear zg_0 zg_1 zg_2
            refine HC.out.mono ?_
            rintro e w20 ⟨rfl, ho, w19, hb, ht⟩
            clear HC
            have szw19 := hb.size
            replace F0 := Lib.hid (shModel.below F0.out hb (by omega))
            replace F1 := Lib.hid (shPair.below F1.out hb (by omega))
            replace AB0 := Lib.hid ((hb.block w.heap.size (by omega)).trans AB0.out)
            replace AB1 := Lib.hid ((hb.block (w.heap.size + 1) (by omega)).trans AB1.out)
            replace W := Lib.hid (shGrads.below W.out hb (by omega))
            replace BW := Lib.hid ((hb.block gW (by omega)).trans BW.out)
            replace BX0 := Lib.hid ((hb.block w5.heap.size (by omega)).trans BX0.out)
            replace BX1 := Lib.hid ((hb.block w7.heap.size (by omega)).trans BX1.out)
            replace BG := Lib.hid ((hb.block w9.heap.size (by omega)).trans BG.out)
            replace T := Lib.hid (T.out.trans (hb.mono (by omega)))
            clear hb
            have hq := ht.below (B := w8.heap.size) fun b o f => f.1
            replace F0 := Lib.hid (shModel.below F0.out hq (by omega))
            replace F1 := Lib.hid (shPair.below F1.out hq (by omega))
            replace AB0 := Lib.hid ((ht.block w.heap.size fun o f => by have h1 := f.1; have h2 := f.2; omega).trans AB0.out)
            replace AB1 := Lib.hid ((ht.block (w.heap.size + 1) fun o f => by have h1 := f.1; have h2 := f.2; omega).trans AB1.out)
            replace W := Lib.hid (shGrads.below W.out hq (by omega))
            replace BW := Lib.hid ((ht.block gW fun o f => by have h1 := f.1; have h2 := f.2; omega).trans BW.out)
            replace BX0 := Lib.hid ((ht.block w5.heap.size fun o f => by have h1 := f.1; have h2 := f.2; omega).trans BX0.out)
            replace BX1 := Lib.hid ((ht.block w7.heap.size fun o f => by have h1 := f.1; have h2 := f.2; omega).trans BX1.out)
            replace BG := Lib.hid ((ht.block w9.heap.size fun o f => by have h1 := f.1; have h2 := f.2; omega).trans BG.out)
            replace T := Lib.hid (T.out.trans (hq.mono (by omega)))
            have szt := ht.size
            clear hq
            have szw20 : w19.heap.size ≤ w20.heap.size := Nat.le_of_eq szt.symm
            replace G := Lib.hid ho
            clear ht szt ho
            have tv : decide ((1 : Int) + (kv : Int) < 0) = false := decide_eq_false (by omega)
            have tn : ((1 : Int) + (kv : Int) != 1 + (kv : Int)) = false := by simp
            have hc := heldGrads_o _ w9.heap.size _ v 1 (ownGrads.owns_reads (I := Under w9.heap.size) G.out fun b o f => f.2) (by omega) vb (by omega) (by rw [KV.out]; omega)
            rw [KV.out] at hc
            have HC := Lib.hid hc
            clear hc
            have zg_0 := cell_of_row _ w9.heap.size 0 _ _ _ BG.out
            have zg_1 := cell_of_row _ w9.heap.size 1 _ _ _ BG.out
            have zg_2 := cell_of_row _ w9.heap.size 2 _ _ _ BG.out
            simp only [List.getElem?_toArray, List.getElem?_cons_zero, List.getElem?_cons_succ] at zg_0 zg_1 zg_2
            go_wp2_with fail
            clear zg_0 zg_1 zg_2
            refine HC.out.mono ?_
            rintro e w21 ⟨rfl, hb⟩
            clear HC
            have szw21 := hb.size
            replace F0 := Lib.hid (shModel.below F0.out hb (by omega))
            replace F1 := Lib.hid (shPair.below F1.out hb (by omega))
            replace AB0 := Lib.hid ((hb.block w.heap.size (by omega)).trans AB0.out)
            replace AB1 := Lib.hid ((hb.block (w.heap.size + 1) (by omega)).trans AB1.out)
            replace W := Lib.hid (shGrads.below W.out hb (by omega))
            replace BW := Lib.hid ((hb.block gW (by omega)).trans BW.out)
            replace BX0 := Lib.hid ((hb.block w5.heap.size (by omega)).trans BX0.out)
            replace BX1 := Lib.hid ((hb.block w7.heap.size (by omega)).trans BX1.out)
            replace BG := Lib.hid ((hb.block w9.heap.size (by omega)).trans BG.out)
            replace G := Lib.hid (ownGrads.owns_keep G.out (.of_below hb fun b o f => by have := f.2; omega))
            replace T := Lib.hid (T.out.trans (hb.mono (by omega)))
            clear hb
            have zs0_0 := cell_of_row _ w.heap.size 0 _ _ _ AB0.out
            simp only [List.getElem?_toArray, List.getElem?_cons_zero, List.getElem?_cons_succ] at zs0_0
            have zs1_0 := cell_of_row _ (w.heap.size + 1) 0 _ _ _ AB1.out
            have zs1_1 := cell_of_row _ (w.heap.size + 1) 1 _ _ _ AB1.out
            simp only [List.getElem?_toArray, List.getElem?_cons_zero, List.getElem?_cons_succ] at zs1_0 zs1_1
            have zr0_0 := cell_of_row _ w.heap.size 0 _ _ _ ((heap_alloc_old w21 (.cells #[.slice none 0 0, .int .i64 0, .bool false] 32 (0, 0)) (show w.heap.size < w21.heap.size by omega)).trans AB0.out)
            simp only [List.getElem?_toArray, List.getElem?_cons_zero, List.getElem?_cons_succ] at zr0_0
            have zr1_0 := cell_of_row _ (w.heap.size + 1) 0 _ _ _ ((heap_alloc_old w21 (.cells #[.slice none 0 0, .int .i64 0, .bool false] 32 (0, 0)) (show (w.heap.size + 1) < w21.heap.size by omega)).trans AB1.out)
            have zr1_1 := cell_of_row _ (w.heap.size + 1) 1 _ _ _ ((heap_alloc_old w21 (.cells #[.slice none 0 0, .int .i64 0, .bool false] 32 (0, 0)) (show (w.heap.size + 1) < w21.heap.size by omega)).trans AB1.out)
            simp only [List.getElem?_toArray, List.getElem?_cons_zero, List.getElem?_cons_succ] at zr1_0 zr1_1
            go_upto_region 31 with fail
            go_cut [13] (fun t wx => BoxedR shGrads 32 w21 wx t v)
            case first =>
              have hA0 : w.heap.size < w21.heap.size := by omega
              have hA1 : (w.heap.size + 1) < w21.heap.size := by omega
              have hdr : Below w21.heap.size w21 w21.drew := (Below.refl _ _).drew
              have hdra : Below w21.heap.size w21 (w21.alloc (.cells #[.slice none 0 0, .int .i64 0, .bool false] 32 (0, 0))).drew := ((Below.refl _ _).alloc (Nat.le_refl _) _).drew
              have DR := Lib.hid hdr
              have DRA := Lib.hid hdra
              clear hdr hdra
              have HC0 := Lib.hid fun (w1 : World) (hb : Below w21.heap.size w21 w1) => toModel_c w1 _ _ x0 (shModel.below F0.out hb (by omega)) (by have := hb.size; omega) (by rw [U0.out]; omega)
              have HC1 := Lib.hid fun (w1 : World) (hb : Below w21.heap.size w21 w1) => toPair_c w1 _ _ x1 (shPair.below F1.out hb (by omega)) (by have := hb.size; omega) (by rw [U1.out]; omega)
              have HF := Lib.hid fun (w1 : World) (hb1 : Below w21.heap.size w21 w1) (q0 : List Value) (hr0 : shModel.reads (Under w1.heap.size) w1 q0 x0) (q1 : List Value) (hr1 : shPair.reads (Under w1.heap.size) w1 q1 x1) => (implMicroGrads_o w1 q0 x0 hr0 (by rw [U0.out]; omega) q1 x1 hr1 (by rw [U1.out]; omega) (HG.out.below hlt (T.out.trans (hb1.mono (by omega))))).mono fun e w' ⟨es', he, ho, hb⟩ => (⟨es', he, ownGrads.owns_reads ho fun b o f => f, hb⟩ : ∃ es' : List Value, e = Ending.returned (.agg es'.toArray) ∧ shGrads.reads (From w1.heap.size w'.heap.size) w' es' _ ∧ Below w1.heap.size w1 w')
              simp only [HV.out] at HF
              clear szw1 szw2 szw3 szw4 szw5 szw6 szw7 szw8 szw9 szw10 szw11 szw12 szw13 szw14 szw15 szw16 szw17 szw18 szw19 szw20 szw21
              go_region_law (go_simp; first
                | (go_at_call 26; (with_reducible refine (HC0.out _ DR.out).mono ?_); rintro e t0 ⟨eg0, rfl, hr, hb⟩; have hp := DR.out; obtain ⟨ag0_0, ng0_0, cg0_0, rfl, -⟩ := shModel_reads.1 hr; have R0 := Lib.hid (shModel.under hr); have B := Lib.hid (hp.trans (hb.mono hp.size)); have zz0_1_0 := cell_of_row _ (w.heap.size + 1) 0 _ _ _ ((B.out.block (w.heap.size + 1) hA1).trans AB1.out); have zz0_1_1 := cell_of_row _ (w.heap.size + 1) 1 _ _ _ ((B.out.block (w.heap.size + 1) hA1).trans AB1.out); have zm0_1_0 := cell_of_row _ (w.heap.size + 1) 0 _ _ _ ((heap_alloc_old t0 (.cells #[.slice none 0 0, .int .i64 0, .bool false] 32 (0, 0)) (Nat.lt_of_lt_of_le hA1 B.out.size)).trans ((B.out.block (w.heap.size + 1) hA1).trans AB1.out)); have zm0_1_1 := cell_of_row _ (w.heap.size + 1) 1 _ _ _ ((heap_alloc_old t0 (.cells #[.slice none 0 0, .int .i64 0, .bool false] 32 (0, 0)) (Nat.lt_of_lt_of_le hA1 B.out.size)).trans ((B.out.block (w.heap.size + 1) hA1).trans AB1.out)); simp only [List.getElem?_toArray, List.getElem?_cons_zero, List.getElem?_cons_succ] at zz0_1_0 zm0_1_0 zz0_1_1 zm0_1_1; clear hb hr hp)
                | (go_at_call 26; (with_reducible refine (HC0.out _ DRA.out).mono ?_); rintro e t0 ⟨eg0, rfl, hr, hb⟩; have hp := DRA.out; have BX := Lib.hid ((BoxIn.new (Below.refl w21.heap.size w21) (.cells #[.slice none 0 0, .int .i64 0, .bool false] 32 (0, 0))).drew.call hb); obtain ⟨ag0_0, ng0_0, cg0_0, rfl, -⟩ := shModel_reads.1 hr; have R0 := Lib.hid (shModel.under hr); have B := Lib.hid (hp.trans (hb.mono hp.size)); have zz0_1_0 := cell_of_row _ (w.heap.size + 1) 0 _ _ _ ((B.out.block (w.heap.size + 1) hA1).trans AB1.out); have zz0_1_1 := cell_of_row _ (w.heap.size + 1) 1 _ _ _ ((B.out.block (w.heap.size + 1) hA1).trans AB1.out); have zm0_1_0 := cell_of_row _ (w.heap.size + 1) 0 _ _ _ ((heap_alloc_old t0 (.cells #[.slice none 0 0, .int .i64 0, .bool false] 32 (0, 0)) (Nat.lt_of_lt_of_le hA1 B.out.size)).trans ((B.out.block (w.heap.size + 1) hA1).trans AB1.out)); have zm0_1_1 := cell_of_row _ (w.heap.size + 1) 1 _ _ _ ((heap_alloc_old t0 (.cells #[.slice none 0 0, .int .i64 0, .bool false] 32 (0, 0)) (Nat.lt_of_lt_of_le hA1 B.out.size)).trans ((B.out.block (w.heap.size + 1) hA1).trans AB1.out)); simp only [List.getElem?_toArray, List.getElem?_cons_zero, List.getElem?_cons_succ] at zz0_1_0 zm0_1_0 zz0_1_1 zm0_1_1; clear hb hr hp)
                | (go_at_call 27; (with_reducible refine (HC1.out _ B.out).mono ?_); rintro e t1 ⟨eg1, rfl, hr, hb⟩; have hp := B.out; have hbb := hb; (try replace BX := Lib.hid (BX.out.call hb)); obtain ⟨ag1_0, ng1_0, cg1_0, ag1_1, ng1_1, cg1_1, rfl, -⟩ := shPair_reads.1 hr; replace R0 := Lib.hid (shModel.le (shModel.below R0.out hbb (Nat.le_refl _)) hbb.size); have R1 := Lib.hid (shPair.under hr); replace B := Lib.hid (hp.trans (hb.mono hp.size)); clear hb hr hp hbb)
                | (go_at_call 27; (with_reducible refine (HC1.out _ (B.out.alloc B.out.size (.cells #[.slice none 0 0, .int .i64 0, .bool false] 32 (0, 0)))).mono ?_); rintro e t1 ⟨eg1, rfl, hr, hb⟩; have hp := B.out.alloc B.out.size (.cells #[.slice none 0 0, .int .i64 0, .bool false] 32 (0, 0)); have hbb := ((Below.refl _ t0).alloc (Nat.le_refl _) (.cells #[.slice none 0 0, .int .i64 0, .bool false] 32 (0, 0))).trans (hb.mono (by simp)); have BX := Lib.hid ((BoxIn.new B.out (.cells #[.slice none 0 0, .int .i64 0, .bool false] 32 (0, 0))).call hb); obtain ⟨ag1_0, ng1_0, cg1_0, ag1_1, ng1_1, cg1_1, rfl, -⟩ := shPair_reads.1 hr; replace R0 := Lib.hid (shModel.le (shModel.below R0.out hbb (Nat.le_refl _)) hbb.size); have R1 := Lib.hid (shPair.under hr); replace B := Lib.hid (hp.trans (hb.mono hp.size)); clear hb hr hp hbb)
                | (go_at_call 12; (with_reducible refine (HF.out _ B.out _ R0.out _ R1.out).mono ?_); rintro e tq ⟨ew, rfl, hr, hb⟩; have hp := B.out; (try (have BL := Lib.hid BX.out.2.2; replace BX := Lib.hid (BX.out.call hb); have yy_0 := cell_of_row _ _ 0 _ _ _ BX.out.1; have ff_0 := frozen_of_row _ _ 0 _ _ BX.out.1; have yy_1 := cell_of_row _ _ 1 _ _ _ BX.out.1; have ff_1 := frozen_of_row _ _ 1 _ _ BX.out.1; have yy_2 := cell_of_row _ _ 2 _ _ _ BX.out.1; have ff_2 := frozen_of_row _ _ 2 _ _ BX.out.1; simp only [List.getElem?_toArray, List.getElem?_cons_zero, List.getElem?_cons_succ] at yy_0 yy_1 yy_2)); obtain ⟨aq_0, nq_0, cq_0, rfl, -⟩ := shGrads_reads.1 hr; have BQ := Lib.hid (hp.trans (hb.mono hp.size)); have RQ := Lib.hid hr; clear hb hr hp)
                | (go_at_call 12; (with_reducible refine (HF.out _ (B.out.alloc B.out.size (.cells #[.slice none 0 0, .int .i64 0, .bool false] 32 (0, 0))) _ (shModel.le (shModel.below R0.out ((Below.refl _ _).alloc (Nat.le_refl _) (.cells #[.slice none 0 0, .int .i64 0, .bool false] 32 (0, 0))) (Nat.le_refl _)) (by simp)) _ (shPair.le (shPair.below R1.out ((Below.refl _ _).alloc (Nat.le_refl _) (.cells #[.slice none 0 0, .int .i64 0, .bool false] 32 (0, 0))) (Nat.le_refl _)) (by simp))).mono ?_); rintro e tq ⟨ew, rfl, hr, hb⟩; have hp := B.out.alloc B.out.size (.cells #[.slice none 0 0, .int .i64 0, .bool false] 32 (0, 0)); have BX := Lib.hid ((BoxIn.new B.out (.cells #[.slice none 0 0, .int .i64 0, .bool false] 32 (0, 0))).call hb); have BL : Hid (t1.heap.size < (t1.alloc (.cells #[.slice none 0 0, .int .i64 0, .bool false] 32 (0, 0))).heap.size) := Lib.hid (by simp); have yy_0 := cell_of_row _ _ 0 _ _ _ BX.out.1; have ff_0 := frozen_of_row _ _ 0 _ _ BX.out.1; have yy_1 := cell_of_row _ _ 1 _ _ _ BX.out.1; have ff_1 := frozen_of_row _ _ 1 _ _ BX.out.1; have yy_2 := cell_of_row _ _ 2 _ _ _ BX.out.1; have ff_2 := frozen_of_row _ _ 2 _ _ BX.out.1; simp only [List.getElem?_toArray, List.getElem?_cons_zero, List.getElem?_cons_succ] at yy_0 yy_1 yy_2; obtain ⟨aq_0, nq_0, cq_0, rfl, -⟩ := shGrads_reads.1 hr; have BQ := Lib.hid (hp.trans (hb.mono hp.size)); have RQ := Lib.hid hr; clear hb hr hp))
              all_goals
                clear zs0_0 zr0_0 zs1_0 zs1_1 zr1_0 zr1_1
                try clear zz0_1_0 zm0_1_0 zz0_1_1 zm0_1_1
                try clear yy_0 ff_0 yy_1 ff_1 yy_2 ff_2
                clear HF DR DRA HC0 HC1
                go_wp2_with fail
                go_meet
                case rel => first | (with_reducible exact BoxedR.last BQ.out RQ.out) | (with_reducible exact BoxedR.early3 BQ.out RQ.out BX.out BL.out)
            case rest =>
              clear zs0_0
              clear zr0_0
              clear zs1_0 zs1_1
              clear zr1_0 zr1_1
              obtain ⟨gJ, eJ, rfl, hk, hr, hg1, hg2, hb⟩ := hcut
              obtain ⟨w22, rfl⟩ : ∃ x, x = wc := ⟨_, rfl⟩
              have szw22 := hb.size
              replace F0 := Lib.hid (shModel.below F0.out hb (by omega))
              replace F1 := Lib.hid (shPair.below F1.out hb (by omega))
              replace AB0 := Lib.hid ((hb.block w.heap.size (by omega)).trans AB0.out)
              replace AB1 := Lib.hid ((hb.block (w.heap.size + 1) (by omega)).trans AB1.out)
              replace W := Lib.hid (shGrads.below W.out hb (by omega))
              replace BW := Lib.hid ((hb.block gW (by omega)).trans BW.out)
              replace BX0 := Lib.hid ((hb.block w5.heap.size (by omega)).trans BX0.out)
              replace BX1 := Lib.hid ((hb.block w7.heap.size (by omega)).trans BX1.out)
              replace BG := Lib.hid ((hb.block w9.heap.size (by omega)).trans BG.out)
              replace G := Lib.hid (ownGrads.owns_keep G.out (.of_below hb fun b o f => by have := f.2; omega))
              replace T := Lib.hid (T.out.trans (hb.mono (by omega)))
              clear hb
              obtain ⟨aJ_0, nJ_0, cJ_0, rfl, -⟩ := shGrads_reads.1 hr
              have J := Lib.hid hr
              have BJ := Lib.hid hk
              clear hr hk
              have HC := Lib.hid (eqGrads_c _ _ _ _ _ v J.out W.out (by omega) (by omega) vb)
              have zg_0 := cell_of_row _ gJ 0 _ _ _ BJ.out
              have zg_1 := cell_of_row _ gJ 1 _ _ _ BJ.out
              have zg_2 := cell_of_row _ gJ 2 _ _ _ BJ.out
              simp only [List.getElem?_toArray, List.getElem?_cons_zero, List.getElem?_cons_succ] at zg_0 zg_1 zg_2
              have zw_0 := cell_of_row _ gW 0 _ _ _ BW.out
              have zw_1 := cell_of_row _ gW 1 _ _ _ BW.out
              have zw_2 := cell_of_row _ gW 2 _ _ _ BW.out
              simp only [List.getElem?_toArray, List.getElem?_cons_zero, List.getElem?_cons_succ] at zw_0 zw_1 zw_2
              go_wp2_with fail
              clear zg_0 zg_1 zg_2
              clear zw_0 zw_1 zw_2
              refine HC.out.mono ?_
              rintro e w23 ⟨rfl, hb⟩
              clear HC
              have szw23 := hb.size
              replace F0 := Lib.hid (shModel.below F0.out hb (by omega))
              replace F1 := Lib.hid (shPair.below F1.out hb (by omega))
              replace AB0 := Lib.hid ((hb.block w.heap.size (by omega)).trans AB0.out)
              replace AB1 := Lib.hid ((hb.block (w.heap.size + 1) (by omega)).trans AB1.out)
              replace W := Lib.hid (shGrads.below W.out hb (by omega))
              replace BW := Lib.hid ((hb.block gW (by omega)).trans BW.out)
              replace BX0 := Lib.hid ((hb.block w5.heap.size (by omega)).trans BX0.out)
              replace BX1 := Lib.hid ((hb.block w7.heap.size (by omega)).trans BX1.out)
              replace BG := Lib.hid ((hb.block w9.heap.size (by omega)).trans BG.out)
              replace G := Lib.hid (ownGrads.owns_keep G.out (.of_below hb fun b o f => by have := f.2; omega))
              replace J := Lib.hid (shGrads.below J.out hb (by omega))
              replace BJ := Lib.hid ((hb.block gJ (by omega)).trans BJ.out)
              replace T := Lib.hid (T.out.trans (hb.mono (by omega)))
              clear hb
              have hc := heldGrads_o _ w9.heap.size _ v 1 (ownGrads.owns_reads (I := Under w9.heap.size) G.out fun b o f => f.2) (by omega) vb (by omega) (by rw [KV.out]; omega)
              rw [KV.out] at hc
              have HC := Lib.hid hc
              clear hc
              have zg_0 := cell_of_row _ w9.heap.size 0 _ _ _ BG.out
              have zg_1 := cell_of_row _ w9.heap.size 1 _ _ _ BG.out
              have zg_2 := cell_of_row _ w9.heap.size 2 _ _ _ BG.out
              simp only [List.getElem?_toArray, List.getElem?_cons_zero, List.getElem?_cons_succ] at zg_0 zg_1 zg_2
              go_wp2_with fail
              clear zg_0 zg_1 zg_2
              refine HC.out.mono ?_
              rintro e w24 ⟨rfl, hb⟩
              clear HC
              have szw24 := hb.size
              replace F0 := Lib.hid (shModel.below F0.out hb (by omega))
              replace F1 := Lib.hid (shPair.below F1.out hb (by omega))
              replace AB0 := Lib.hid ((hb.block w.heap.size (by omega)).trans AB0.out)
              replace AB1 := Lib.hid ((hb.block (w.heap.size + 1) (by omega)).trans AB1.out)
              replace W := Lib.hid (shGrads.below W.out hb (by omega))
              replace BW := Lib.hid ((hb.block gW (by omega)).trans BW.out)
              replace BX0 := Lib.hid ((hb.block w5.heap.size (by omega)).trans BX0.out)
              replace BX1 := Lib.hid ((hb.block w7.heap.size (by omega)).trans BX1.out)
              replace BG := Lib.hid ((hb.block w9.heap.size (by omega)).trans BG.out)
              replace G := Lib.hid (ownGrads.owns_keep G.out (.of_below hb fun b o f => by have := f.2; omega))
              replace J := Lib.hid (shGrads.below J.out hb (by omega))
              replace BJ := Lib.hid ((hb.block gJ (by omega)).trans BJ.out)
              replace T := Lib.hid (T.out.trans (hb.mono (by omega)))
              clear hb
              go_wp2_with fail
              go_ret
              exact ⟨rfl, T.out⟩
    · have hk0 : ((w.alloc (.cells #[.slice a0_0 n0_0 c0_0] 52 (0, 0))).alloc (.cells #[.slice a1_0 n1_0 c1_0, .slice a1_1 n1_1 c1_1] 53 (0, 0))).heap[w.heap.size]? = some (.cells #[.slice a0_0 n0_0 c0_0] 52 (0, 0)) := by
        rw [Below.heap_alloc _ _ _ (by simp)]
        have := heap_alloc_new w (.cells #[.slice a0_0 n0_0 c0_0] 52 (0, 0))
        simpa using this
      have hk1 : ((w.alloc (.cells #[.slice a0_0 n0_0 c0_0] 52 (0, 0))).alloc (.cells #[.slice a1_0 n1_0 c1_0, .slice a1_1 n1_1 c1_1] 53 (0, 0))).heap[w.heap.size + 1]? = some (.cells #[.slice a1_0 n1_0 c1_0, .slice a1_1 n1_1 c1_1] 53 (0, 0)) := by
        have := heap_alloc_new (w.alloc (.cells #[.slice a0_0 n0_0 c0_0] 52 (0, 0))) (.cells #[.slice a1_0 n1_0 c1_0, .slice a1_1 n1_1 c1_1] 53 (0, 0))
        simpa using this
      have hb := ((Below.refl w.heap.size w).alloc (Nat.le_refl _) (.cells #[.slice a0_0 n0_0 c0_0] 52 (0, 0))).alloc (by simp) (.cells #[.slice a1_0 n1_0 c1_0, .slice a1_1 n1_1 c1_1] 53 (0, 0))
      have szw1 : w.heap.size + 2 = ((w.alloc (.cells #[.slice a0_0 n0_0 c0_0] 52 (0, 0))).alloc (.cells #[.slice a1_0 n1_0 c1_0, .slice a1_1 n1_1 c1_1] 53 (0, 0))).heap.size := by simp
      go_enter Tryz.func5, Tryz.ntmps5
      go_wp2_with fail
      generalize ((w.alloc (.cells #[.slice a0_0 n0_0 c0_0] 52 (0, 0))).alloc (.cells #[.slice a1_0 n1_0 c1_0, .slice a1_1 n1_1 c1_1] 53 (0, 0))) = w1 at hb szw1 hk0 hk1 ⊢
      replace F0 := Lib.hid (shModel.below F0.out hb (by omega))
      replace F1 := Lib.hid (shPair.below F1.out hb (by omega))
      replace T := Lib.hid (T.out.trans (hb.mono (by omega)))
      have AB0 := Lib.hid hk0
      have AB1 := Lib.hid hk1
      clear hb hk0 hk1
      have hc := szModel_c _ _ _ x0 (1048576) F0.out (by omega) (by omega) (by omega)
      rw [U0.out, szN_yes (by omega)] at hc
      obtain ⟨l0, hl0⟩ : ∃ l, 1048576 - (u0 : Int) = l := ⟨_, rfl⟩
      rw [hl0] at hc
      have t0 : decide (l0 < 0) = false := decide_eq_false (by omega)
      have HC := Lib.hid hc
      clear hc
      refine HC.out.mono ?_
      rintro e w2 ⟨rfl, hb⟩
      clear HC
      have szw2 := hb.size
      replace F0 := Lib.hid (shModel.below F0.out hb (by omega))
      replace F1 := Lib.hid (shPair.below F1.out hb (by omega))
      replace AB0 := Lib.hid ((hb.block w.heap.size (by omega)).trans AB0.out)
      replace AB1 := Lib.hid ((hb.block (w.heap.size + 1) (by omega)).trans AB1.out)
      replace T := Lib.hid (T.out.trans (hb.mono (by omega)))
      clear hb
      have hc := szPair_c _ _ _ x1 (l0) F1.out (by omega) (by omega) (by omega)
      rw [U1.out, szN_no (by omega)] at hc
      have HC := Lib.hid hc
      clear hc
      have za_0 := cell_of_row _ (w.heap.size + 1) 0 _ _ _ AB1.out
      have za_1 := cell_of_row _ (w.heap.size + 1) 1 _ _ _ AB1.out
      simp only [List.getElem?_toArray, List.getElem?_cons_zero, List.getElem?_cons_succ] at za_0 za_1
      go_wp2_with fail
      clear za_0 za_1
      refine HC.out.mono ?_
      rintro e w3 ⟨rfl, hb⟩
      clear HC
      have szw3 := hb.size
      replace F0 := Lib.hid (shModel.below F0.out hb (by omega))
      replace F1 := Lib.hid (shPair.below F1.out hb (by omega))
      replace AB0 := Lib.hid ((hb.block w.heap.size (by omega)).trans AB0.out)
      replace AB1 := Lib.hid ((hb.block (w.heap.size + 1) (by omega)).trans AB1.out)
      replace T := Lib.hid (T.out.trans (hb.mono (by omega)))
      clear hb
      go_wp2_with fail
      go_ret
      exact ⟨rfl, T.out⟩
  · have hk0 : ((w.alloc (.cells #[.slice a0_0 n0_0 c0_0] 52 (0, 0))).alloc (.cells #[.slice a1_0 n1_0 c1_0, .slice a1_1 n1_1 c1_1] 53 (0, 0))).heap[w.heap.size]? = some (.cells #[.slice a0_0 n0_0 c0_0] 52 (0, 0)) := by
      rw [Below.heap_alloc _ _ _ (by simp)]
      have := heap_alloc_new w (.cells #[.slice a0_0 n0_0 c0_0] 52 (0, 0))
      simpa using this
    have hk1 : ((w.alloc (.cells #[.slice a0_0 n0_0 c0_0] 52 (0, 0))).alloc (.cells #[.slice a1_0 n1_0 c1_0, .slice a1_1 n1_1 c1_1] 53 (0, 0))).heap[w.heap.size + 1]? = some (.cells #[.slice a1_0 n1_0 c1_0, .slice a1_1 n1_1 c1_1] 53 (0, 0)) := by
      have := heap_alloc_new (w.alloc (.cells #[.slice a0_0 n0_0 c0_0] 52 (0, 0))) (.cells #[.slice a1_0 n1_0 c1_0, .slice a1_1 n1_1 c1_1] 53 (0, 0))
      simpa using this
    have hb := ((Below.refl w.heap.size w).alloc (Nat.le_refl _) (.cells #[.slice a0_0 n0_0 c0_0] 52 (0, 0))).alloc (by simp) (.cells #[.slice a1_0 n1_0 c1_0, .slice a1_1 n1_1 c1_1] 53 (0, 0))
    have szw1 : w.heap.size + 2 = ((w.alloc (.cells #[.slice a0_0 n0_0 c0_0] 52 (0, 0))).alloc (.cells #[.slice a1_0 n1_0 c1_0, .slice a1_1 n1_1 c1_1] 53 (0, 0))).heap.size := by simp
    go_enter Tryz.func5, Tryz.ntmps5
    go_wp2_with fail
    generalize ((w.alloc (.cells #[.slice a0_0 n0_0 c0_0] 52 (0, 0))).alloc (.cells #[.slice a1_0 n1_0 c1_0, .slice a1_1 n1_1 c1_1] 53 (0, 0))) = w1 at hb szw1 hk0 hk1 ⊢
    replace F0 := Lib.hid (shModel.below F0.out hb (by omega))
    replace F1 := Lib.hid (shPair.below F1.out hb (by omega))
    replace T := Lib.hid (T.out.trans (hb.mono (by omega)))
    have AB0 := Lib.hid hk0
    have AB1 := Lib.hid hk1
    clear hb hk0 hk1
    have hc := szModel_c _ _ _ x0 (1048576) F0.out (by omega) (by omega) (by omega)
    rw [U0.out, szN_no (by omega)] at hc
    have HC := Lib.hid hc
    clear hc
    refine HC.out.mono ?_
    rintro e w2 ⟨rfl, hb⟩
    clear HC
    have szw2 := hb.size
    replace F0 := Lib.hid (shModel.below F0.out hb (by omega))
    replace F1 := Lib.hid (shPair.below F1.out hb (by omega))
    replace AB0 := Lib.hid ((hb.block w.heap.size (by omega)).trans AB0.out)
    replace AB1 := Lib.hid ((hb.block (w.heap.size + 1) (by omega)).trans AB1.out)
    replace T := Lib.hid (T.out.trans (hb.mono (by omega)))
    clear hb
    go_wp2_with fail
    go_ret
    exact ⟨rfl, T.out⟩
end Go.Proofs.YtgnjcfbfbpjndaaGreatDoor
