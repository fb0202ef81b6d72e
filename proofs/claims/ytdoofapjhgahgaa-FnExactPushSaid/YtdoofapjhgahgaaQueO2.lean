/-
  Exact laws that answer several values: the walks.
-/
import Derived.Test.YtdoofapjhgahgaaQueR
import Derived.Test.YtdoofapjhgahgaaQueN
import Derived.Test.YtdoofapjhgahgaaFewQ
import Derived.Test.YtdoofapjhgahgaaQueW
import Derived.Test.YtdoofapjhgahgaaOpen
import Derived.Test.YtdoofapjhgahgaaBoxed
import Derived.Deep.DeepCutAuto
import Derived.Deep.RegionLaw
namespace Go.Proofs.Ytdoofapjhgahgaa
open Go.RowKit
set_option linter.unusedVariables false
set_option linter.unusedSimpArgs false

set_option maxRecDepth 100000 in
set_option maxHeartbeats 12800000 in
theorem lawPush_any (w : World) (es0 : List Value) (x0 : dQueue) (h0 : shQueue.reads (Under w.heap.size) w es0 x0) (es1 : List Value) (x1 : dItem) (h1 : shItem.reads (Under w.heap.size) w es1 x1) :
    Calls Try.prog 5 #[(.agg es0.toArray), (.agg es1.toArray)] w fun e w' => e = .returned (.bool true) ∧ Below w.heap.size w w' := by
  obtain ⟨a0_0, n0_0, c0_0, rfl, -⟩ := shQueue_reads.1 h0
  obtain ⟨u0, hu0⟩ : ∃ u, shQueue.bulk x0 = u := ⟨_, rfl⟩
  obtain ⟨k0, hk0⟩ : ∃ k, ownQueue.ctT x0 = k := ⟨_, rfl⟩
  have K0 := Lib.hid hk0
  have fw0 : k0 ≤ 16 * u0 := by rw [← hk0, ← hu0]; exact ownQueue_few x0
  have U0 := Lib.hid hu0
  have F0 := Lib.hid h0
  obtain ⟨a1_0, n1_0, c1_0, rfl, -⟩ := shItem_reads.1 h1
  obtain ⟨u1, hu1⟩ : ∃ u, shItem.bulk x1 = u := ⟨_, rfl⟩
  obtain ⟨k1, hk1⟩ : ∃ k, ownItem.ctT x1 = k := ⟨_, rfl⟩
  have K1 := Lib.hid hk1
  have fw1 : k1 ≤ 16 * u1 := by rw [← hk1, ← hu1]; exact ownItem_few x1
  have U1 := Lib.hid hu1
  have F1 := Lib.hid h1
  have T := Lib.hid (Below.refl w.heap.size w)
  clear hu0 hk0 h0 hu1 hk1 h1
  by_cases f0 : ((u0 : Nat) : Int) ≤ 1048576
  · skip
    by_cases f1 : ((u0 + u1 : Nat) : Int) ≤ 1048576
    · have hk0 : ((w.alloc (.cells #[.int .i64 x0.1, .slice a0_0 n0_0 c0_0] 42 (0, 0))).alloc (.cells #[.int .i64 x1.1, .slice a1_0 n1_0 c1_0] 47 (0, 0))).heap[w.heap.size]? = some (.cells #[.int .i64 x0.1, .slice a0_0 n0_0 c0_0] 42 (0, 0)) := by
        rw [Below.heap_alloc _ _ _ (by simp)]
        have := heap_alloc_new w (.cells #[.int .i64 x0.1, .slice a0_0 n0_0 c0_0] 42 (0, 0))
        simpa using this
      have hk1 : ((w.alloc (.cells #[.int .i64 x0.1, .slice a0_0 n0_0 c0_0] 42 (0, 0))).alloc (.cells #[.int .i64 x1.1, .slice a1_0 n1_0 c1_0] 47 (0, 0))).heap[w.heap.size + 1]? = some (.cells #[.int .i64 x1.1, .slice a1_0 n1_0 c1_0] 47 (0, 0)) := by
        have := heap_alloc_new (w.alloc (.cells #[.int .i64 x0.1, .slice a0_0 n0_0 c0_0] 42 (0, 0))) (.cells #[.int .i64 x1.1, .slice a1_0 n1_0 c1_0] 47 (0, 0))
        simpa using this
      have hb := ((Below.refl w.heap.size w).alloc (Nat.le_refl _) (.cells #[.int .i64 x0.1, .slice a0_0 n0_0 c0_0] 42 (0, 0))).alloc (by simp) (.cells #[.int .i64 x1.1, .slice a1_0 n1_0 c1_0] 47 (0, 0))
      have szw1 : w.heap.size + 2 = ((w.alloc (.cells #[.int .i64 x0.1, .slice a0_0 n0_0 c0_0] 42 (0, 0))).alloc (.cells #[.int .i64 x1.1, .slice a1_0 n1_0 c1_0] 47 (0, 0))).heap.size := by simp
      go_enter Try.func5, Try.ntmps5
      go_wp2_with fail
      generalize ((w.alloc (.cells #[.int .i64 x0.1, .slice a0_0 n0_0 c0_0] 42 (0, 0))).alloc (.cells #[.int .i64 x1.1, .slice a1_0 n1_0 c1_0] 47 (0, 0))) = w1 at hb szw1 hk0 hk1 ⊢
      replace F0 := Lib.hid (shQueue.below F0.out hb (by omega))
      replace F1 := Lib.hid (shItem.below F1.out hb (by omega))
      replace T := Lib.hid (T.out.trans (hb.mono (by omega)))
      have AB0 := Lib.hid hk0
      have AB1 := Lib.hid hk1
      clear hb hk0 hk1
      have hc := szQueue_c _ _ _ x0 (1048576) F0.out (by omega) (by omega) (by omega)
      rw [U0.out, szN_yes (by omega)] at hc
      obtain ⟨l0, hl0⟩ : ∃ l, 1048576 - (u0 : Int) = l := ⟨_, rfl⟩
      rw [hl0] at hc
      have t0 : decide (l0 < 0) = false := decide_eq_false (by omega)
      have HC := Lib.hid hc
      clear hc
      refine HC.out.mono ?_
      rintro e w2 ⟨rfl, hb⟩
      clear HC
      have szw2 := hb.size
      replace F0 := Lib.hid (shQueue.below F0.out hb (by omega))
      replace F1 := Lib.hid (shItem.below F1.out hb (by omega))
      replace AB0 := Lib.hid ((hb.block w.heap.size (by omega)).trans AB0.out)
      replace AB1 := Lib.hid ((hb.block (w.heap.size + 1) (by omega)).trans AB1.out)
      replace T := Lib.hid (T.out.trans (hb.mono (by omega)))
      clear hb
      have hc := szItem_c _ _ _ x1 (l0) F1.out (by omega) (by omega) (by omega)
      rw [U1.out, szN_yes (by omega)] at hc
      obtain ⟨l1, hl1⟩ : ∃ l, l0 - (u1 : Int) = l := ⟨_, rfl⟩
      rw [hl1] at hc
      have t1 : decide (l1 < 0) = false := decide_eq_false (by omega)
      have HC := Lib.hid hc
      clear hc
      have za_0 := cell_of_row _ (w.heap.size + 1) 0 _ _ _ AB1.out
      have za_1 := cell_of_row _ (w.heap.size + 1) 1 _ _ _ AB1.out
      simp only [List.getElem?_toArray, List.getElem?_cons_zero, List.getElem?_cons_succ] at za_0 za_1
      go_wp2_with fail
      clear za_0 za_1
      refine HC.out.mono ?_
      rintro e w3 ⟨rfl, hb⟩
      clear HC
      have szw3 := hb.size
      replace F0 := Lib.hid (shQueue.below F0.out hb (by omega))
      replace F1 := Lib.hid (shItem.below F1.out hb (by omega))
      replace AB0 := Lib.hid ((hb.block w.heap.size (by omega)).trans AB0.out)
      replace AB1 := Lib.hid ((hb.block (w.heap.size + 1) (by omega)).trans AB1.out)
      replace T := Lib.hid (T.out.trans (hb.mono (by omega)))
      clear hb
      have ub : u0 + u1 ≤ 1048576 := by omega
      obtain ⟨v0, hv0⟩ : ∃ v, pushN x0 x1 = v := ⟨_, rfl⟩
      have vb0 : shQueue.bulk v0 ≤ 1048576 := by
        rw [← hv0]
        exact push_bulk x0 x1 (by rw [U0.out]; omega)
      obtain ⟨kv0, hkv0⟩ : ∃ k, ownQueue.ctT v0 = k := ⟨_, rfl⟩
      have fwv0 : kv0 ≤ 16777216 := by rw [← hkv0]; have := ownQueue_few v0; omega
      have KV0 := Lib.hid hkv0
      have HV0 := Lib.hid hv0
      clear hv0 hkv0
      obtain ⟨v1, hv1⟩ : ∃ v, pushB x0 x1 = v := ⟨_, rfl⟩
      have hd1 : (v1 != v1) = false := by simp
      have hx1 : (v1 ^^ v1) = false := by simp
      have HV1 := Lib.hid hv1
      clear hv1
      have zs0_0 := cell_of_row _ w.heap.size 0 _ _ _ AB0.out
      have zs0_1 := cell_of_row _ w.heap.size 1 _ _ _ AB0.out
      simp only [List.getElem?_toArray, List.getElem?_cons_zero, List.getElem?_cons_succ] at zs0_0 zs0_1
      have zs1_0 := cell_of_row _ (w.heap.size + 1) 0 _ _ _ AB1.out
      have zs1_1 := cell_of_row _ (w.heap.size + 1) 1 _ _ _ AB1.out
      simp only [List.getElem?_toArray, List.getElem?_cons_zero, List.getElem?_cons_succ] at zs1_0 zs1_1
      have zr0_0 := cell_of_row _ w.heap.size 0 _ _ _ ((heap_alloc_old w3 (.cells #[.int .i64 0, .slice none 0 0] 26 (0, 0)) (show w.heap.size < w3.heap.size by omega)).trans AB0.out)
      have zr0_1 := cell_of_row _ w.heap.size 1 _ _ _ ((heap_alloc_old w3 (.cells #[.int .i64 0, .slice none 0 0] 26 (0, 0)) (show w.heap.size < w3.heap.size by omega)).trans AB0.out)
      simp only [List.getElem?_toArray, List.getElem?_cons_zero, List.getElem?_cons_succ] at zr0_0 zr0_1
      have zr1_0 := cell_of_row _ (w.heap.size + 1) 0 _ _ _ ((heap_alloc_old w3 (.cells #[.int .i64 0, .slice none 0 0] 26 (0, 0)) (show (w.heap.size + 1) < w3.heap.size by omega)).trans AB1.out)
      have zr1_1 := cell_of_row _ (w.heap.size + 1) 1 _ _ _ ((heap_alloc_old w3 (.cells #[.int .i64 0, .slice none 0 0] 26 (0, 0)) (show (w.heap.size + 1) < w3.heap.size by omega)).trans AB1.out)
      simp only [List.getElem?_toArray, List.getElem?_cons_zero, List.getElem?_cons_succ] at zr1_0 zr1_1
      go_upto_region 8 with fail
      go_cut [6, 7] (fun t y0 wx => y0 = .bool v1 ∧ BoxedR shQueue 26 w3 wx t v0)
      case first =>
        have hA0 : w.heap.size < w3.heap.size := by omega
        have hA1 : (w.heap.size + 1) < w3.heap.size := by omega
        have hdr : Below w3.heap.size w3 w3.drew := (Below.refl _ _).drew
        have hdra : Below w3.heap.size w3 (w3.alloc (.cells #[.int .i64 0, .slice none 0 0] 26 (0, 0))).drew := ((Below.refl _ _).alloc (Nat.le_refl _) _).drew
        have DR := Lib.hid hdr
        have DRA := Lib.hid hdra
        clear hdr hdra
        have HC0 := Lib.hid fun (w1 : World) (hb : Below w3.heap.size w3 w1) => toQueue_c w1 _ _ x0 (shQueue.below F0.out hb (by omega)) (by have := hb.size; omega) (by rw [U0.out]; omega)
        have HC1 := Lib.hid fun (w1 : World) (hb : Below w3.heap.size w3 w1) => toItem_c w1 _ _ x1 (shItem.below F1.out hb (by omega)) (by have := hb.size; omega) (by rw [U1.out]; omega)
        have HF := Lib.hid fun (w1 : World) (hb1 : Below w3.heap.size w3 w1) (q0 : List Value) (hr0 : shQueue.reads (Under w1.heap.size) w1 q0 x0) (q1 : List Value) (hr1 : shItem.reads (Under w1.heap.size) w1 q1 x1) => specPush_o w1 q0 x0 hr0 (by rw [U0.out]; omega) q1 x1 hr1 (by rw [U1.out]; omega)
        simp only [HV0.out, HV1.out] at HF
        clear szw1 szw2 szw3
        go_region_law (go_simp; first
          | (go_at_call 17; (with_reducible refine (HC0.out _ DR.out).mono ?_); rintro e t0 ⟨eg0, rfl, hr, hb⟩; have hp := DR.out; obtain ⟨ag0_0, ng0_0, cg0_0, rfl, -⟩ := shQueue_reads.1 hr; have R0 := Lib.hid (shQueue.under hr); have B := Lib.hid (hp.trans (hb.mono hp.size)); have zz0_1_0 := cell_of_row _ (w.heap.size + 1) 0 _ _ _ ((B.out.block (w.heap.size + 1) hA1).trans AB1.out); have zz0_1_1 := cell_of_row _ (w.heap.size + 1) 1 _ _ _ ((B.out.block (w.heap.size + 1) hA1).trans AB1.out); have zm0_1_0 := cell_of_row _ (w.heap.size + 1) 0 _ _ _ ((heap_alloc_old t0 (.cells #[.int .i64 0, .slice none 0 0] 26 (0, 0)) (Nat.lt_of_lt_of_le hA1 B.out.size)).trans ((B.out.block (w.heap.size + 1) hA1).trans AB1.out)); have zm0_1_1 := cell_of_row _ (w.heap.size + 1) 1 _ _ _ ((heap_alloc_old t0 (.cells #[.int .i64 0, .slice none 0 0] 26 (0, 0)) (Nat.lt_of_lt_of_le hA1 B.out.size)).trans ((B.out.block (w.heap.size + 1) hA1).trans AB1.out)); simp only [List.getElem?_toArray, List.getElem?_cons_zero, List.getElem?_cons_succ] at zz0_1_0 zm0_1_0 zz0_1_1 zm0_1_1; clear hb hr hp)
          | (go_at_call 17; (with_reducible refine (HC0.out _ DRA.out).mono ?_); rintro e t0 ⟨eg0, rfl, hr, hb⟩; have hp := DRA.out; have BX := Lib.hid ((BoxIn.new (Below.refl w3.heap.size w3) (.cells #[.int .i64 0, .slice none 0 0] 26 (0, 0))).drew.call hb); obtain ⟨ag0_0, ng0_0, cg0_0, rfl, -⟩ := shQueue_reads.1 hr; have R0 := Lib.hid (shQueue.under hr); have B := Lib.hid (hp.trans (hb.mono hp.size)); have zz0_1_0 := cell_of_row _ (w.heap.size + 1) 0 _ _ _ ((B.out.block (w.heap.size + 1) hA1).trans AB1.out); have zz0_1_1 := cell_of_row _ (w.heap.size + 1) 1 _ _ _ ((B.out.block (w.heap.size + 1) hA1).trans AB1.out); have zm0_1_0 := cell_of_row _ (w.heap.size + 1) 0 _ _ _ ((heap_alloc_old t0 (.cells #[.int .i64 0, .slice none 0 0] 26 (0, 0)) (Nat.lt_of_lt_of_le hA1 B.out.size)).trans ((B.out.block (w.heap.size + 1) hA1).trans AB1.out)); have zm0_1_1 := cell_of_row _ (w.heap.size + 1) 1 _ _ _ ((heap_alloc_old t0 (.cells #[.int .i64 0, .slice none 0 0] 26 (0, 0)) (Nat.lt_of_lt_of_le hA1 B.out.size)).trans ((B.out.block (w.heap.size + 1) hA1).trans AB1.out)); simp only [List.getElem?_toArray, List.getElem?_cons_zero, List.getElem?_cons_succ] at zz0_1_0 zm0_1_0 zz0_1_1 zm0_1_1; clear hb hr hp)
          | (go_at_call 22; (with_reducible refine (HC1.out _ B.out).mono ?_); rintro e t1 ⟨eg1, rfl, hr, hb⟩; have hp := B.out; have hbb := hb; (try replace BX := Lib.hid (BX.out.call hb)); obtain ⟨ag1_0, ng1_0, cg1_0, rfl, -⟩ := shItem_reads.1 hr; replace R0 := Lib.hid (shQueue.le (shQueue.below R0.out hbb (Nat.le_refl _)) hbb.size); have R1 := Lib.hid (shItem.under hr); replace B := Lib.hid (hp.trans (hb.mono hp.size)); clear hb hr hp hbb)
          | (go_at_call 22; (with_reducible refine (HC1.out _ (B.out.alloc B.out.size (.cells #[.int .i64 0, .slice none 0 0] 26 (0, 0)))).mono ?_); rintro e t1 ⟨eg1, rfl, hr, hb⟩; have hp := B.out.alloc B.out.size (.cells #[.int .i64 0, .slice none 0 0] 26 (0, 0)); have hbb := ((Below.refl _ t0).alloc (Nat.le_refl _) (.cells #[.int .i64 0, .slice none 0 0] 26 (0, 0))).trans (hb.mono (by simp)); have BX := Lib.hid ((BoxIn.new B.out (.cells #[.int .i64 0, .slice none 0 0] 26 (0, 0))).call hb); obtain ⟨ag1_0, ng1_0, cg1_0, rfl, -⟩ := shItem_reads.1 hr; replace R0 := Lib.hid (shQueue.le (shQueue.below R0.out hbb (Nat.le_refl _)) hbb.size); have R1 := Lib.hid (shItem.under hr); replace B := Lib.hid (hp.trans (hb.mono hp.size)); clear hb hr hp hbb)
          | (go_at_call 21; (with_reducible refine (HF.out _ B.out _ R0.out _ R1.out).mono ?_); rintro e tq ⟨ew, rfl, hr, hb⟩; have hp := B.out; (try (have BL := Lib.hid BX.out.2.2; replace BX := Lib.hid (BX.out.call hb); have yy_0 := cell_of_row _ _ 0 _ _ _ BX.out.1; have ff_0 := frozen_of_row _ _ 0 _ _ BX.out.1; have yy_1 := cell_of_row _ _ 1 _ _ _ BX.out.1; have ff_1 := frozen_of_row _ _ 1 _ _ BX.out.1; simp only [List.getElem?_toArray, List.getElem?_cons_zero, List.getElem?_cons_succ] at yy_0 yy_1)); obtain ⟨aq_0, nq_0, cq_0, rfl, -⟩ := shQueue_reads.1 hr; have BQ := Lib.hid (hp.trans (hb.mono hp.size)); have RQ := Lib.hid hr; clear hb hr hp)
          | (go_at_call 21; (with_reducible refine (HF.out _ (B.out.alloc B.out.size (.cells #[.int .i64 0, .slice none 0 0] 26 (0, 0))) _ (shQueue.le (shQueue.below R0.out ((Below.refl _ _).alloc (Nat.le_refl _) (.cells #[.int .i64 0, .slice none 0 0] 26 (0, 0))) (Nat.le_refl _)) (by simp)) _ (shItem.le (shItem.below R1.out ((Below.refl _ _).alloc (Nat.le_refl _) (.cells #[.int .i64 0, .slice none 0 0] 26 (0, 0))) (Nat.le_refl _)) (by simp))).mono ?_); rintro e tq ⟨ew, rfl, hr, hb⟩; have hp := B.out.alloc B.out.size (.cells #[.int .i64 0, .slice none 0 0] 26 (0, 0)); have BX := Lib.hid ((BoxIn.new B.out (.cells #[.int .i64 0, .slice none 0 0] 26 (0, 0))).call hb); have BL : Hid (t1.heap.size < (t1.alloc (.cells #[.int .i64 0, .slice none 0 0] 26 (0, 0))).heap.size) := Lib.hid (by simp); have yy_0 := cell_of_row _ _ 0 _ _ _ BX.out.1; have ff_0 := frozen_of_row _ _ 0 _ _ BX.out.1; have yy_1 := cell_of_row _ _ 1 _ _ _ BX.out.1; have ff_1 := frozen_of_row _ _ 1 _ _ BX.out.1; simp only [List.getElem?_toArray, List.getElem?_cons_zero, List.getElem?_cons_succ] at yy_0 yy_1; obtain ⟨aq_0, nq_0, cq_0, rfl, -⟩ := shQueue_reads.1 hr; have BQ := Lib.hid (hp.trans (hb.mono hp.size)); have RQ := Lib.hid hr; clear hb hr hp))
        all_goals
          clear zs0_0 zs0_1 zr0_0 zr0_1 zs1_0 zs1_1 zr1_0 zr1_1
          try clear zz0_1_0 zm0_1_0 zz0_1_1 zm0_1_1
          try clear yy_0 ff_0 yy_1 ff_1
          clear HF DR DRA HC0 HC1
          go_wp2_with fail
          go_meet
          case rel => first | (with_reducible exact ⟨rfl, BoxedR.last BQ.out RQ.out⟩) | (with_reducible exact ⟨rfl, BoxedR.early2 BQ.out RQ.out BX.out BL.out⟩)
      case rest =>
        clear zs0_0 zs0_1
        clear zr0_0 zr0_1
        clear zs1_0 zs1_1
        clear zr1_0 zr1_1
        obtain ⟨rfl, gW0, eW0, rfl, hk, hr, hgW01, hgW02, hb⟩ := hcut
        obtain ⟨w4, rfl⟩ : ∃ x, x = wc := ⟨_, rfl⟩
        have szw4 := hb.size
        replace F0 := Lib.hid (shQueue.below F0.out hb (by omega))
        replace F1 := Lib.hid (shItem.below F1.out hb (by omega))
        replace AB0 := Lib.hid ((hb.block w.heap.size (by omega)).trans AB0.out)
        replace AB1 := Lib.hid ((hb.block (w.heap.size + 1) (by omega)).trans AB1.out)
        replace T := Lib.hid (T.out.trans (hb.mono (by omega)))
        clear hb
        obtain ⟨aW0_0, nW0_0, cW0_0, rfl, -⟩ := shQueue_reads.1 hr
        have W0 := Lib.hid hr
        have BW0 := Lib.hid hk
        clear hr hk
        have HC := Lib.hid (toQueue_o _ _ _ x0 F0.out (by omega) (by rw [U0.out]; omega))
        have za_0 := cell_of_row _ w.heap.size 0 _ _ _ AB0.out
        have za_1 := cell_of_row _ w.heap.size 1 _ _ _ AB0.out
        simp only [List.getElem?_toArray, List.getElem?_cons_zero, List.getElem?_cons_succ] at za_0 za_1
        go_wp2_with fail
        clear za_0 za_1
        refine HC.out.mono ?_
        rintro e w5 ⟨eX0, rfl, hr, hb⟩
        clear HC
        have szw5 := hb.size
        replace F0 := Lib.hid (shQueue.below F0.out hb (by omega))
        replace F1 := Lib.hid (shItem.below F1.out hb (by omega))
        replace AB0 := Lib.hid ((hb.block w.heap.size (by omega)).trans AB0.out)
        replace AB1 := Lib.hid ((hb.block (w.heap.size + 1) (by omega)).trans AB1.out)
        replace W0 := Lib.hid (shQueue.below W0.out hb (by omega))
        replace BW0 := Lib.hid ((hb.block gW0 (by omega)).trans BW0.out)
        replace T := Lib.hid (T.out.trans (hb.mono (by omega)))
        clear hb
        obtain ⟨aX0_0, nX0_0, cX0_0, rfl, -⟩ := ownQueue_owns.1 hr
        have X0 := Lib.hid hr
        have HFX0 : Hid (∀ b o, FromB w4.heap.size w5.heap.size b o → w4.heap.size ≤ b ∧ b < w5.heap.size) := Lib.hid fun b o f => f
        clear hr
        have hb := (Below.refl w5.heap.size w5).alloc (Nat.le_refl _) (.cells #[.int .i64 x0.1, .slice aX0_0 nX0_0 cX0_0] 26 (0, 0))
        have hk := heap_alloc_new w5 (.cells #[.int .i64 x0.1, .slice aX0_0 nX0_0 cX0_0] 26 (0, 0))
        have szw6 : w5.heap.size < (w5.alloc (.cells #[.int .i64 x0.1, .slice aX0_0 nX0_0 cX0_0] 26 (0, 0))).heap.size := by simp
        obtain ⟨w6, hww6⟩ : ∃ W, w5.alloc (.cells #[.int .i64 x0.1, .slice aX0_0 nX0_0 cX0_0] 26 (0, 0)) = W := ⟨_, rfl⟩
        rw [hww6] at hb hk szw6
        replace F0 := Lib.hid (shQueue.below F0.out hb (by omega))
        replace F1 := Lib.hid (shItem.below F1.out hb (by omega))
        replace AB0 := Lib.hid ((hb.block w.heap.size (by omega)).trans AB0.out)
        replace AB1 := Lib.hid ((hb.block (w.heap.size + 1) (by omega)).trans AB1.out)
        replace W0 := Lib.hid (shQueue.below W0.out hb (by omega))
        replace BW0 := Lib.hid ((hb.block gW0 (by omega)).trans BW0.out)
        replace X0 := Lib.hid (ownQueue.owns_keep X0.out (.of_below hb fun b o f => by have := (HFX0.out b o f).2; omega))
        replace T := Lib.hid (T.out.trans (hb.mono (by omega)))
        have BX0 := Lib.hid hk
        clear hb hk
        have HC := Lib.hid (toItem_o _ _ _ x1 F1.out (by omega) (by rw [U1.out]; omega))
        have za_0 := cell_of_row _ (w.heap.size + 1) 0 _ _ _ AB1.out
        have za_1 := cell_of_row _ (w.heap.size + 1) 1 _ _ _ AB1.out
        simp only [List.getElem?_toArray, List.getElem?_cons_zero, List.getElem?_cons_succ] at za_0 za_1
        go_wp2_with fail
        clear za_0 za_1
        clear hww6
        refine HC.out.mono ?_
        rintro e w7 ⟨eX1, rfl, hr, hb⟩
        clear HC
        have szw7 := hb.size
        replace F0 := Lib.hid (shQueue.below F0.out hb (by omega))
        replace F1 := Lib.hid (shItem.below F1.out hb (by omega))
        replace AB0 := Lib.hid ((hb.block w.heap.size (by omega)).trans AB0.out)
        replace AB1 := Lib.hid ((hb.block (w.heap.size + 1) (by omega)).trans AB1.out)
        replace W0 := Lib.hid (shQueue.below W0.out hb (by omega))
        replace BW0 := Lib.hid ((hb.block gW0 (by omega)).trans BW0.out)
        replace X0 := Lib.hid (ownQueue.owns_keep X0.out (.of_below hb fun b o f => by have := (HFX0.out b o f).2; omega))
        replace BX0 := Lib.hid ((hb.block w5.heap.size (by omega)).trans BX0.out)
        replace T := Lib.hid (T.out.trans (hb.mono (by omega)))
        clear hb
        obtain ⟨aX1_0, nX1_0, cX1_0, rfl, -⟩ := ownItem_owns.1 hr
        have X1 := Lib.hid hr
        have HFX1 : Hid (∀ b o, FromB w6.heap.size w7.heap.size b o → w6.heap.size ≤ b ∧ b < w7.heap.size) := Lib.hid fun b o f => f
        clear hr
        have hb := (Below.refl w7.heap.size w7).alloc (Nat.le_refl _) (.cells #[.int .i64 x1.1, .slice aX1_0 nX1_0 cX1_0] 29 (0, 0))
        have hk := heap_alloc_new w7 (.cells #[.int .i64 x1.1, .slice aX1_0 nX1_0 cX1_0] 29 (0, 0))
        have szw8 : w7.heap.size < (w7.alloc (.cells #[.int .i64 x1.1, .slice aX1_0 nX1_0 cX1_0] 29 (0, 0))).heap.size := by simp
        obtain ⟨w8, hww8⟩ : ∃ W, w7.alloc (.cells #[.int .i64 x1.1, .slice aX1_0 nX1_0 cX1_0] 29 (0, 0)) = W := ⟨_, rfl⟩
        rw [hww8] at hb hk szw8
        replace F0 := Lib.hid (shQueue.below F0.out hb (by omega))
        replace F1 := Lib.hid (shItem.below F1.out hb (by omega))
        replace AB0 := Lib.hid ((hb.block w.heap.size (by omega)).trans AB0.out)
        replace AB1 := Lib.hid ((hb.block (w.heap.size + 1) (by omega)).trans AB1.out)
        replace W0 := Lib.hid (shQueue.below W0.out hb (by omega))
        replace BW0 := Lib.hid ((hb.block gW0 (by omega)).trans BW0.out)
        replace X0 := Lib.hid (ownQueue.owns_keep X0.out (.of_below hb fun b o f => by have := (HFX0.out b o f).2; omega))
        replace BX0 := Lib.hid ((hb.block w5.heap.size (by omega)).trans BX0.out)
        replace X1 := Lib.hid (ownItem.owns_keep X1.out (.of_below hb fun b o f => by have := (HFX1.out b o f).2; omega))
        replace T := Lib.hid (T.out.trans (hb.mono (by omega)))
        have BX1 := Lib.hid hk
        clear hb hk
        have hc := implPush_o _ _ x0 (ownQueue.owns_reads X0.out fun b o f => by have := (HFX0.out b o f).2; exact Nat.lt_of_lt_of_le this (by omega)) (by rw [U0.out]; omega) _ x1 (ownItem.owns_reads X1.out fun b o f => by have := (HFX1.out b o f).2; exact Nat.lt_of_lt_of_le this (by omega)) (by rw [U1.out]; omega)
        simp only [HV0.out, HV1.out] at hc
        have HC := Lib.hid hc
        clear hc
        have zx0_0 := cell_of_row _ w5.heap.size 0 _ _ _ BX0.out
        have zx0_1 := cell_of_row _ w5.heap.size 1 _ _ _ BX0.out
        simp only [List.getElem?_toArray, List.getElem?_cons_zero, List.getElem?_cons_succ] at zx0_0 zx0_1
        have zx1_0 := cell_of_row _ w7.heap.size 0 _ _ _ BX1.out
        have zx1_1 := cell_of_row _ w7.heap.size 1 _ _ _ BX1.out
        simp only [List.getElem?_toArray, List.getElem?_cons_zero, List.getElem?_cons_succ] at zx1_0 zx1_1
        go_wp2_with fail
        clear hww8
        clear zx0_0 zx0_1
        clear zx1_0 zx1_1
        refine HC.out.mono ?_
        rintro e w9 ⟨eG0, FtG0, rfl, hr0, hf0, hb⟩
        clear HC
        have szw9 := hb.size
        replace F0 := Lib.hid (shQueue.below F0.out hb (by omega))
        replace F1 := Lib.hid (shItem.below F1.out hb (by omega))
        replace AB0 := Lib.hid ((hb.block w.heap.size (by omega)).trans AB0.out)
        replace AB1 := Lib.hid ((hb.block (w.heap.size + 1) (by omega)).trans AB1.out)
        replace W0 := Lib.hid (shQueue.below W0.out hb (by omega))
        replace BW0 := Lib.hid ((hb.block gW0 (by omega)).trans BW0.out)
        replace X0 := Lib.hid (ownQueue.owns_keep X0.out (.of_below hb fun b o f => by have := (HFX0.out b o f).2; omega))
        replace BX0 := Lib.hid ((hb.block w5.heap.size (by omega)).trans BX0.out)
        replace X1 := Lib.hid (ownItem.owns_keep X1.out (.of_below hb fun b o f => by have := (HFX1.out b o f).2; omega))
        replace BX1 := Lib.hid ((hb.block w7.heap.size (by omega)).trans BX1.out)
        replace T := Lib.hid (T.out.trans (hb.mono (by omega)))
        clear hb
        obtain ⟨aG0_0, nG0_0, cG0_0, rfl, -⟩ := ownQueue_owns.1 hr0
        have G0 := Lib.hid hr0
        have HFG0 : Hid (∀ b o, FtG0 b o → w8.heap.size ≤ b ∧ b < w9.heap.size) := Lib.hid hf0
        clear hr0 hf0
        have hb := (Below.refl w9.heap.size w9).alloc (Nat.le_refl _) (.cells #[.int .i64 v0.1, .slice aG0_0 nG0_0 cG0_0] 26 (0, 0))
        have hk0 : (w9.alloc (.cells #[.int .i64 v0.1, .slice aG0_0 nG0_0 cG0_0] 26 (0, 0))).heap[w9.heap.size]? = some (.cells #[.int .i64 v0.1, .slice aG0_0 nG0_0 cG0_0] 26 (0, 0)) := by
          have := heap_alloc_new w9 (.cells #[.int .i64 v0.1, .slice aG0_0 nG0_0 cG0_0] 26 (0, 0))
          simpa using this
        have szw10 : w9.heap.size + 1 = (w9.alloc (.cells #[.int .i64 v0.1, .slice aG0_0 nG0_0 cG0_0] 26 (0, 0))).heap.size := by simp
        obtain ⟨w10, hww10⟩ : ∃ W, (w9.alloc (.cells #[.int .i64 v0.1, .slice aG0_0 nG0_0 cG0_0] 26 (0, 0))) = W := ⟨_, rfl⟩
        rw [hww10] at hb szw10 hk0
        replace F0 := Lib.hid (shQueue.below F0.out hb (by omega))
        replace F1 := Lib.hid (shItem.below F1.out hb (by omega))
        replace AB0 := Lib.hid ((hb.block w.heap.size (by omega)).trans AB0.out)
        replace AB1 := Lib.hid ((hb.block (w.heap.size + 1) (by omega)).trans AB1.out)
        replace W0 := Lib.hid (shQueue.below W0.out hb (by omega))
        replace BW0 := Lib.hid ((hb.block gW0 (by omega)).trans BW0.out)
        replace X0 := Lib.hid (ownQueue.owns_keep X0.out (.of_below hb fun b o f => by have := (HFX0.out b o f).2; omega))
        replace BX0 := Lib.hid ((hb.block w5.heap.size (by omega)).trans BX0.out)
        replace X1 := Lib.hid (ownItem.owns_keep X1.out (.of_below hb fun b o f => by have := (HFX1.out b o f).2; omega))
        replace BX1 := Lib.hid ((hb.block w7.heap.size (by omega)).trans BX1.out)
        replace G0 := Lib.hid (ownQueue.owns_keep G0.out (.of_below hb fun b o f => by have := (HFG0.out b o f).2; omega))
        replace T := Lib.hid (T.out.trans (hb.mono (by omega)))
        have BG0 := Lib.hid hk0
        clear hb hk0
        have HC := Lib.hid (eqQueue_c _ _ _ _ _ v0 (ownQueue.owns_reads (I := Under w9.heap.size) G0.out fun b o f => (HFG0.out b o f).2) W0.out (by omega) (by omega) vb0)
        have zg_0 := cell_of_row _ w9.heap.size 0 _ _ _ BG0.out
        have zg_1 := cell_of_row _ w9.heap.size 1 _ _ _ BG0.out
        simp only [List.getElem?_toArray, List.getElem?_cons_zero, List.getElem?_cons_succ] at zg_0 zg_1
        have zw_0 := cell_of_row _ gW0 0 _ _ _ BW0.out
        have zw_1 := cell_of_row _ gW0 1 _ _ _ BW0.out
        simp only [List.getElem?_toArray, List.getElem?_cons_zero, List.getElem?_cons_succ] at zw_0 zw_1
        go_wp2_with fail
        clear hww10
        clear zg_0 zg_1
        clear zw_0 zw_1
        refine HC.out.mono ?_
        rintro e w11 ⟨rfl, hb⟩
        clear HC
        have szw11 := hb.size
        replace F0 := Lib.hid (shQueue.below F0.out hb (by omega))
        replace F1 := Lib.hid (shItem.below F1.out hb (by omega))
        replace AB0 := Lib.hid ((hb.block w.heap.size (by omega)).trans AB0.out)
        replace AB1 := Lib.hid ((hb.block (w.heap.size + 1) (by omega)).trans AB1.out)
        replace W0 := Lib.hid (shQueue.below W0.out hb (by omega))
        replace BW0 := Lib.hid ((hb.block gW0 (by omega)).trans BW0.out)
        replace X0 := Lib.hid (ownQueue.owns_keep X0.out (.of_below hb fun b o f => by have := (HFX0.out b o f).2; omega))
        replace BX0 := Lib.hid ((hb.block w5.heap.size (by omega)).trans BX0.out)
        replace X1 := Lib.hid (ownItem.owns_keep X1.out (.of_below hb fun b o f => by have := (HFX1.out b o f).2; omega))
        replace BX1 := Lib.hid ((hb.block w7.heap.size (by omega)).trans BX1.out)
        replace G0 := Lib.hid (ownQueue.owns_keep G0.out (.of_below hb fun b o f => by have := (HFG0.out b o f).2; omega))
        replace BG0 := Lib.hid ((hb.block w9.heap.size (by omega)).trans BG0.out)
        replace T := Lib.hid (T.out.trans (hb.mono (by omega)))
        clear hb
        have zx_0 := cell_of_row _ w5.heap.size 0 _ _ _ BX0.out
        have zx_1 := cell_of_row _ w5.heap.size 1 _ _ _ BX0.out
        simp only [List.getElem?_toArray, List.getElem?_cons_zero, List.getElem?_cons_succ] at zx_0 zx_1
        have za_0 := cell_of_row _ w.heap.size 0 _ _ _ AB0.out
        have za_1 := cell_of_row _ w.heap.size 1 _ _ _ AB0.out
        simp only [List.getElem?_toArray, List.getElem?_cons_zero, List.getElem?_cons_succ] at za_0 za_1
        go_upto_region 14 with fail
        go_cut [58] (fun t wx => t = .bool false ∧ Below w11.heap.size w11 wx)
        case first =>
          have hdr : Below w11.heap.size w11 w11.drew := (Below.refl _ _).drew
          have FD := Lib.hid (shQueue.below F0.out hdr (by omega))
          have XD := Lib.hid (shQueue.below (ownQueue.owns_reads (I := Under w5.heap.size) X0.out fun b o f => (HFX0.out b o f).2) hdr (by omega))
          have DR := Lib.hid hdr
          have szd : w11.heap.size ≤ w11.drew.heap.size := hdr.size
          have XBD : Hid (w11.drew.heap[w5.heap.size]? = _) := Lib.hid BX0.out
          clear hdr
          have HC1 := Lib.hid (toQueue_c w11.drew _ _ x0 FD.out (by omega) (by rw [U0.out]; omega))
          have HC2 := Lib.hid fun (w1 : World) (es : List Value) (hb : Below w11.drew.heap.size w11.drew w1) (hr : shQueue.reads (From w11.drew.heap.size w1.heap.size) w1 es x0) => eqQueue_c w1 _ _ _ es x0 (shQueue.below XD.out hb (by omega)) (shQueue.under hr) (by have := hb.size; omega) (Nat.le_refl _) (by rw [U0.out]; omega)
          go_region_law (first
            | (go_simp; go_at_call 17; (with_reducible refine HC1.out.mono ?_); rintro e wt ⟨eg, rfl, hr, hb⟩; have hq := HC2.out wt eg hb hr; have zz_0 := cell_of_row _ w5.heap.size 0 _ _ _ ((hb.block w5.heap.size (by omega)).trans XBD.out); have zz_1 := cell_of_row _ w5.heap.size 1 _ _ _ ((hb.block w5.heap.size (by omega)).trans XBD.out); simp only [List.getElem?_toArray, List.getElem?_cons_zero, List.getElem?_cons_succ] at zz_0 zz_1; obtain ⟨ag_0, ng_0, cg_0, rfl, -⟩ := shQueue_reads.1 hr; have HQ := Lib.hid hq; have HBT := Lib.hid hb; have szt := hb.size; clear hb hr hq)
            | (go_simp; go_at_call 19; (with_reducible refine HQ.out.mono ?_); rintro e wq ⟨rfl, hb⟩; have BQ := Lib.hid (DR.out.trans ((HBT.out.mono szd).trans (hb.mono (by omega)))); clear hb))
          all_goals
            go_wp2_with fail
            go_meet
            case rel => exact ⟨rfl, BQ.out⟩
        case rest =>
          obtain ⟨rfl, hb⟩ := hcut
          clear zx_0 zx_1
          clear za_0 za_1
          obtain ⟨w12, rfl⟩ : ∃ x, x = wc := ⟨_, rfl⟩
          have szw12 := hb.size
          replace F0 := Lib.hid (shQueue.below F0.out hb (by omega))
          replace F1 := Lib.hid (shItem.below F1.out hb (by omega))
          replace AB0 := Lib.hid ((hb.block w.heap.size (by omega)).trans AB0.out)
          replace AB1 := Lib.hid ((hb.block (w.heap.size + 1) (by omega)).trans AB1.out)
          replace W0 := Lib.hid (shQueue.below W0.out hb (by omega))
          replace BW0 := Lib.hid ((hb.block gW0 (by omega)).trans BW0.out)
          replace X0 := Lib.hid (ownQueue.owns_keep X0.out (.of_below hb fun b o f => by have := (HFX0.out b o f).2; omega))
          replace BX0 := Lib.hid ((hb.block w5.heap.size (by omega)).trans BX0.out)
          replace X1 := Lib.hid (ownItem.owns_keep X1.out (.of_below hb fun b o f => by have := (HFX1.out b o f).2; omega))
          replace BX1 := Lib.hid ((hb.block w7.heap.size (by omega)).trans BX1.out)
          replace G0 := Lib.hid (ownQueue.owns_keep G0.out (.of_below hb fun b o f => by have := (HFG0.out b o f).2; omega))
          replace BG0 := Lib.hid ((hb.block w9.heap.size (by omega)).trans BG0.out)
          replace T := Lib.hid (T.out.trans (hb.mono (by omega)))
          clear hb
          have zx_0 := cell_of_row _ w7.heap.size 0 _ _ _ BX1.out
          have zx_1 := cell_of_row _ w7.heap.size 1 _ _ _ BX1.out
          simp only [List.getElem?_toArray, List.getElem?_cons_zero, List.getElem?_cons_succ] at zx_0 zx_1
          have za_0 := cell_of_row _ (w.heap.size + 1) 0 _ _ _ AB1.out
          have za_1 := cell_of_row _ (w.heap.size + 1) 1 _ _ _ AB1.out
          simp only [List.getElem?_toArray, List.getElem?_cons_zero, List.getElem?_cons_succ] at za_0 za_1
          go_upto_region 16 with fail
          go_cut [63] (fun t wx => t = .bool false ∧ Below w12.heap.size w12 wx)
          case first =>
            have hdr : Below w12.heap.size w12 w12.drew := (Below.refl _ _).drew
            have FD := Lib.hid (shItem.below F1.out hdr (by omega))
            have XD := Lib.hid (shItem.below (ownItem.owns_reads (I := Under w7.heap.size) X1.out fun b o f => (HFX1.out b o f).2) hdr (by omega))
            have DR := Lib.hid hdr
            have szd : w12.heap.size ≤ w12.drew.heap.size := hdr.size
            have XBD : Hid (w12.drew.heap[w7.heap.size]? = _) := Lib.hid BX1.out
            clear hdr
            have HC1 := Lib.hid (toItem_c w12.drew _ _ x1 FD.out (by omega) (by rw [U1.out]; omega))
            have HC2 := Lib.hid fun (w1 : World) (es : List Value) (hb : Below w12.drew.heap.size w12.drew w1) (hr : shItem.reads (From w12.drew.heap.size w1.heap.size) w1 es x1) => eqItem_c w1 _ _ _ es x1 (shItem.below XD.out hb (by omega)) (shItem.under hr) (by have := hb.size; omega) (Nat.le_refl _) (by rw [U1.out]; omega)
            go_region_law (first
              | (go_simp; go_at_call 22; (with_reducible refine HC1.out.mono ?_); rintro e wt ⟨eg, rfl, hr, hb⟩; have hq := HC2.out wt eg hb hr; have zz_0 := cell_of_row _ w7.heap.size 0 _ _ _ ((hb.block w7.heap.size (by omega)).trans XBD.out); have zz_1 := cell_of_row _ w7.heap.size 1 _ _ _ ((hb.block w7.heap.size (by omega)).trans XBD.out); simp only [List.getElem?_toArray, List.getElem?_cons_zero, List.getElem?_cons_succ] at zz_0 zz_1; obtain ⟨ag_0, ng_0, cg_0, rfl, -⟩ := shItem_reads.1 hr; have HQ := Lib.hid hq; have HBT := Lib.hid hb; have szt := hb.size; clear hb hr hq)
              | (go_simp; go_at_call 23; (with_reducible refine HQ.out.mono ?_); rintro e wq ⟨rfl, hb⟩; have BQ := Lib.hid (DR.out.trans ((HBT.out.mono szd).trans (hb.mono (by omega)))); clear hb))
            all_goals
              go_wp2_with fail
              go_meet
              case rel => exact ⟨rfl, BQ.out⟩
          case rest =>
            obtain ⟨rfl, hb⟩ := hcut
            clear zx_0 zx_1
            clear za_0 za_1
            obtain ⟨w13, rfl⟩ : ∃ x, x = wc := ⟨_, rfl⟩
            have szw13 := hb.size
            replace F0 := Lib.hid (shQueue.below F0.out hb (by omega))
            replace F1 := Lib.hid (shItem.below F1.out hb (by omega))
            replace AB0 := Lib.hid ((hb.block w.heap.size (by omega)).trans AB0.out)
            replace AB1 := Lib.hid ((hb.block (w.heap.size + 1) (by omega)).trans AB1.out)
            replace W0 := Lib.hid (shQueue.below W0.out hb (by omega))
            replace BW0 := Lib.hid ((hb.block gW0 (by omega)).trans BW0.out)
            replace X0 := Lib.hid (ownQueue.owns_keep X0.out (.of_below hb fun b o f => by have := (HFX0.out b o f).2; omega))
            replace BX0 := Lib.hid ((hb.block w5.heap.size (by omega)).trans BX0.out)
            replace X1 := Lib.hid (ownItem.owns_keep X1.out (.of_below hb fun b o f => by have := (HFX1.out b o f).2; omega))
            replace BX1 := Lib.hid ((hb.block w7.heap.size (by omega)).trans BX1.out)
            replace G0 := Lib.hid (ownQueue.owns_keep G0.out (.of_below hb fun b o f => by have := (HFG0.out b o f).2; omega))
            replace BG0 := Lib.hid ((hb.block w9.heap.size (by omega)).trans BG0.out)
            replace T := Lib.hid (T.out.trans (hb.mono (by omega)))
            clear hb
            have hc := markQueue_o _ _ _ x0 (1) X0.out (fun b o f => Nat.lt_of_lt_of_le (HFX0.out b o f).2 (by omega)) (by rw [U0.out]; omega) (by omega) (by rw [K0.out]; omega)
            have zx_0 := cell_of_row _ w5.heap.size 0 _ _ _ BX0.out
            have zx_1 := cell_of_row _ w5.heap.size 1 _ _ _ BX0.out
            simp only [List.getElem?_toArray, List.getElem?_cons_zero, List.getElem?_cons_succ] at zx_0 zx_1
            rw [K0.out] at hc
            have HC := Lib.hid hc
            clear hc
            go_wp2_with fail
            clear zx_0 zx_1
            refine HC.out.mono ?_
            rintro e w15 ⟨rfl, ho, w14, hb, ht⟩
            clear HC
            have szw14 := hb.size
            replace F0 := Lib.hid (shQueue.below F0.out hb (by omega))
            replace F1 := Lib.hid (shItem.below F1.out hb (by omega))
            replace AB0 := Lib.hid ((hb.block w.heap.size (by omega)).trans AB0.out)
            replace AB1 := Lib.hid ((hb.block (w.heap.size + 1) (by omega)).trans AB1.out)
            replace W0 := Lib.hid (shQueue.below W0.out hb (by omega))
            replace BW0 := Lib.hid ((hb.block gW0 (by omega)).trans BW0.out)
            replace BX0 := Lib.hid ((hb.block w5.heap.size (by omega)).trans BX0.out)
            replace X1 := Lib.hid (ownItem.owns_keep X1.out (.of_below hb fun b o f => by have := (HFX1.out b o f).2; omega))
            replace BX1 := Lib.hid ((hb.block w7.heap.size (by omega)).trans BX1.out)
            replace G0 := Lib.hid (ownQueue.owns_keep G0.out (.of_below hb fun b o f => by have := (HFG0.out b o f).2; omega))
            replace BG0 := Lib.hid ((hb.block w9.heap.size (by omega)).trans BG0.out)
            replace T := Lib.hid (T.out.trans (hb.mono (by omega)))
            clear hb
            have hq := ht.below (B := w4.heap.size) fun b o f => (HFX0.out b o f).1
            replace F0 := Lib.hid (shQueue.below F0.out hq (by omega))
            replace F1 := Lib.hid (shItem.below F1.out hq (by omega))
            replace AB0 := Lib.hid ((ht.block w.heap.size fun o f => by have h1 := (HFX0.out _ o f).1; have h2 := (HFX0.out _ o f).2; omega).trans AB0.out)
            replace AB1 := Lib.hid ((ht.block (w.heap.size + 1) fun o f => by have h1 := (HFX0.out _ o f).1; have h2 := (HFX0.out _ o f).2; omega).trans AB1.out)
            replace W0 := Lib.hid (shQueue.below W0.out hq (by omega))
            replace BW0 := Lib.hid ((ht.block gW0 fun o f => by have h1 := (HFX0.out _ o f).1; have h2 := (HFX0.out _ o f).2; omega).trans BW0.out)
            replace BX0 := Lib.hid ((ht.block w5.heap.size fun o f => by have h1 := (HFX0.out _ o f).1; have h2 := (HFX0.out _ o f).2; omega).trans BX0.out)
            replace X1 := Lib.hid (ownItem.owns_keep X1.out (ht.same fun b o f f' => by have h1 := (HFX0.out b o f).1; have h2 := (HFX0.out b o f).2; have h3 := (HFX1.out b o f').1; have h4 := (HFX1.out b o f').2; omega))
            replace BX1 := Lib.hid ((ht.block w7.heap.size fun o f => by have h1 := (HFX0.out _ o f).1; have h2 := (HFX0.out _ o f).2; omega).trans BX1.out)
            replace G0 := Lib.hid (ownQueue.owns_keep G0.out (ht.same fun b o f f' => by have h1 := (HFX0.out b o f).1; have h2 := (HFX0.out b o f).2; have h3 := (HFG0.out b o f').1; have h4 := (HFG0.out b o f').2; omega))
            replace BG0 := Lib.hid ((ht.block w9.heap.size fun o f => by have h1 := (HFX0.out _ o f).1; have h2 := (HFX0.out _ o f).2; omega).trans BG0.out)
            replace T := Lib.hid (T.out.trans (hq.mono (by omega)))
            have szt := ht.size
            clear hq
            have szw15 : w14.heap.size ≤ w15.heap.size := Nat.le_of_eq szt.symm
            clear ht szt ho X0
            have hc := markItem_o _ _ _ x1 (1 + (k0 : Int)) X1.out (fun b o f => Nat.lt_of_lt_of_le (HFX1.out b o f).2 (by omega)) (by rw [U1.out]; omega) (by omega) (by rw [K1.out]; omega)
            have zx_0 := cell_of_row _ w7.heap.size 0 _ _ _ BX1.out
            have zx_1 := cell_of_row _ w7.heap.size 1 _ _ _ BX1.out
            simp only [List.getElem?_toArray, List.getElem?_cons_zero, List.getElem?_cons_succ] at zx_0 zx_1
            rw [K1.out] at hc
            have HC := Lib.hid hc
            clear hc
            go_wp2_with fail
            clear zx_0 zx_1
            refine HC.out.mono ?_
            rintro e w17 ⟨rfl, ho, w16, hb, ht⟩
            clear HC
            have szw16 := hb.size
            replace F0 := Lib.hid (shQueue.below F0.out hb (by omega))
            replace F1 := Lib.hid (shItem.below F1.out hb (by omega))
            replace AB0 := Lib.hid ((hb.block w.heap.size (by omega)).trans AB0.out)
            replace AB1 := Lib.hid ((hb.block (w.heap.size + 1) (by omega)).trans AB1.out)
            replace W0 := Lib.hid (shQueue.below W0.out hb (by omega))
            replace BW0 := Lib.hid ((hb.block gW0 (by omega)).trans BW0.out)
            replace BX0 := Lib.hid ((hb.block w5.heap.size (by omega)).trans BX0.out)
            replace BX1 := Lib.hid ((hb.block w7.heap.size (by omega)).trans BX1.out)
            replace G0 := Lib.hid (ownQueue.owns_keep G0.out (.of_below hb fun b o f => by have := (HFG0.out b o f).2; omega))
            replace BG0 := Lib.hid ((hb.block w9.heap.size (by omega)).trans BG0.out)
            replace T := Lib.hid (T.out.trans (hb.mono (by omega)))
            clear hb
            have hq := ht.below (B := w6.heap.size) fun b o f => (HFX1.out b o f).1
            replace F0 := Lib.hid (shQueue.below F0.out hq (by omega))
            replace F1 := Lib.hid (shItem.below F1.out hq (by omega))
            replace AB0 := Lib.hid ((ht.block w.heap.size fun o f => by have h1 := (HFX1.out _ o f).1; have h2 := (HFX1.out _ o f).2; omega).trans AB0.out)
            replace AB1 := Lib.hid ((ht.block (w.heap.size + 1) fun o f => by have h1 := (HFX1.out _ o f).1; have h2 := (HFX1.out _ o f).2; omega).trans AB1.out)
            replace W0 := Lib.hid (shQueue.below W0.out hq (by omega))
            replace BW0 := Lib.hid ((ht.block gW0 fun o f => by have h1 := (HFX1.out _ o f).1; have h2 := (HFX1.out _ o f).2; omega).trans BW0.out)
            replace BX0 := Lib.hid ((ht.block w5.heap.size fun o f => by have h1 := (HFX1.out _ o f).1; have h2 := (HFX1.out _ o f).2; omega).trans BX0.out)
            replace BX1 := Lib.hid ((ht.block w7.heap.size fun o f => by have h1 := (HFX1.out _ o f).1; have h2 := (HFX1.out _ o f).2; omega).trans BX1.out)
            replace G0 := Lib.hid (ownQueue.owns_keep G0.out (ht.same fun b o f f' => by have h1 := (HFX1.out b o f).1; have h2 := (HFX1.out b o f).2; have h3 := (HFG0.out b o f').1; have h4 := (HFG0.out b o f').2; omega))
            replace BG0 := Lib.hid ((ht.block w9.heap.size fun o f => by have h1 := (HFX1.out _ o f).1; have h2 := (HFX1.out _ o f).2; omega).trans BG0.out)
            replace T := Lib.hid (T.out.trans (hq.mono (by omega)))
            have szt := ht.size
            clear hq
            have szw17 : w16.heap.size ≤ w17.heap.size := Nat.le_of_eq szt.symm
            clear ht szt ho X1
            have tk : decide ((1 : Int) + (k0 : Int) + (k1 : Int) < 0) = false := decide_eq_false (by omega)
            have HC := Lib.hid (eqQueue_c _ _ _ _ _ v0 (ownQueue.owns_reads (I := Under w9.heap.size) G0.out fun b o f => (HFG0.out b o f).2) W0.out (by omega) (by omega) vb0)
            have zg_0 := cell_of_row _ w9.heap.size 0 _ _ _ BG0.out
            have zg_1 := cell_of_row _ w9.heap.size 1 _ _ _ BG0.out
            simp only [List.getElem?_toArray, List.getElem?_cons_zero, List.getElem?_cons_succ] at zg_0 zg_1
            have zw_0 := cell_of_row _ gW0 0 _ _ _ BW0.out
            have zw_1 := cell_of_row _ gW0 1 _ _ _ BW0.out
            simp only [List.getElem?_toArray, List.getElem?_cons_zero, List.getElem?_cons_succ] at zw_0 zw_1
            go_wp2_with fail
            clear zg_0 zg_1
            clear zw_0 zw_1
            refine HC.out.mono ?_
            rintro e w18 ⟨rfl, hb⟩
            clear HC
            have szw18 := hb.size
            replace F0 := Lib.hid (shQueue.below F0.out hb (by omega))
            replace F1 := Lib.hid (shItem.below F1.out hb (by omega))
            replace AB0 := Lib.hid ((hb.block w.heap.size (by omega)).trans AB0.out)
            replace AB1 := Lib.hid ((hb.block (w.heap.size + 1) (by omega)).trans AB1.out)
            replace W0 := Lib.hid (shQueue.below W0.out hb (by omega))
            replace BW0 := Lib.hid ((hb.block gW0 (by omega)).trans BW0.out)
            replace BX0 := Lib.hid ((hb.block w5.heap.size (by omega)).trans BX0.out)
            replace BX1 := Lib.hid ((hb.block w7.heap.size (by omega)).trans BX1.out)
            replace G0 := Lib.hid (ownQueue.owns_keep G0.out (.of_below hb fun b o f => by have := (HFG0.out b o f).2; omega))
            replace BG0 := Lib.hid ((hb.block w9.heap.size (by omega)).trans BG0.out)
            replace T := Lib.hid (T.out.trans (hb.mono (by omega)))
            clear hb
            have hc := markQueue_o _ _ _ v0 (1) G0.out (fun b o f => Nat.lt_of_lt_of_le (HFG0.out b o f).2 (by omega)) vb0 (by omega) (by rw [KV0.out]; omega)
            have zx_0 := cell_of_row _ w9.heap.size 0 _ _ _ BG0.out
            have zx_1 := cell_of_row _ w9.heap.size 1 _ _ _ BG0.out
            simp only [List.getElem?_toArray, List.getElem?_cons_zero, List.getElem?_cons_succ] at zx_0 zx_1
            rw [KV0.out] at hc
            have HC := Lib.hid hc
            clear hc
            go_wp2_with fail
            clear zx_0 zx_1
            refine HC.out.mono ?_
            rintro e w20 ⟨rfl, ho, w19, hb, ht⟩
            clear HC
            have szw19 := hb.size
            replace F0 := Lib.hid (shQueue.below F0.out hb (by omega))
            replace F1 := Lib.hid (shItem.below F1.out hb (by omega))
            replace AB0 := Lib.hid ((hb.block w.heap.size (by omega)).trans AB0.out)
            replace AB1 := Lib.hid ((hb.block (w.heap.size + 1) (by omega)).trans AB1.out)
            replace W0 := Lib.hid (shQueue.below W0.out hb (by omega))
            replace BW0 := Lib.hid ((hb.block gW0 (by omega)).trans BW0.out)
            replace BX0 := Lib.hid ((hb.block w5.heap.size (by omega)).trans BX0.out)
            replace BX1 := Lib.hid ((hb.block w7.heap.size (by omega)).trans BX1.out)
            replace BG0 := Lib.hid ((hb.block w9.heap.size (by omega)).trans BG0.out)
            replace T := Lib.hid (T.out.trans (hb.mono (by omega)))
            clear hb
            have hq := ht.below (B := w8.heap.size) fun b o f => (HFG0.out b o f).1
            replace F0 := Lib.hid (shQueue.below F0.out hq (by omega))
            replace F1 := Lib.hid (shItem.below F1.out hq (by omega))
            replace AB0 := Lib.hid ((ht.block w.heap.size fun o f => by have h1 := (HFG0.out _ o f).1; have h2 := (HFG0.out _ o f).2; omega).trans AB0.out)
            replace AB1 := Lib.hid ((ht.block (w.heap.size + 1) fun o f => by have h1 := (HFG0.out _ o f).1; have h2 := (HFG0.out _ o f).2; omega).trans AB1.out)
            replace W0 := Lib.hid (shQueue.below W0.out hq (by omega))
            replace BW0 := Lib.hid ((ht.block gW0 fun o f => by have h1 := (HFG0.out _ o f).1; have h2 := (HFG0.out _ o f).2; omega).trans BW0.out)
            replace BX0 := Lib.hid ((ht.block w5.heap.size fun o f => by have h1 := (HFG0.out _ o f).1; have h2 := (HFG0.out _ o f).2; omega).trans BX0.out)
            replace BX1 := Lib.hid ((ht.block w7.heap.size fun o f => by have h1 := (HFG0.out _ o f).1; have h2 := (HFG0.out _ o f).2; omega).trans BX1.out)
            replace BG0 := Lib.hid ((ht.block w9.heap.size fun o f => by have h1 := (HFG0.out _ o f).1; have h2 := (HFG0.out _ o f).2; omega).trans BG0.out)
            replace T := Lib.hid (T.out.trans (hq.mono (by omega)))
            have szt := ht.size
            clear hq
            have szw20 : w19.heap.size ≤ w20.heap.size := Nat.le_of_eq szt.symm
            replace G0 := Lib.hid ho
            clear ht szt ho
            have tv0 : decide ((1 : Int) + (kv0 : Int) < 0) = false := decide_eq_false (by omega)
            have tn : ((1 : Int) + (kv0 : Int) != (1 : Int) + (kv0 : Int)) = false := by simp
            have hc := heldQueue_o _ w9.heap.size _ v0 (1) (ownQueue.owns_reads (I := Under w9.heap.size) G0.out fun b o f => (HFG0.out b o f).2) (by omega) vb0 (by omega) (by rw [KV0.out]; omega)
            rw [KV0.out] at hc
            have HC := Lib.hid hc
            clear hc
            have zg_0 := cell_of_row _ w9.heap.size 0 _ _ _ BG0.out
            have zg_1 := cell_of_row _ w9.heap.size 1 _ _ _ BG0.out
            simp only [List.getElem?_toArray, List.getElem?_cons_zero, List.getElem?_cons_succ] at zg_0 zg_1
            go_wp2_with fail
            clear zg_0 zg_1
            refine HC.out.mono ?_
            rintro e w21 ⟨rfl, hb⟩
            clear HC
            have szw21 := hb.size
            replace F0 := Lib.hid (shQueue.below F0.out hb (by omega))
            replace F1 := Lib.hid (shItem.below F1.out hb (by omega))
            replace AB0 := Lib.hid ((hb.block w.heap.size (by omega)).trans AB0.out)
            replace AB1 := Lib.hid ((hb.block (w.heap.size + 1) (by omega)).trans AB1.out)
            replace W0 := Lib.hid (shQueue.below W0.out hb (by omega))
            replace BW0 := Lib.hid ((hb.block gW0 (by omega)).trans BW0.out)
            replace BX0 := Lib.hid ((hb.block w5.heap.size (by omega)).trans BX0.out)
            replace BX1 := Lib.hid ((hb.block w7.heap.size (by omega)).trans BX1.out)
            replace BG0 := Lib.hid ((hb.block w9.heap.size (by omega)).trans BG0.out)
            replace G0 := Lib.hid (ownQueue.owns_keep G0.out (.of_below hb fun b o f => by have := (HFG0.out b o f).2; omega))
            replace T := Lib.hid (T.out.trans (hb.mono (by omega)))
            clear hb
            have zs0_0 := cell_of_row _ w.heap.size 0 _ _ _ AB0.out
            have zs0_1 := cell_of_row _ w.heap.size 1 _ _ _ AB0.out
            simp only [List.getElem?_toArray, List.getElem?_cons_zero, List.getElem?_cons_succ] at zs0_0 zs0_1
            have zs1_0 := cell_of_row _ (w.heap.size + 1) 0 _ _ _ AB1.out
            have zs1_1 := cell_of_row _ (w.heap.size + 1) 1 _ _ _ AB1.out
            simp only [List.getElem?_toArray, List.getElem?_cons_zero, List.getElem?_cons_succ] at zs1_0 zs1_1
            have zr0_0 := cell_of_row _ w.heap.size 0 _ _ _ ((heap_alloc_old w21 (.cells #[.int .i64 0, .slice none 0 0] 26 (0, 0)) (show w.heap.size < w21.heap.size by omega)).trans AB0.out)
            have zr0_1 := cell_of_row _ w.heap.size 1 _ _ _ ((heap_alloc_old w21 (.cells #[.int .i64 0, .slice none 0 0] 26 (0, 0)) (show w.heap.size < w21.heap.size by omega)).trans AB0.out)
            simp only [List.getElem?_toArray, List.getElem?_cons_zero, List.getElem?_cons_succ] at zr0_0 zr0_1
            have zr1_0 := cell_of_row _ (w.heap.size + 1) 0 _ _ _ ((heap_alloc_old w21 (.cells #[.int .i64 0, .slice none 0 0] 26 (0, 0)) (show (w.heap.size + 1) < w21.heap.size by omega)).trans AB1.out)
            have zr1_1 := cell_of_row _ (w.heap.size + 1) 1 _ _ _ ((heap_alloc_old w21 (.cells #[.int .i64 0, .slice none 0 0] 26 (0, 0)) (show (w.heap.size + 1) < w21.heap.size by omega)).trans AB1.out)
            simp only [List.getElem?_toArray, List.getElem?_cons_zero, List.getElem?_cons_succ] at zr1_0 zr1_1
            go_upto_region 31 with fail
            go_cut [15, 16] (fun t y0 wx => y0 = .bool v1 ∧ BoxedR shQueue 26 w21 wx t v0)
            case first =>
              have hA0 : w.heap.size < w21.heap.size := by omega
              have hA1 : (w.heap.size + 1) < w21.heap.size := by omega
              have hdr : Below w21.heap.size w21 w21.drew := (Below.refl _ _).drew
              have hdra : Below w21.heap.size w21 (w21.alloc (.cells #[.int .i64 0, .slice none 0 0] 26 (0, 0))).drew := ((Below.refl _ _).alloc (Nat.le_refl _) _).drew
              have DR := Lib.hid hdr
              have DRA := Lib.hid hdra
              clear hdr hdra
              have HC0 := Lib.hid fun (w1 : World) (hb : Below w21.heap.size w21 w1) => toQueue_c w1 _ _ x0 (shQueue.below F0.out hb (by omega)) (by have := hb.size; omega) (by rw [U0.out]; omega)
              have HC1 := Lib.hid fun (w1 : World) (hb : Below w21.heap.size w21 w1) => toItem_c w1 _ _ x1 (shItem.below F1.out hb (by omega)) (by have := hb.size; omega) (by rw [U1.out]; omega)
              have HF := Lib.hid fun (w1 : World) (hb1 : Below w21.heap.size w21 w1) (q0 : List Value) (hr0 : shQueue.reads (Under w1.heap.size) w1 q0 x0) (q1 : List Value) (hr1 : shItem.reads (Under w1.heap.size) w1 q1 x1) => (implPush_o w1 q0 x0 hr0 (by rw [U0.out]; omega) q1 x1 hr1 (by rw [U1.out]; omega)).mono fun e w' ⟨es', F, he, ho, hf, hb⟩ => (⟨es', he, ownQueue.owns_reads ho fun b o f => hf b o f, hb⟩ : ∃ es' : List Value, e = Ending.returned (.tuple #[.agg es'.toArray, .bool (pushB x0 x1)]) ∧ shQueue.reads (From w1.heap.size w'.heap.size) w' es' _ ∧ Below w1.heap.size w1 w')
              simp only [HV0.out, HV1.out] at HF
              clear szw1 szw2 szw3 szw4 szw5 szw6 szw7 szw8 szw9 szw10 szw11 szw12 szw13 szw14 szw15 szw16 szw17 szw18 szw19 szw20 szw21
              go_region_law (go_simp; first
                | (go_at_call 17; (with_reducible refine (HC0.out _ DR.out).mono ?_); rintro e t0 ⟨eg0, rfl, hr, hb⟩; have hp := DR.out; obtain ⟨ag0_0, ng0_0, cg0_0, rfl, -⟩ := shQueue_reads.1 hr; have R0 := Lib.hid (shQueue.under hr); have B := Lib.hid (hp.trans (hb.mono hp.size)); have zz0_1_0 := cell_of_row _ (w.heap.size + 1) 0 _ _ _ ((B.out.block (w.heap.size + 1) hA1).trans AB1.out); have zz0_1_1 := cell_of_row _ (w.heap.size + 1) 1 _ _ _ ((B.out.block (w.heap.size + 1) hA1).trans AB1.out); have zm0_1_0 := cell_of_row _ (w.heap.size + 1) 0 _ _ _ ((heap_alloc_old t0 (.cells #[.int .i64 0, .slice none 0 0] 26 (0, 0)) (Nat.lt_of_lt_of_le hA1 B.out.size)).trans ((B.out.block (w.heap.size + 1) hA1).trans AB1.out)); have zm0_1_1 := cell_of_row _ (w.heap.size + 1) 1 _ _ _ ((heap_alloc_old t0 (.cells #[.int .i64 0, .slice none 0 0] 26 (0, 0)) (Nat.lt_of_lt_of_le hA1 B.out.size)).trans ((B.out.block (w.heap.size + 1) hA1).trans AB1.out)); simp only [List.getElem?_toArray, List.getElem?_cons_zero, List.getElem?_cons_succ] at zz0_1_0 zm0_1_0 zz0_1_1 zm0_1_1; clear hb hr hp)
                | (go_at_call 17; (with_reducible refine (HC0.out _ DRA.out).mono ?_); rintro e t0 ⟨eg0, rfl, hr, hb⟩; have hp := DRA.out; have BX := Lib.hid ((BoxIn.new (Below.refl w21.heap.size w21) (.cells #[.int .i64 0, .slice none 0 0] 26 (0, 0))).drew.call hb); obtain ⟨ag0_0, ng0_0, cg0_0, rfl, -⟩ := shQueue_reads.1 hr; have R0 := Lib.hid (shQueue.under hr); have B := Lib.hid (hp.trans (hb.mono hp.size)); have zz0_1_0 := cell_of_row _ (w.heap.size + 1) 0 _ _ _ ((B.out.block (w.heap.size + 1) hA1).trans AB1.out); have zz0_1_1 := cell_of_row _ (w.heap.size + 1) 1 _ _ _ ((B.out.block (w.heap.size + 1) hA1).trans AB1.out); have zm0_1_0 := cell_of_row _ (w.heap.size + 1) 0 _ _ _ ((heap_alloc_old t0 (.cells #[.int .i64 0, .slice none 0 0] 26 (0, 0)) (Nat.lt_of_lt_of_le hA1 B.out.size)).trans ((B.out.block (w.heap.size + 1) hA1).trans AB1.out)); have zm0_1_1 := cell_of_row _ (w.heap.size + 1) 1 _ _ _ ((heap_alloc_old t0 (.cells #[.int .i64 0, .slice none 0 0] 26 (0, 0)) (Nat.lt_of_lt_of_le hA1 B.out.size)).trans ((B.out.block (w.heap.size + 1) hA1).trans AB1.out)); simp only [List.getElem?_toArray, List.getElem?_cons_zero, List.getElem?_cons_succ] at zz0_1_0 zm0_1_0 zz0_1_1 zm0_1_1; clear hb hr hp)
                | (go_at_call 22; (with_reducible refine (HC1.out _ B.out).mono ?_); rintro e t1 ⟨eg1, rfl, hr, hb⟩; have hp := B.out; have hbb := hb; (try replace BX := Lib.hid (BX.out.call hb)); obtain ⟨ag1_0, ng1_0, cg1_0, rfl, -⟩ := shItem_reads.1 hr; replace R0 := Lib.hid (shQueue.le (shQueue.below R0.out hbb (Nat.le_refl _)) hbb.size); have R1 := Lib.hid (shItem.under hr); replace B := Lib.hid (hp.trans (hb.mono hp.size)); clear hb hr hp hbb)
                | (go_at_call 22; (with_reducible refine (HC1.out _ (B.out.alloc B.out.size (.cells #[.int .i64 0, .slice none 0 0] 26 (0, 0)))).mono ?_); rintro e t1 ⟨eg1, rfl, hr, hb⟩; have hp := B.out.alloc B.out.size (.cells #[.int .i64 0, .slice none 0 0] 26 (0, 0)); have hbb := ((Below.refl _ t0).alloc (Nat.le_refl _) (.cells #[.int .i64 0, .slice none 0 0] 26 (0, 0))).trans (hb.mono (by simp)); have BX := Lib.hid ((BoxIn.new B.out (.cells #[.int .i64 0, .slice none 0 0] 26 (0, 0))).call hb); obtain ⟨ag1_0, ng1_0, cg1_0, rfl, -⟩ := shItem_reads.1 hr; replace R0 := Lib.hid (shQueue.le (shQueue.below R0.out hbb (Nat.le_refl _)) hbb.size); have R1 := Lib.hid (shItem.under hr); replace B := Lib.hid (hp.trans (hb.mono hp.size)); clear hb hr hp hbb)
                | (go_at_call 10; (with_reducible refine (HF.out _ B.out _ R0.out _ R1.out).mono ?_); rintro e tq ⟨ew, rfl, hr, hb⟩; have hp := B.out; (try (have BL := Lib.hid BX.out.2.2; replace BX := Lib.hid (BX.out.call hb); have yy_0 := cell_of_row _ _ 0 _ _ _ BX.out.1; have ff_0 := frozen_of_row _ _ 0 _ _ BX.out.1; have yy_1 := cell_of_row _ _ 1 _ _ _ BX.out.1; have ff_1 := frozen_of_row _ _ 1 _ _ BX.out.1; simp only [List.getElem?_toArray, List.getElem?_cons_zero, List.getElem?_cons_succ] at yy_0 yy_1)); obtain ⟨aq_0, nq_0, cq_0, rfl, -⟩ := shQueue_reads.1 hr; have BQ := Lib.hid (hp.trans (hb.mono hp.size)); have RQ := Lib.hid hr; clear hb hr hp)
                | (go_at_call 10; (with_reducible refine (HF.out _ (B.out.alloc B.out.size (.cells #[.int .i64 0, .slice none 0 0] 26 (0, 0))) _ (shQueue.le (shQueue.below R0.out ((Below.refl _ _).alloc (Nat.le_refl _) (.cells #[.int .i64 0, .slice none 0 0] 26 (0, 0))) (Nat.le_refl _)) (by simp)) _ (shItem.le (shItem.below R1.out ((Below.refl _ _).alloc (Nat.le_refl _) (.cells #[.int .i64 0, .slice none 0 0] 26 (0, 0))) (Nat.le_refl _)) (by simp))).mono ?_); rintro e tq ⟨ew, rfl, hr, hb⟩; have hp := B.out.alloc B.out.size (.cells #[.int .i64 0, .slice none 0 0] 26 (0, 0)); have BX := Lib.hid ((BoxIn.new B.out (.cells #[.int .i64 0, .slice none 0 0] 26 (0, 0))).call hb); have BL : Hid (t1.heap.size < (t1.alloc (.cells #[.int .i64 0, .slice none 0 0] 26 (0, 0))).heap.size) := Lib.hid (by simp); have yy_0 := cell_of_row _ _ 0 _ _ _ BX.out.1; have ff_0 := frozen_of_row _ _ 0 _ _ BX.out.1; have yy_1 := cell_of_row _ _ 1 _ _ _ BX.out.1; have ff_1 := frozen_of_row _ _ 1 _ _ BX.out.1; simp only [List.getElem?_toArray, List.getElem?_cons_zero, List.getElem?_cons_succ] at yy_0 yy_1; obtain ⟨aq_0, nq_0, cq_0, rfl, -⟩ := shQueue_reads.1 hr; have BQ := Lib.hid (hp.trans (hb.mono hp.size)); have RQ := Lib.hid hr; clear hb hr hp))
              all_goals
                clear zs0_0 zs0_1 zr0_0 zr0_1 zs1_0 zs1_1 zr1_0 zr1_1
                try clear zz0_1_0 zm0_1_0 zz0_1_1 zm0_1_1
                try clear yy_0 ff_0 yy_1 ff_1
                clear HF DR DRA HC0 HC1
                go_wp2_with fail
                go_meet
                case rel => first | (with_reducible exact ⟨rfl, BoxedR.last BQ.out RQ.out⟩) | (with_reducible exact ⟨rfl, BoxedR.early2 BQ.out RQ.out BX.out BL.out⟩)
            case rest =>
              clear zs0_0 zs0_1
              clear zr0_0 zr0_1
              clear zs1_0 zs1_1
              clear zr1_0 zr1_1
              obtain ⟨rfl, gJ0, eJ0, rfl, hk, hr, hgJ01, hgJ02, hb⟩ := hcut
              obtain ⟨w22, rfl⟩ : ∃ x, x = wc := ⟨_, rfl⟩
              have szw22 := hb.size
              replace F0 := Lib.hid (shQueue.below F0.out hb (by omega))
              replace F1 := Lib.hid (shItem.below F1.out hb (by omega))
              replace AB0 := Lib.hid ((hb.block w.heap.size (by omega)).trans AB0.out)
              replace AB1 := Lib.hid ((hb.block (w.heap.size + 1) (by omega)).trans AB1.out)
              replace W0 := Lib.hid (shQueue.below W0.out hb (by omega))
              replace BW0 := Lib.hid ((hb.block gW0 (by omega)).trans BW0.out)
              replace BX0 := Lib.hid ((hb.block w5.heap.size (by omega)).trans BX0.out)
              replace BX1 := Lib.hid ((hb.block w7.heap.size (by omega)).trans BX1.out)
              replace BG0 := Lib.hid ((hb.block w9.heap.size (by omega)).trans BG0.out)
              replace G0 := Lib.hid (ownQueue.owns_keep G0.out (.of_below hb fun b o f => by have := (HFG0.out b o f).2; omega))
              replace T := Lib.hid (T.out.trans (hb.mono (by omega)))
              clear hb
              obtain ⟨aJ0_0, nJ0_0, cJ0_0, rfl, -⟩ := shQueue_reads.1 hr
              have J0 := Lib.hid hr
              have BJ0 := Lib.hid hk
              clear hr hk
              have HC := Lib.hid (eqQueue_c _ _ _ _ _ v0 J0.out W0.out (by omega) (by omega) vb0)
              have zg_0 := cell_of_row _ gJ0 0 _ _ _ BJ0.out
              have zg_1 := cell_of_row _ gJ0 1 _ _ _ BJ0.out
              simp only [List.getElem?_toArray, List.getElem?_cons_zero, List.getElem?_cons_succ] at zg_0 zg_1
              have zw_0 := cell_of_row _ gW0 0 _ _ _ BW0.out
              have zw_1 := cell_of_row _ gW0 1 _ _ _ BW0.out
              simp only [List.getElem?_toArray, List.getElem?_cons_zero, List.getElem?_cons_succ] at zw_0 zw_1
              go_wp2_with fail
              clear zg_0 zg_1
              clear zw_0 zw_1
              refine HC.out.mono ?_
              rintro e w23 ⟨rfl, hb⟩
              clear HC
              have szw23 := hb.size
              replace F0 := Lib.hid (shQueue.below F0.out hb (by omega))
              replace F1 := Lib.hid (shItem.below F1.out hb (by omega))
              replace AB0 := Lib.hid ((hb.block w.heap.size (by omega)).trans AB0.out)
              replace AB1 := Lib.hid ((hb.block (w.heap.size + 1) (by omega)).trans AB1.out)
              replace W0 := Lib.hid (shQueue.below W0.out hb (by omega))
              replace BW0 := Lib.hid ((hb.block gW0 (by omega)).trans BW0.out)
              replace BX0 := Lib.hid ((hb.block w5.heap.size (by omega)).trans BX0.out)
              replace BX1 := Lib.hid ((hb.block w7.heap.size (by omega)).trans BX1.out)
              replace BG0 := Lib.hid ((hb.block w9.heap.size (by omega)).trans BG0.out)
              replace G0 := Lib.hid (ownQueue.owns_keep G0.out (.of_below hb fun b o f => by have := (HFG0.out b o f).2; omega))
              replace J0 := Lib.hid (shQueue.below J0.out hb (by omega))
              replace BJ0 := Lib.hid ((hb.block gJ0 (by omega)).trans BJ0.out)
              replace T := Lib.hid (T.out.trans (hb.mono (by omega)))
              clear hb
              have hc := heldQueue_o _ w9.heap.size _ v0 (1) (ownQueue.owns_reads (I := Under w9.heap.size) G0.out fun b o f => (HFG0.out b o f).2) (by omega) vb0 (by omega) (by rw [KV0.out]; omega)
              rw [KV0.out] at hc
              have HC := Lib.hid hc
              clear hc
              have zg_0 := cell_of_row _ w9.heap.size 0 _ _ _ BG0.out
              have zg_1 := cell_of_row _ w9.heap.size 1 _ _ _ BG0.out
              simp only [List.getElem?_toArray, List.getElem?_cons_zero, List.getElem?_cons_succ] at zg_0 zg_1
              go_wp2_with fail
              clear zg_0 zg_1
              refine HC.out.mono ?_
              rintro e w24 ⟨rfl, hb⟩
              clear HC
              have szw24 := hb.size
              replace F0 := Lib.hid (shQueue.below F0.out hb (by omega))
              replace F1 := Lib.hid (shItem.below F1.out hb (by omega))
              replace AB0 := Lib.hid ((hb.block w.heap.size (by omega)).trans AB0.out)
              replace AB1 := Lib.hid ((hb.block (w.heap.size + 1) (by omega)).trans AB1.out)
              replace W0 := Lib.hid (shQueue.below W0.out hb (by omega))
              replace BW0 := Lib.hid ((hb.block gW0 (by omega)).trans BW0.out)
              replace BX0 := Lib.hid ((hb.block w5.heap.size (by omega)).trans BX0.out)
              replace BX1 := Lib.hid ((hb.block w7.heap.size (by omega)).trans BX1.out)
              replace BG0 := Lib.hid ((hb.block w9.heap.size (by omega)).trans BG0.out)
              replace G0 := Lib.hid (ownQueue.owns_keep G0.out (.of_below hb fun b o f => by have := (HFG0.out b o f).2; omega))
              replace J0 := Lib.hid (shQueue.below J0.out hb (by omega))
              replace BJ0 := Lib.hid ((hb.block gJ0 (by omega)).trans BJ0.out)
              replace T := Lib.hid (T.out.trans (hb.mono (by omega)))
              clear hb
              go_wp2_with fail
              go_ret
              exact ⟨rfl, T.out⟩
    · have hk0 : ((w.alloc (.cells #[.int .i64 x0.1, .slice a0_0 n0_0 c0_0] 42 (0, 0))).alloc (.cells #[.int .i64 x1.1, .slice a1_0 n1_0 c1_0] 47 (0, 0))).heap[w.heap.size]? = some (.cells #[.int .i64 x0.1, .slice a0_0 n0_0 c0_0] 42 (0, 0)) := by
        rw [Below.heap_alloc _ _ _ (by simp)]
        have := heap_alloc_new w (.cells #[.int .i64 x0.1, .slice a0_0 n0_0 c0_0] 42 (0, 0))
        simpa using this
      have hk1 : ((w.alloc (.cells #[.int .i64 x0.1, .slice a0_0 n0_0 c0_0] 42 (0, 0))).alloc (.cells #[.int .i64 x1.1, .slice a1_0 n1_0 c1_0] 47 (0, 0))).heap[w.heap.size + 1]? = some (.cells #[.int .i64 x1.1, .slice a1_0 n1_0 c1_0] 47 (0, 0)) := by
        have := heap_alloc_new (w.alloc (.cells #[.int .i64 x0.1, .slice a0_0 n0_0 c0_0] 42 (0, 0))) (.cells #[.int .i64 x1.1, .slice a1_0 n1_0 c1_0] 47 (0, 0))
        simpa using this
      have hb := ((Below.refl w.heap.size w).alloc (Nat.le_refl _) (.cells #[.int .i64 x0.1, .slice a0_0 n0_0 c0_0] 42 (0, 0))).alloc (by simp) (.cells #[.int .i64 x1.1, .slice a1_0 n1_0 c1_0] 47 (0, 0))
      have szw1 : w.heap.size + 2 = ((w.alloc (.cells #[.int .i64 x0.1, .slice a0_0 n0_0 c0_0] 42 (0, 0))).alloc (.cells #[.int .i64 x1.1, .slice a1_0 n1_0 c1_0] 47 (0, 0))).heap.size := by simp
      go_enter Try.func5, Try.ntmps5
      go_wp2_with fail
      generalize ((w.alloc (.cells #[.int .i64 x0.1, .slice a0_0 n0_0 c0_0] 42 (0, 0))).alloc (.cells #[.int .i64 x1.1, .slice a1_0 n1_0 c1_0] 47 (0, 0))) = w1 at hb szw1 hk0 hk1 ⊢
      replace F0 := Lib.hid (shQueue.below F0.out hb (by omega))
      replace F1 := Lib.hid (shItem.below F1.out hb (by omega))
      replace T := Lib.hid (T.out.trans (hb.mono (by omega)))
      have AB0 := Lib.hid hk0
      have AB1 := Lib.hid hk1
      clear hb hk0 hk1
      have hc := szQueue_c _ _ _ x0 (1048576) F0.out (by omega) (by omega) (by omega)
      rw [U0.out, szN_yes (by omega)] at hc
      obtain ⟨l0, hl0⟩ : ∃ l, 1048576 - (u0 : Int) = l := ⟨_, rfl⟩
      rw [hl0] at hc
      have t0 : decide (l0 < 0) = false := decide_eq_false (by omega)
      have HC := Lib.hid hc
      clear hc
      refine HC.out.mono ?_
      rintro e w2 ⟨rfl, hb⟩
      clear HC
      have szw2 := hb.size
      replace F0 := Lib.hid (shQueue.below F0.out hb (by omega))
      replace F1 := Lib.hid (shItem.below F1.out hb (by omega))
      replace AB0 := Lib.hid ((hb.block w.heap.size (by omega)).trans AB0.out)
      replace AB1 := Lib.hid ((hb.block (w.heap.size + 1) (by omega)).trans AB1.out)
      replace T := Lib.hid (T.out.trans (hb.mono (by omega)))
      clear hb
      have hc := szItem_c _ _ _ x1 (l0) F1.out (by omega) (by omega) (by omega)
      rw [U1.out, szN_no (by omega)] at hc
      have HC := Lib.hid hc
      clear hc
      have za_0 := cell_of_row _ (w.heap.size + 1) 0 _ _ _ AB1.out
      have za_1 := cell_of_row _ (w.heap.size + 1) 1 _ _ _ AB1.out
      simp only [List.getElem?_toArray, List.getElem?_cons_zero, List.getElem?_cons_succ] at za_0 za_1
      go_wp2_with fail
      clear za_0 za_1
      refine HC.out.mono ?_
      rintro e w3 ⟨rfl, hb⟩
      clear HC
      have szw3 := hb.size
      replace F0 := Lib.hid (shQueue.below F0.out hb (by omega))
      replace F1 := Lib.hid (shItem.below F1.out hb (by omega))
      replace AB0 := Lib.hid ((hb.block w.heap.size (by omega)).trans AB0.out)
      replace AB1 := Lib.hid ((hb.block (w.heap.size + 1) (by omega)).trans AB1.out)
      replace T := Lib.hid (T.out.trans (hb.mono (by omega)))
      clear hb
      go_wp2_with fail
      go_ret
      exact ⟨rfl, T.out⟩
  · have hk0 : ((w.alloc (.cells #[.int .i64 x0.1, .slice a0_0 n0_0 c0_0] 42 (0, 0))).alloc (.cells #[.int .i64 x1.1, .slice a1_0 n1_0 c1_0] 47 (0, 0))).heap[w.heap.size]? = some (.cells #[.int .i64 x0.1, .slice a0_0 n0_0 c0_0] 42 (0, 0)) := by
      rw [Below.heap_alloc _ _ _ (by simp)]
      have := heap_alloc_new w (.cells #[.int .i64 x0.1, .slice a0_0 n0_0 c0_0] 42 (0, 0))
      simpa using this
    have hk1 : ((w.alloc (.cells #[.int .i64 x0.1, .slice a0_0 n0_0 c0_0] 42 (0, 0))).alloc (.cells #[.int .i64 x1.1, .slice a1_0 n1_0 c1_0] 47 (0, 0))).heap[w.heap.size + 1]? = some (.cells #[.int .i64 x1.1, .slice a1_0 n1_0 c1_0] 47 (0, 0)) := by
      have := heap_alloc_new (w.alloc (.cells #[.int .i64 x0.1, .slice a0_0 n0_0 c0_0] 42 (0, 0))) (.cells #[.int .i64 x1.1, .slice a1_0 n1_0 c1_0] 47 (0, 0))
      simpa using this
    have hb := ((Below.refl w.heap.size w).alloc (Nat.le_refl _) (.cells #[.int .i64 x0.1, .slice a0_0 n0_0 c0_0] 42 (0, 0))).alloc (by simp) (.cells #[.int .i64 x1.1, .slice a1_0 n1_0 c1_0] 47 (0, 0))
    have szw1 : w.heap.size + 2 = ((w.alloc (.cells #[.int .i64 x0.1, .slice a0_0 n0_0 c0_0] 42 (0, 0))).alloc (.cells #[.int .i64 x1.1, .slice a1_0 n1_0 c1_0] 47 (0, 0))).heap.size := by simp
    go_enter Try.func5, Try.ntmps5
    go_wp2_with fail
    generalize ((w.alloc (.cells #[.int .i64 x0.1, .slice a0_0 n0_0 c0_0] 42 (0, 0))).alloc (.cells #[.int .i64 x1.1, .slice a1_0 n1_0 c1_0] 47 (0, 0))) = w1 at hb szw1 hk0 hk1 ⊢
    replace F0 := Lib.hid (shQueue.below F0.out hb (by omega))
    replace F1 := Lib.hid (shItem.below F1.out hb (by omega))
    replace T := Lib.hid (T.out.trans (hb.mono (by omega)))
    have AB0 := Lib.hid hk0
    have AB1 := Lib.hid hk1
    clear hb hk0 hk1
    have hc := szQueue_c _ _ _ x0 (1048576) F0.out (by omega) (by omega) (by omega)
    rw [U0.out, szN_no (by omega)] at hc
    have HC := Lib.hid hc
    clear hc
    refine HC.out.mono ?_
    rintro e w2 ⟨rfl, hb⟩
    clear HC
    have szw2 := hb.size
    replace F0 := Lib.hid (shQueue.below F0.out hb (by omega))
    replace F1 := Lib.hid (shItem.below F1.out hb (by omega))
    replace AB0 := Lib.hid ((hb.block w.heap.size (by omega)).trans AB0.out)
    replace AB1 := Lib.hid ((hb.block (w.heap.size + 1) (by omega)).trans AB1.out)
    replace T := Lib.hid (T.out.trans (hb.mono (by omega)))
    clear hb
    go_wp2_with fail
    go_ret
    exact ⟨rfl, T.out⟩
end Go.Proofs.Ytdoofapjhgahgaa
