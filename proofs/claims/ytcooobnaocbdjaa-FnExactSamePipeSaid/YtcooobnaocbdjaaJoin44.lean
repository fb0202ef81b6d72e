/-
  Exact laws over data with depth: the walks.
-/
import Derived.Test.YtcooobnaocbdjaaJoin34
import Derived.Test.YtcooobnaocbdjaaJoin42
import Derived.Test.YtcooobnaocbdjaaJoin43
import Derived.Deep.DeepCutAuto
import Derived.Deep.RegionLaw
namespace Go.Proofs.Ytcooobnaocbdjaa
open Go.RowKit
set_option linter.unusedVariables false
set_option linter.unusedSimpArgs false

set_option maxRecDepth 100000 in
set_option maxHeartbeats 6400000 in
theorem lawSamePipe_any (w : World) (es0 : List Value) (x0 : dPipe) (h0 : shPipe.reads (Under w.heap.size) w es0 x0) (es1 : List Value) (x1 : dPipe) (h1 : shPipe.reads (Under w.heap.size) w es1 x1) :
    Calls Try.prog 7 #[(.agg es0.toArray), (.agg es1.toArray)] w fun e w' => e = .returned (.bool true) ∧ Below w.heap.size w w' := by
  obtain ⟨a0_0, n0_0, c0_0, a0_1, n0_1, c0_1, a0_2, n0_2, c0_2, a0_3, n0_3, c0_3, rfl, -⟩ := shPipe_reads.1 h0
  obtain ⟨u0, hu0⟩ : ∃ u, shPipe.bulk x0 = u := ⟨_, rfl⟩
  have U0 := Lib.hid hu0
  have F0 := Lib.hid h0
  obtain ⟨a1_0, n1_0, c1_0, a1_1, n1_1, c1_1, a1_2, n1_2, c1_2, a1_3, n1_3, c1_3, rfl, -⟩ := shPipe_reads.1 h1
  obtain ⟨u1, hu1⟩ : ∃ u, shPipe.bulk x1 = u := ⟨_, rfl⟩
  have U1 := Lib.hid hu1
  have F1 := Lib.hid h1
  have T := Lib.hid (Below.refl w.heap.size w)
  clear hu0 h0 hu1 h1
  by_cases f0 : ((u0 : Nat) : Int) ≤ 1048576
  · skip
    by_cases f1 : ((u0 + u1 : Nat) : Int) ≤ 1048576
    · go_enter Try.func7, Try.ntmps7
      go_wp2_with fail
      have hb := (Below.refl w.heap.size w).alloc (Nat.le_refl _) (.cells #[.slice a0_0 n0_0 c0_0, .slice a0_1 n0_1 c0_1, .slice a0_2 n0_2 c0_2, .slice a0_3 n0_3 c0_3] 26 (0, 0))
      have hk := heap_alloc_new w (.cells #[.slice a0_0 n0_0 c0_0, .slice a0_1 n0_1 c0_1, .slice a0_2 n0_2 c0_2, .slice a0_3 n0_3 c0_3] 26 (0, 0))
      have szw1 : w.heap.size < (w.alloc (.cells #[.slice a0_0 n0_0 c0_0, .slice a0_1 n0_1 c0_1, .slice a0_2 n0_2 c0_2, .slice a0_3 n0_3 c0_3] 26 (0, 0))).heap.size := by simp
      have ee : (w.alloc (.cells #[.slice a0_0 n0_0 c0_0, .slice a0_1 n0_1 c0_1, .slice a0_2 n0_2 c0_2, .slice a0_3 n0_3 c0_3] 26 (0, 0))).heap.size = w.heap.size + 1 := by simp
      generalize w.alloc (.cells #[.slice a0_0 n0_0 c0_0, .slice a0_1 n0_1 c0_1, .slice a0_2 n0_2 c0_2, .slice a0_3 n0_3 c0_3] 26 (0, 0)) = w1 at hb hk szw1 ee ⊢
      have EE1 := Lib.hid ee
      clear ee
      replace F0 := Lib.hid (shPipe.below F0.out hb (by omega))
      replace F1 := Lib.hid (shPipe.below F1.out hb (by omega))
      replace T := Lib.hid (T.out.trans (hb.mono (by omega)))
      have AB0 := Lib.hid hk
      clear hb hk
      have hb := (Below.refl w1.heap.size w1).alloc (Nat.le_refl _) (.cells #[.slice a1_0 n1_0 c1_0, .slice a1_1 n1_1 c1_1, .slice a1_2 n1_2 c1_2, .slice a1_3 n1_3 c1_3] 26 (0, 0))
      have hk := heap_alloc_new w1 (.cells #[.slice a1_0 n1_0 c1_0, .slice a1_1 n1_1 c1_1, .slice a1_2 n1_2 c1_2, .slice a1_3 n1_3 c1_3] 26 (0, 0))
      have szw2 : w1.heap.size < (w1.alloc (.cells #[.slice a1_0 n1_0 c1_0, .slice a1_1 n1_1 c1_1, .slice a1_2 n1_2 c1_2, .slice a1_3 n1_3 c1_3] 26 (0, 0))).heap.size := by simp
      have e0 := EE1.out
      rw [e0] at hk
      have ee : (w1.alloc (.cells #[.slice a1_0 n1_0 c1_0, .slice a1_1 n1_1 c1_1, .slice a1_2 n1_2 c1_2, .slice a1_3 n1_3 c1_3] 26 (0, 0))).heap.size = w.heap.size + 2 := by simp; omega
      clear e0
      generalize w1.alloc (.cells #[.slice a1_0 n1_0 c1_0, .slice a1_1 n1_1 c1_1, .slice a1_2 n1_2 c1_2, .slice a1_3 n1_3 c1_3] 26 (0, 0)) = w2 at hb hk szw2 ee ⊢
      have EE2 := Lib.hid ee
      clear ee
      have hq : w.heap.size + 1 < w2.heap.size := by have := EE2.out; omega
      replace F0 := Lib.hid (shPipe.below F0.out hb (by omega))
      replace F1 := Lib.hid (shPipe.below F1.out hb (by omega))
      replace AB0 := Lib.hid ((hb.block w.heap.size (by omega)).trans AB0.out)
      replace T := Lib.hid (T.out.trans (hb.mono (by omega)))
      have AB1 := Lib.hid hk
      clear hb hk
      have hc := szPipe_c _ _ _ x0 (1048576) F0.out (by omega) (by omega) (by omega)
      rw [U0.out, szN_yes (by omega)] at hc
      obtain ⟨l0, hl0⟩ : ∃ l, 1048576 - (u0 : Int) = l := ⟨_, rfl⟩
      rw [hl0] at hc
      have t0 : decide (l0 < 0) = false := decide_eq_false (by omega)
      have HC := Lib.hid hc
      clear hc
      refine HC.out.mono ?_
      rintro e w3 ⟨rfl, hb⟩
      clear HC
      have szw3 := hb.size
      replace F0 := Lib.hid (shPipe.below F0.out hb (by omega))
      replace F1 := Lib.hid (shPipe.below F1.out hb (by omega))
      replace AB0 := Lib.hid ((hb.block w.heap.size (by omega)).trans AB0.out)
      replace AB1 := Lib.hid ((hb.block (w.heap.size + 1) (by omega)).trans AB1.out)
      replace T := Lib.hid (T.out.trans (hb.mono (by omega)))
      clear hb
      have hc := szPipe_c _ _ _ x1 (l0) F1.out (by omega) (by omega) (by omega)
      rw [U1.out, szN_yes (by omega)] at hc
      obtain ⟨l1, hl1⟩ : ∃ l, l0 - (u1 : Int) = l := ⟨_, rfl⟩
      rw [hl1] at hc
      have t1 : decide (l1 < 0) = false := decide_eq_false (by omega)
      have HC := Lib.hid hc
      clear hc
      have za_0 := cell_of_row _ (w.heap.size + 1) 0 _ _ _ AB1.out
      have za_1 := cell_of_row _ (w.heap.size + 1) 1 _ _ _ AB1.out
      have za_2 := cell_of_row _ (w.heap.size + 1) 2 _ _ _ AB1.out
      have za_3 := cell_of_row _ (w.heap.size + 1) 3 _ _ _ AB1.out
      simp only [List.getElem?_toArray, List.getElem?_cons_zero, List.getElem?_cons_succ] at za_0 za_1 za_2 za_3
      go_wp2_with fail
      clear za_0 za_1 za_2 za_3
      refine HC.out.mono ?_
      rintro e w4 ⟨rfl, hb⟩
      clear HC
      have szw4 := hb.size
      replace F0 := Lib.hid (shPipe.below F0.out hb (by omega))
      replace F1 := Lib.hid (shPipe.below F1.out hb (by omega))
      replace AB0 := Lib.hid ((hb.block w.heap.size (by omega)).trans AB0.out)
      replace AB1 := Lib.hid ((hb.block (w.heap.size + 1) (by omega)).trans AB1.out)
      replace T := Lib.hid (T.out.trans (hb.mono (by omega)))
      clear hb
      have ub : u0 + u1 ≤ 1048576 := by omega
      obtain ⟨v, hv⟩ : ∃ v, samePipeB x0 x1 = v := ⟨_, rfl⟩
      have HV := Lib.hid hv
      clear hv
      have zs0_0 := cell_of_row _ w.heap.size 0 _ _ _ AB0.out
      have zs0_1 := cell_of_row _ w.heap.size 1 _ _ _ AB0.out
      have zs0_2 := cell_of_row _ w.heap.size 2 _ _ _ AB0.out
      have zs0_3 := cell_of_row _ w.heap.size 3 _ _ _ AB0.out
      simp only [List.getElem?_toArray, List.getElem?_cons_zero, List.getElem?_cons_succ] at zs0_0 zs0_1 zs0_2 zs0_3
      have zs1_0 := cell_of_row _ (w.heap.size + 1) 0 _ _ _ AB1.out
      have zs1_1 := cell_of_row _ (w.heap.size + 1) 1 _ _ _ AB1.out
      have zs1_2 := cell_of_row _ (w.heap.size + 1) 2 _ _ _ AB1.out
      have zs1_3 := cell_of_row _ (w.heap.size + 1) 3 _ _ _ AB1.out
      simp only [List.getElem?_toArray, List.getElem?_cons_zero, List.getElem?_cons_succ] at zs1_0 zs1_1 zs1_2 zs1_3
      go_upto_region 8 with fail
      go_cut [6] (fun t wx => t = (.bool v) ∧ Below w4.heap.size w4 wx)
      case first =>
        have hdr : Below w4.heap.size w4 w4.drew := (Below.refl _ _).drew
        have FD0 := Lib.hid (shPipe.below F0.out hdr (by omega))
        have FD1 := Lib.hid (shPipe.below F1.out hdr (by omega))
        have DR := Lib.hid hdr
        have szd : w4.heap.size ≤ w4.drew.heap.size := hdr.size
        have ABD : Hid (w4.drew.heap[(w.heap.size + 1)]? = _) := Lib.hid AB1.out
        clear hdr
        have HC1 := Lib.hid (toPipe_c w4.drew _ _ x0 FD0.out (by omega) (by rw [U0.out]; omega))
        have HC2 := Lib.hid fun (w1 : World) (hb : Below w4.drew.heap.size w4.drew w1) => toPipe_c w1 _ _ x1 (shPipe.below FD1.out hb (by omega)) (by have := hb.size; omega) (by rw [U1.out]; omega)
        have HC3 := Lib.hid fun (w1 w2 : World) (eg eh : List Value) (hb1 : Below w4.drew.heap.size w4.drew w1) (hr1 : shPipe.reads (From w4.drew.heap.size w1.heap.size) w1 eg x0) (hb2 : Below w1.heap.size w1 w2) (hr2 : shPipe.reads (From w1.heap.size w2.heap.size) w2 eh x1) => specSamePipe_d w2 eg x0 (shPipe.le (shPipe.below (shPipe.under hr1) hb2 (Nat.le_refl _)) hb2.size) (by rw [U0.out]; omega) eh x1 (shPipe.under hr2) (by rw [U1.out]; omega)
        simp only [HV.out] at HC3
        go_region_law (first
          | (go_simp; go_at_call 10; (with_reducible refine HC1.out.mono ?_); rintro e wt ⟨eg, rfl, hr, hb⟩; have hq := HC2.out wt hb; have zz_0 := cell_of_row _ (w.heap.size + 1) 0 _ _ _ ((hb.block (w.heap.size + 1) (by omega)).trans ABD.out); have zz_1 := cell_of_row _ (w.heap.size + 1) 1 _ _ _ ((hb.block (w.heap.size + 1) (by omega)).trans ABD.out); have zz_2 := cell_of_row _ (w.heap.size + 1) 2 _ _ _ ((hb.block (w.heap.size + 1) (by omega)).trans ABD.out); have zz_3 := cell_of_row _ (w.heap.size + 1) 3 _ _ _ ((hb.block (w.heap.size + 1) (by omega)).trans ABD.out); simp only [List.getElem?_toArray, List.getElem?_cons_zero, List.getElem?_cons_succ] at zz_0 zz_1 zz_2 zz_3; obtain ⟨ag_0, ng_0, cg_0, ag_1, ng_1, cg_1, ag_2, ng_2, cg_2, ag_3, ng_3, cg_3, rfl, -⟩ := shPipe_reads.1 hr; have HR1 := Lib.hid hr; have HB1 := Lib.hid hb; have HQ := Lib.hid hq; have szt := hb.size; clear hb hr hq)
          | (go_simp; go_at_call 10; (with_reducible refine HQ.out.mono ?_); rintro e wu ⟨eh, rfl, hr, hb⟩; have hq := HC3.out wt wu _ _ HB1.out HR1.out hb hr; obtain ⟨ah_0, nh_0, ch_0, ah_1, nh_1, ch_1, ah_2, nh_2, ch_2, ah_3, nh_3, ch_3, rfl, -⟩ := shPipe_reads.1 hr; have HS := Lib.hid hq; have HB2 := Lib.hid hb; have szu := hb.size; clear hb hr hq)
          | (go_simp; go_at_call 24; (with_reducible refine HS.out.mono ?_); rintro e wq ⟨rfl, hb⟩; have BQ := Lib.hid (DR.out.trans ((HB1.out.mono szd).trans ((HB2.out.mono (by omega)).trans (hb.mono (by omega))))); clear hb))
        all_goals
          go_wp2_with fail
          go_meet
          case rel => exact ⟨rfl, BQ.out⟩
      case rest =>
        obtain ⟨rfl, hb⟩ := hcut
        clear zs0_0 zs0_1 zs0_2 zs0_3
        clear zs1_0 zs1_1 zs1_2 zs1_3
        obtain ⟨w5, rfl⟩ : ∃ x, x = wc := ⟨_, rfl⟩
        have szw5 := hb.size
        replace F0 := Lib.hid (shPipe.below F0.out hb (by omega))
        replace F1 := Lib.hid (shPipe.below F1.out hb (by omega))
        replace AB0 := Lib.hid ((hb.block w.heap.size (by omega)).trans AB0.out)
        replace AB1 := Lib.hid ((hb.block (w.heap.size + 1) (by omega)).trans AB1.out)
        replace T := Lib.hid (T.out.trans (hb.mono (by omega)))
        clear hb
        have HC := Lib.hid (toPipe_c _ _ _ x0 F0.out (by omega) (by rw [U0.out]; omega))
        have za_0 := cell_of_row _ w.heap.size 0 _ _ _ AB0.out
        have za_1 := cell_of_row _ w.heap.size 1 _ _ _ AB0.out
        have za_2 := cell_of_row _ w.heap.size 2 _ _ _ AB0.out
        have za_3 := cell_of_row _ w.heap.size 3 _ _ _ AB0.out
        simp only [List.getElem?_toArray, List.getElem?_cons_zero, List.getElem?_cons_succ] at za_0 za_1 za_2 za_3
        go_wp2_with fail
        clear za_0 za_1 za_2 za_3
        refine HC.out.mono ?_
        rintro e w6 ⟨eX0, rfl, hr, hb⟩
        clear HC
        have szw6 := hb.size
        replace F0 := Lib.hid (shPipe.below F0.out hb (by omega))
        replace F1 := Lib.hid (shPipe.below F1.out hb (by omega))
        replace AB0 := Lib.hid ((hb.block w.heap.size (by omega)).trans AB0.out)
        replace AB1 := Lib.hid ((hb.block (w.heap.size + 1) (by omega)).trans AB1.out)
        replace T := Lib.hid (T.out.trans (hb.mono (by omega)))
        clear hb
        have hX0 := shPipe.under hr
        obtain ⟨aX0_0, nX0_0, cX0_0, aX0_1, nX0_1, cX0_1, aX0_2, nX0_2, cX0_2, aX0_3, nX0_3, cX0_3, rfl, -⟩ := shPipe_reads.1 hX0
        have X0 := Lib.hid hX0
        clear hr hX0
        go_upto_region 10 with fail
        have hb := (Below.refl w6.heap.size w6).alloc (Nat.le_refl _) (.cells #[.slice aX0_0 nX0_0 cX0_0, .slice aX0_1 nX0_1 cX0_1, .slice aX0_2 nX0_2 cX0_2, .slice aX0_3 nX0_3 cX0_3] 35 (0, 0))
        have hk := heap_alloc_new w6 (.cells #[.slice aX0_0 nX0_0 cX0_0, .slice aX0_1 nX0_1 cX0_1, .slice aX0_2 nX0_2 cX0_2, .slice aX0_3 nX0_3 cX0_3] 35 (0, 0))
        have szw7 : w6.heap.size < (w6.alloc (.cells #[.slice aX0_0 nX0_0 cX0_0, .slice aX0_1 nX0_1 cX0_1, .slice aX0_2 nX0_2 cX0_2, .slice aX0_3 nX0_3 cX0_3] 35 (0, 0))).heap.size := by simp
        generalize w6.alloc (.cells #[.slice aX0_0 nX0_0 cX0_0, .slice aX0_1 nX0_1 cX0_1, .slice aX0_2 nX0_2 cX0_2, .slice aX0_3 nX0_3 cX0_3] 35 (0, 0)) = w7 at hb hk szw7 ⊢
        replace F0 := Lib.hid (shPipe.below F0.out hb (by omega))
        replace F1 := Lib.hid (shPipe.below F1.out hb (by omega))
        replace AB0 := Lib.hid ((hb.block w.heap.size (by omega)).trans AB0.out)
        replace AB1 := Lib.hid ((hb.block (w.heap.size + 1) (by omega)).trans AB1.out)
        replace X0 := Lib.hid (shPipe.below X0.out hb (by omega))
        replace T := Lib.hid (T.out.trans (hb.mono (by omega)))
        have XB0 := Lib.hid hk
        clear hb hk
        have HC := Lib.hid (toPipe_c _ _ _ x1 F1.out (by omega) (by rw [U1.out]; omega))
        have za_0 := cell_of_row _ (w.heap.size + 1) 0 _ _ _ AB1.out
        have za_1 := cell_of_row _ (w.heap.size + 1) 1 _ _ _ AB1.out
        have za_2 := cell_of_row _ (w.heap.size + 1) 2 _ _ _ AB1.out
        have za_3 := cell_of_row _ (w.heap.size + 1) 3 _ _ _ AB1.out
        simp only [List.getElem?_toArray, List.getElem?_cons_zero, List.getElem?_cons_succ] at za_0 za_1 za_2 za_3
        go_wp2_with fail
        clear za_0 za_1 za_2 za_3
        refine HC.out.mono ?_
        rintro e w8 ⟨eX1, rfl, hr, hb⟩
        clear HC
        have szw8 := hb.size
        replace F0 := Lib.hid (shPipe.below F0.out hb (by omega))
        replace F1 := Lib.hid (shPipe.below F1.out hb (by omega))
        replace AB0 := Lib.hid ((hb.block w.heap.size (by omega)).trans AB0.out)
        replace AB1 := Lib.hid ((hb.block (w.heap.size + 1) (by omega)).trans AB1.out)
        replace X0 := Lib.hid (shPipe.below X0.out hb (by omega))
        replace XB0 := Lib.hid ((hb.block w6.heap.size (by omega)).trans XB0.out)
        replace T := Lib.hid (T.out.trans (hb.mono (by omega)))
        clear hb
        have hX1 := shPipe.under hr
        obtain ⟨aX1_0, nX1_0, cX1_0, aX1_1, nX1_1, cX1_1, aX1_2, nX1_2, cX1_2, aX1_3, nX1_3, cX1_3, rfl, -⟩ := shPipe_reads.1 hX1
        have X1 := Lib.hid hX1
        clear hr hX1
        go_upto_region 11 with fail
        have hb := (Below.refl w8.heap.size w8).alloc (Nat.le_refl _) (.cells #[.slice aX1_0 nX1_0 cX1_0, .slice aX1_1 nX1_1 cX1_1, .slice aX1_2 nX1_2 cX1_2, .slice aX1_3 nX1_3 cX1_3] 35 (0, 0))
        have hk := heap_alloc_new w8 (.cells #[.slice aX1_0 nX1_0 cX1_0, .slice aX1_1 nX1_1 cX1_1, .slice aX1_2 nX1_2 cX1_2, .slice aX1_3 nX1_3 cX1_3] 35 (0, 0))
        have szw9 : w8.heap.size < (w8.alloc (.cells #[.slice aX1_0 nX1_0 cX1_0, .slice aX1_1 nX1_1 cX1_1, .slice aX1_2 nX1_2 cX1_2, .slice aX1_3 nX1_3 cX1_3] 35 (0, 0))).heap.size := by simp
        generalize w8.alloc (.cells #[.slice aX1_0 nX1_0 cX1_0, .slice aX1_1 nX1_1 cX1_1, .slice aX1_2 nX1_2 cX1_2, .slice aX1_3 nX1_3 cX1_3] 35 (0, 0)) = w9 at hb hk szw9 ⊢
        replace F0 := Lib.hid (shPipe.below F0.out hb (by omega))
        replace F1 := Lib.hid (shPipe.below F1.out hb (by omega))
        replace AB0 := Lib.hid ((hb.block w.heap.size (by omega)).trans AB0.out)
        replace AB1 := Lib.hid ((hb.block (w.heap.size + 1) (by omega)).trans AB1.out)
        replace X0 := Lib.hid (shPipe.below X0.out hb (by omega))
        replace XB0 := Lib.hid ((hb.block w6.heap.size (by omega)).trans XB0.out)
        replace X1 := Lib.hid (shPipe.below X1.out hb (by omega))
        replace T := Lib.hid (T.out.trans (hb.mono (by omega)))
        have XB1 := Lib.hid hk
        clear hb hk
        have hc := implSamePipe_d _ _ x0 (shPipe.le X0.out (by omega)) (by rw [U0.out]; omega) _ x1 (shPipe.le X1.out (by omega)) (by rw [U1.out]; omega)
        rw [HV.out] at hc
        have HC := Lib.hid hc
        clear hc
        have zx0_0 := cell_of_row _ w6.heap.size 0 _ _ _ XB0.out
        have zx0_1 := cell_of_row _ w6.heap.size 1 _ _ _ XB0.out
        have zx0_2 := cell_of_row _ w6.heap.size 2 _ _ _ XB0.out
        have zx0_3 := cell_of_row _ w6.heap.size 3 _ _ _ XB0.out
        simp only [List.getElem?_toArray, List.getElem?_cons_zero, List.getElem?_cons_succ] at zx0_0 zx0_1 zx0_2 zx0_3
        have zx1_0 := cell_of_row _ w8.heap.size 0 _ _ _ XB1.out
        have zx1_1 := cell_of_row _ w8.heap.size 1 _ _ _ XB1.out
        have zx1_2 := cell_of_row _ w8.heap.size 2 _ _ _ XB1.out
        have zx1_3 := cell_of_row _ w8.heap.size 3 _ _ _ XB1.out
        simp only [List.getElem?_toArray, List.getElem?_cons_zero, List.getElem?_cons_succ] at zx1_0 zx1_1 zx1_2 zx1_3
        go_wp2_with fail
        clear zx0_0 zx0_1 zx0_2 zx0_3
        clear zx1_0 zx1_1 zx1_2 zx1_3
        refine HC.out.mono ?_
        rintro e w10 ⟨rfl, hb⟩
        clear HC
        have szw10 := hb.size
        replace F0 := Lib.hid (shPipe.below F0.out hb (by omega))
        replace F1 := Lib.hid (shPipe.below F1.out hb (by omega))
        replace AB0 := Lib.hid ((hb.block w.heap.size (by omega)).trans AB0.out)
        replace AB1 := Lib.hid ((hb.block (w.heap.size + 1) (by omega)).trans AB1.out)
        replace X0 := Lib.hid (shPipe.below X0.out hb (by omega))
        replace XB0 := Lib.hid ((hb.block w6.heap.size (by omega)).trans XB0.out)
        replace X1 := Lib.hid (shPipe.below X1.out hb (by omega))
        replace XB1 := Lib.hid ((hb.block w8.heap.size (by omega)).trans XB1.out)
        replace T := Lib.hid (T.out.trans (hb.mono (by omega)))
        clear hb
        have zx_0 := cell_of_row _ w6.heap.size 0 _ _ _ XB0.out
        have zx_1 := cell_of_row _ w6.heap.size 1 _ _ _ XB0.out
        have zx_2 := cell_of_row _ w6.heap.size 2 _ _ _ XB0.out
        have zx_3 := cell_of_row _ w6.heap.size 3 _ _ _ XB0.out
        simp only [List.getElem?_toArray, List.getElem?_cons_zero, List.getElem?_cons_succ] at zx_0 zx_1 zx_2 zx_3
        have za_0 := cell_of_row _ w.heap.size 0 _ _ _ AB0.out
        have za_1 := cell_of_row _ w.heap.size 1 _ _ _ AB0.out
        have za_2 := cell_of_row _ w.heap.size 2 _ _ _ AB0.out
        have za_3 := cell_of_row _ w.heap.size 3 _ _ _ AB0.out
        simp only [List.getElem?_toArray, List.getElem?_cons_zero, List.getElem?_cons_succ] at za_0 za_1 za_2 za_3
        go_upto_region 14 with fail
        go_cut [39] (fun t wx => t = .bool false ∧ Below w10.heap.size w10 wx)
        case first =>
          have hdr : Below w10.heap.size w10 w10.drew := (Below.refl _ _).drew
          have FD := Lib.hid (shPipe.below F0.out hdr (by omega))
          have XD := Lib.hid (shPipe.below X0.out hdr (by omega))
          have DR := Lib.hid hdr
          have szd : w10.heap.size ≤ w10.drew.heap.size := hdr.size
          have XBD : Hid (w10.drew.heap[w6.heap.size]? = _) := Lib.hid XB0.out
          clear hdr
          have HC1 := Lib.hid (toPipe_c w10.drew _ _ x0 FD.out (by omega) (by rw [U0.out]; omega))
          have HC2 := Lib.hid fun (w1 : World) (es : List Value) (hb : Below w10.drew.heap.size w10.drew w1) (hr : shPipe.reads (From w10.drew.heap.size w1.heap.size) w1 es x0) => eqPipe_c w1 _ _ _ es x0 (shPipe.below XD.out hb (by omega)) (shPipe.under hr) (by have := hb.size; omega) (Nat.le_refl _) (smallPipe_of (by rw [U0.out]; omega))
          go_region_law (first
            | (go_simp; go_at_call 10; (with_reducible refine HC1.out.mono ?_); rintro e wt ⟨eg, rfl, hr, hb⟩; have hq := HC2.out wt eg hb hr; have zz_0 := cell_of_row _ w6.heap.size 0 _ _ _ ((hb.block w6.heap.size (by omega)).trans XBD.out); have zz_1 := cell_of_row _ w6.heap.size 1 _ _ _ ((hb.block w6.heap.size (by omega)).trans XBD.out); have zz_2 := cell_of_row _ w6.heap.size 2 _ _ _ ((hb.block w6.heap.size (by omega)).trans XBD.out); have zz_3 := cell_of_row _ w6.heap.size 3 _ _ _ ((hb.block w6.heap.size (by omega)).trans XBD.out); simp only [List.getElem?_toArray, List.getElem?_cons_zero, List.getElem?_cons_succ] at zz_0 zz_1 zz_2 zz_3; obtain ⟨ag_0, ng_0, cg_0, ag_1, ng_1, cg_1, ag_2, ng_2, cg_2, ag_3, ng_3, cg_3, rfl, -⟩ := shPipe_reads.1 hr; have HQ := Lib.hid hq; have HBT := Lib.hid hb; have szt := hb.size; clear hb hr hq)
            | (go_simp; go_at_call 13; (with_reducible refine HQ.out.mono ?_); rintro e wq ⟨rfl, hb⟩; have BQ := Lib.hid (DR.out.trans ((HBT.out.mono szd).trans (hb.mono (by omega)))); clear hb))
          all_goals
            go_wp2_with fail
            go_meet
            case rel => exact ⟨rfl, BQ.out⟩
        case rest =>
          obtain ⟨rfl, hb⟩ := hcut
          clear zx_0 zx_1 zx_2 zx_3
          clear za_0 za_1 za_2 za_3
          obtain ⟨w11, rfl⟩ : ∃ x, x = wc := ⟨_, rfl⟩
          have szw11 := hb.size
          replace F0 := Lib.hid (shPipe.below F0.out hb (by omega))
          replace F1 := Lib.hid (shPipe.below F1.out hb (by omega))
          replace AB0 := Lib.hid ((hb.block w.heap.size (by omega)).trans AB0.out)
          replace AB1 := Lib.hid ((hb.block (w.heap.size + 1) (by omega)).trans AB1.out)
          replace X0 := Lib.hid (shPipe.below X0.out hb (by omega))
          replace XB0 := Lib.hid ((hb.block w6.heap.size (by omega)).trans XB0.out)
          replace X1 := Lib.hid (shPipe.below X1.out hb (by omega))
          replace XB1 := Lib.hid ((hb.block w8.heap.size (by omega)).trans XB1.out)
          replace T := Lib.hid (T.out.trans (hb.mono (by omega)))
          clear hb
          have zx_0 := cell_of_row _ w8.heap.size 0 _ _ _ XB1.out
          have zx_1 := cell_of_row _ w8.heap.size 1 _ _ _ XB1.out
          have zx_2 := cell_of_row _ w8.heap.size 2 _ _ _ XB1.out
          have zx_3 := cell_of_row _ w8.heap.size 3 _ _ _ XB1.out
          simp only [List.getElem?_toArray, List.getElem?_cons_zero, List.getElem?_cons_succ] at zx_0 zx_1 zx_2 zx_3
          have za_0 := cell_of_row _ (w.heap.size + 1) 0 _ _ _ AB1.out
          have za_1 := cell_of_row _ (w.heap.size + 1) 1 _ _ _ AB1.out
          have za_2 := cell_of_row _ (w.heap.size + 1) 2 _ _ _ AB1.out
          have za_3 := cell_of_row _ (w.heap.size + 1) 3 _ _ _ AB1.out
          simp only [List.getElem?_toArray, List.getElem?_cons_zero, List.getElem?_cons_succ] at za_0 za_1 za_2 za_3
          go_upto_region 16 with fail
          go_cut [44] (fun t wx => t = .bool false ∧ Below w11.heap.size w11 wx)
          case first =>
            have hdr : Below w11.heap.size w11 w11.drew := (Below.refl _ _).drew
            have FD := Lib.hid (shPipe.below F1.out hdr (by omega))
            have XD := Lib.hid (shPipe.below X1.out hdr (by omega))
            have DR := Lib.hid hdr
            have szd : w11.heap.size ≤ w11.drew.heap.size := hdr.size
            have XBD : Hid (w11.drew.heap[w8.heap.size]? = _) := Lib.hid XB1.out
            clear hdr
            have HC1 := Lib.hid (toPipe_c w11.drew _ _ x1 FD.out (by omega) (by rw [U1.out]; omega))
            have HC2 := Lib.hid fun (w1 : World) (es : List Value) (hb : Below w11.drew.heap.size w11.drew w1) (hr : shPipe.reads (From w11.drew.heap.size w1.heap.size) w1 es x1) => eqPipe_c w1 _ _ _ es x1 (shPipe.below XD.out hb (by omega)) (shPipe.under hr) (by have := hb.size; omega) (Nat.le_refl _) (smallPipe_of (by rw [U1.out]; omega))
            go_region_law (first
              | (go_simp; go_at_call 10; (with_reducible refine HC1.out.mono ?_); rintro e wt ⟨eg, rfl, hr, hb⟩; have hq := HC2.out wt eg hb hr; have zz_0 := cell_of_row _ w8.heap.size 0 _ _ _ ((hb.block w8.heap.size (by omega)).trans XBD.out); have zz_1 := cell_of_row _ w8.heap.size 1 _ _ _ ((hb.block w8.heap.size (by omega)).trans XBD.out); have zz_2 := cell_of_row _ w8.heap.size 2 _ _ _ ((hb.block w8.heap.size (by omega)).trans XBD.out); have zz_3 := cell_of_row _ w8.heap.size 3 _ _ _ ((hb.block w8.heap.size (by omega)).trans XBD.out); simp only [List.getElem?_toArray, List.getElem?_cons_zero, List.getElem?_cons_succ] at zz_0 zz_1 zz_2 zz_3; obtain ⟨ag_0, ng_0, cg_0, ag_1, ng_1, cg_1, ag_2, ng_2, cg_2, ag_3, ng_3, cg_3, rfl, -⟩ := shPipe_reads.1 hr; have HQ := Lib.hid hq; have HBT := Lib.hid hb; have szt := hb.size; clear hb hr hq)
              | (go_simp; go_at_call 13; (with_reducible refine HQ.out.mono ?_); rintro e wq ⟨rfl, hb⟩; have BQ := Lib.hid (DR.out.trans ((HBT.out.mono szd).trans (hb.mono (by omega)))); clear hb))
            all_goals
              go_wp2_with fail
              go_meet
              case rel => exact ⟨rfl, BQ.out⟩
          case rest =>
            obtain ⟨rfl, hb⟩ := hcut
            clear zx_0 zx_1 zx_2 zx_3
            clear za_0 za_1 za_2 za_3
            obtain ⟨w12, rfl⟩ : ∃ x, x = wc := ⟨_, rfl⟩
            have szw12 := hb.size
            replace F0 := Lib.hid (shPipe.below F0.out hb (by omega))
            replace F1 := Lib.hid (shPipe.below F1.out hb (by omega))
            replace AB0 := Lib.hid ((hb.block w.heap.size (by omega)).trans AB0.out)
            replace AB1 := Lib.hid ((hb.block (w.heap.size + 1) (by omega)).trans AB1.out)
            replace X0 := Lib.hid (shPipe.below X0.out hb (by omega))
            replace XB0 := Lib.hid ((hb.block w6.heap.size (by omega)).trans XB0.out)
            replace X1 := Lib.hid (shPipe.below X1.out hb (by omega))
            replace XB1 := Lib.hid ((hb.block w8.heap.size (by omega)).trans XB1.out)
            replace T := Lib.hid (T.out.trans (hb.mono (by omega)))
            clear hb
            go_wp2_with fail
            go_ret
            exact ⟨rfl, T.out⟩
    · go_enter Try.func7, Try.ntmps7
      go_wp2_with fail
      have hb := (Below.refl w.heap.size w).alloc (Nat.le_refl _) (.cells #[.slice a0_0 n0_0 c0_0, .slice a0_1 n0_1 c0_1, .slice a0_2 n0_2 c0_2, .slice a0_3 n0_3 c0_3] 26 (0, 0))
      have hk := heap_alloc_new w (.cells #[.slice a0_0 n0_0 c0_0, .slice a0_1 n0_1 c0_1, .slice a0_2 n0_2 c0_2, .slice a0_3 n0_3 c0_3] 26 (0, 0))
      have szw1 : w.heap.size < (w.alloc (.cells #[.slice a0_0 n0_0 c0_0, .slice a0_1 n0_1 c0_1, .slice a0_2 n0_2 c0_2, .slice a0_3 n0_3 c0_3] 26 (0, 0))).heap.size := by simp
      have ee : (w.alloc (.cells #[.slice a0_0 n0_0 c0_0, .slice a0_1 n0_1 c0_1, .slice a0_2 n0_2 c0_2, .slice a0_3 n0_3 c0_3] 26 (0, 0))).heap.size = w.heap.size + 1 := by simp
      generalize w.alloc (.cells #[.slice a0_0 n0_0 c0_0, .slice a0_1 n0_1 c0_1, .slice a0_2 n0_2 c0_2, .slice a0_3 n0_3 c0_3] 26 (0, 0)) = w1 at hb hk szw1 ee ⊢
      have EE1 := Lib.hid ee
      clear ee
      replace F0 := Lib.hid (shPipe.below F0.out hb (by omega))
      replace F1 := Lib.hid (shPipe.below F1.out hb (by omega))
      replace T := Lib.hid (T.out.trans (hb.mono (by omega)))
      have AB0 := Lib.hid hk
      clear hb hk
      have hb := (Below.refl w1.heap.size w1).alloc (Nat.le_refl _) (.cells #[.slice a1_0 n1_0 c1_0, .slice a1_1 n1_1 c1_1, .slice a1_2 n1_2 c1_2, .slice a1_3 n1_3 c1_3] 26 (0, 0))
      have hk := heap_alloc_new w1 (.cells #[.slice a1_0 n1_0 c1_0, .slice a1_1 n1_1 c1_1, .slice a1_2 n1_2 c1_2, .slice a1_3 n1_3 c1_3] 26 (0, 0))
      have szw2 : w1.heap.size < (w1.alloc (.cells #[.slice a1_0 n1_0 c1_0, .slice a1_1 n1_1 c1_1, .slice a1_2 n1_2 c1_2, .slice a1_3 n1_3 c1_3] 26 (0, 0))).heap.size := by simp
      have e0 := EE1.out
      rw [e0] at hk
      have ee : (w1.alloc (.cells #[.slice a1_0 n1_0 c1_0, .slice a1_1 n1_1 c1_1, .slice a1_2 n1_2 c1_2, .slice a1_3 n1_3 c1_3] 26 (0, 0))).heap.size = w.heap.size + 2 := by simp; omega
      clear e0
      generalize w1.alloc (.cells #[.slice a1_0 n1_0 c1_0, .slice a1_1 n1_1 c1_1, .slice a1_2 n1_2 c1_2, .slice a1_3 n1_3 c1_3] 26 (0, 0)) = w2 at hb hk szw2 ee ⊢
      have EE2 := Lib.hid ee
      clear ee
      have hq : w.heap.size + 1 < w2.heap.size := by have := EE2.out; omega
      replace F0 := Lib.hid (shPipe.below F0.out hb (by omega))
      replace F1 := Lib.hid (shPipe.below F1.out hb (by omega))
      replace AB0 := Lib.hid ((hb.block w.heap.size (by omega)).trans AB0.out)
      replace T := Lib.hid (T.out.trans (hb.mono (by omega)))
      have AB1 := Lib.hid hk
      clear hb hk
      have hc := szPipe_c _ _ _ x0 (1048576) F0.out (by omega) (by omega) (by omega)
      rw [U0.out, szN_yes (by omega)] at hc
      obtain ⟨l0, hl0⟩ : ∃ l, 1048576 - (u0 : Int) = l := ⟨_, rfl⟩
      rw [hl0] at hc
      have t0 : decide (l0 < 0) = false := decide_eq_false (by omega)
      have HC := Lib.hid hc
      clear hc
      refine HC.out.mono ?_
      rintro e w3 ⟨rfl, hb⟩
      clear HC
      have szw3 := hb.size
      replace F0 := Lib.hid (shPipe.below F0.out hb (by omega))
      replace F1 := Lib.hid (shPipe.below F1.out hb (by omega))
      replace AB0 := Lib.hid ((hb.block w.heap.size (by omega)).trans AB0.out)
      replace AB1 := Lib.hid ((hb.block (w.heap.size + 1) (by omega)).trans AB1.out)
      replace T := Lib.hid (T.out.trans (hb.mono (by omega)))
      clear hb
      have hc := szPipe_c _ _ _ x1 (l0) F1.out (by omega) (by omega) (by omega)
      rw [U1.out, szN_no (by omega)] at hc
      have HC := Lib.hid hc
      clear hc
      have za_0 := cell_of_row _ (w.heap.size + 1) 0 _ _ _ AB1.out
      have za_1 := cell_of_row _ (w.heap.size + 1) 1 _ _ _ AB1.out
      have za_2 := cell_of_row _ (w.heap.size + 1) 2 _ _ _ AB1.out
      have za_3 := cell_of_row _ (w.heap.size + 1) 3 _ _ _ AB1.out
      simp only [List.getElem?_toArray, List.getElem?_cons_zero, List.getElem?_cons_succ] at za_0 za_1 za_2 za_3
      go_wp2_with fail
      clear za_0 za_1 za_2 za_3
      refine HC.out.mono ?_
      rintro e w4 ⟨rfl, hb⟩
      clear HC
      have szw4 := hb.size
      replace F0 := Lib.hid (shPipe.below F0.out hb (by omega))
      replace F1 := Lib.hid (shPipe.below F1.out hb (by omega))
      replace AB0 := Lib.hid ((hb.block w.heap.size (by omega)).trans AB0.out)
      replace AB1 := Lib.hid ((hb.block (w.heap.size + 1) (by omega)).trans AB1.out)
      replace T := Lib.hid (T.out.trans (hb.mono (by omega)))
      clear hb
      go_wp2_with fail
      go_ret
      exact ⟨rfl, T.out⟩
  · go_enter Try.func7, Try.ntmps7
    go_wp2_with fail
    have hb := (Below.refl w.heap.size w).alloc (Nat.le_refl _) (.cells #[.slice a0_0 n0_0 c0_0, .slice a0_1 n0_1 c0_1, .slice a0_2 n0_2 c0_2, .slice a0_3 n0_3 c0_3] 26 (0, 0))
    have hk := heap_alloc_new w (.cells #[.slice a0_0 n0_0 c0_0, .slice a0_1 n0_1 c0_1, .slice a0_2 n0_2 c0_2, .slice a0_3 n0_3 c0_3] 26 (0, 0))
    have szw1 : w.heap.size < (w.alloc (.cells #[.slice a0_0 n0_0 c0_0, .slice a0_1 n0_1 c0_1, .slice a0_2 n0_2 c0_2, .slice a0_3 n0_3 c0_3] 26 (0, 0))).heap.size := by simp
    have ee : (w.alloc (.cells #[.slice a0_0 n0_0 c0_0, .slice a0_1 n0_1 c0_1, .slice a0_2 n0_2 c0_2, .slice a0_3 n0_3 c0_3] 26 (0, 0))).heap.size = w.heap.size + 1 := by simp
    generalize w.alloc (.cells #[.slice a0_0 n0_0 c0_0, .slice a0_1 n0_1 c0_1, .slice a0_2 n0_2 c0_2, .slice a0_3 n0_3 c0_3] 26 (0, 0)) = w1 at hb hk szw1 ee ⊢
    have EE1 := Lib.hid ee
    clear ee
    replace F0 := Lib.hid (shPipe.below F0.out hb (by omega))
    replace F1 := Lib.hid (shPipe.below F1.out hb (by omega))
    replace T := Lib.hid (T.out.trans (hb.mono (by omega)))
    have AB0 := Lib.hid hk
    clear hb hk
    have hb := (Below.refl w1.heap.size w1).alloc (Nat.le_refl _) (.cells #[.slice a1_0 n1_0 c1_0, .slice a1_1 n1_1 c1_1, .slice a1_2 n1_2 c1_2, .slice a1_3 n1_3 c1_3] 26 (0, 0))
    have hk := heap_alloc_new w1 (.cells #[.slice a1_0 n1_0 c1_0, .slice a1_1 n1_1 c1_1, .slice a1_2 n1_2 c1_2, .slice a1_3 n1_3 c1_3] 26 (0, 0))
    have szw2 : w1.heap.size < (w1.alloc (.cells #[.slice a1_0 n1_0 c1_0, .slice a1_1 n1_1 c1_1, .slice a1_2 n1_2 c1_2, .slice a1_3 n1_3 c1_3] 26 (0, 0))).heap.size := by simp
    have e0 := EE1.out
    rw [e0] at hk
    have ee : (w1.alloc (.cells #[.slice a1_0 n1_0 c1_0, .slice a1_1 n1_1 c1_1, .slice a1_2 n1_2 c1_2, .slice a1_3 n1_3 c1_3] 26 (0, 0))).heap.size = w.heap.size + 2 := by simp; omega
    clear e0
    generalize w1.alloc (.cells #[.slice a1_0 n1_0 c1_0, .slice a1_1 n1_1 c1_1, .slice a1_2 n1_2 c1_2, .slice a1_3 n1_3 c1_3] 26 (0, 0)) = w2 at hb hk szw2 ee ⊢
    have EE2 := Lib.hid ee
    clear ee
    have hq : w.heap.size + 1 < w2.heap.size := by have := EE2.out; omega
    replace F0 := Lib.hid (shPipe.below F0.out hb (by omega))
    replace F1 := Lib.hid (shPipe.below F1.out hb (by omega))
    replace AB0 := Lib.hid ((hb.block w.heap.size (by omega)).trans AB0.out)
    replace T := Lib.hid (T.out.trans (hb.mono (by omega)))
    have AB1 := Lib.hid hk
    clear hb hk
    have hc := szPipe_c _ _ _ x0 (1048576) F0.out (by omega) (by omega) (by omega)
    rw [U0.out, szN_no (by omega)] at hc
    have HC := Lib.hid hc
    clear hc
    refine HC.out.mono ?_
    rintro e w3 ⟨rfl, hb⟩
    clear HC
    have szw3 := hb.size
    replace F0 := Lib.hid (shPipe.below F0.out hb (by omega))
    replace F1 := Lib.hid (shPipe.below F1.out hb (by omega))
    replace AB0 := Lib.hid ((hb.block w.heap.size (by omega)).trans AB0.out)
    replace AB1 := Lib.hid ((hb.block (w.heap.size + 1) (by omega)).trans AB1.out)
    replace T := Lib.hid (T.out.trans (hb.mono (by omega)))
    clear hb
    go_wp2_with fail
    go_ret
    exact ⟨rfl, T.out⟩
end Go.Proofs.Ytcooobnaocbdjaa
