/-
  Exact laws over data with depth: the walks.
-/
import Derived.Test.YtcooobnaocbdjaaGreatJoin29
import Derived.Test.YtcooobnaocbdjaaGreatJoin42
import Derived.Test.YtcooobnaocbdjaaGreatJoin43
import Derived.Deep.DeepCutAuto
import Derived.Deep.RegionLaw
namespace Go.Proofs.YtcooobnaocbdjaaGreat
open Go.RowKit
set_option linter.unusedVariables false
set_option linter.unusedSimpArgs false

set_option maxRecDepth 100000 in
set_option maxHeartbeats 6400000 in
theorem lawPipeOk_any (w : World) (es0 : List Value) (x0 : dPipe) (h0 : shPipe.reads (Under w.heap.size) w es0 x0) :
    Calls Tryz.prog 4 #[(.agg es0.toArray)] w fun e w' => e = .returned (.bool true) ∧ Below w.heap.size w w' := by
  obtain ⟨a0_0, n0_0, c0_0, a0_1, n0_1, c0_1, a0_2, n0_2, c0_2, a0_3, n0_3, c0_3, rfl, -⟩ := shPipe_reads.1 h0
  obtain ⟨u0, hu0⟩ : ∃ u, shPipe.bulk x0 = u := ⟨_, rfl⟩
  have U0 := Lib.hid hu0
  have F0 := Lib.hid h0
  have T := Lib.hid (Below.refl w.heap.size w)
  clear hu0 h0
  by_cases f0 : ((u0 : Nat) : Int) ≤ 1048576
  · go_enter Tryz.func4, Tryz.ntmps4
    go_wp2_with fail
    have hb := (Below.refl w.heap.size w).alloc (Nat.le_refl _) (.cells #[.slice a0_0 n0_0 c0_0, .slice a0_1 n0_1 c0_1, .slice a0_2 n0_2 c0_2, .slice a0_3 n0_3 c0_3] 55 (0, 0))
    have hk := heap_alloc_new w (.cells #[.slice a0_0 n0_0 c0_0, .slice a0_1 n0_1 c0_1, .slice a0_2 n0_2 c0_2, .slice a0_3 n0_3 c0_3] 55 (0, 0))
    have szw1 : w.heap.size < (w.alloc (.cells #[.slice a0_0 n0_0 c0_0, .slice a0_1 n0_1 c0_1, .slice a0_2 n0_2 c0_2, .slice a0_3 n0_3 c0_3] 55 (0, 0))).heap.size := by simp
    have ee : (w.alloc (.cells #[.slice a0_0 n0_0 c0_0, .slice a0_1 n0_1 c0_1, .slice a0_2 n0_2 c0_2, .slice a0_3 n0_3 c0_3] 55 (0, 0))).heap.size = w.heap.size + 1 := by simp
    generalize w.alloc (.cells #[.slice a0_0 n0_0 c0_0, .slice a0_1 n0_1 c0_1, .slice a0_2 n0_2 c0_2, .slice a0_3 n0_3 c0_3] 55 (0, 0)) = w1 at hb hk szw1 ee ⊢
    have EE1 := Lib.hid ee
    clear ee
    replace F0 := Lib.hid (shPipe.below F0.out hb (by omega))
    replace T := Lib.hid (T.out.trans (hb.mono (by omega)))
    have AB0 := Lib.hid hk
    clear hb hk
    have hc := szPipe_c _ _ _ x0 (1048576) F0.out (by omega) (by omega) (by omega)
    rw [U0.out, szN_yes (by omega)] at hc
    obtain ⟨l0, hl0⟩ : ∃ l, 1048576 - (u0 : Int) = l := ⟨_, rfl⟩
    rw [hl0] at hc
    have t0 : decide (l0 < 0) = false := decide_eq_false (by omega)
    have HC := Lib.hid hc
    clear hc
    refine HC.out.mono ?_
    rintro e w2 ⟨rfl, hb⟩
    clear HC
    have szw2 := hb.size
    replace F0 := Lib.hid (shPipe.below F0.out hb (by omega))
    replace AB0 := Lib.hid ((hb.block w.heap.size (by omega)).trans AB0.out)
    replace T := Lib.hid (T.out.trans (hb.mono (by omega)))
    clear hb
    have ub : u0 ≤ 1048576 := by omega
    have HC := Lib.hid (toPipe_c _ _ _ x0 F0.out (by omega) (by rw [U0.out]; omega))
    have za_0 := cell_of_row _ w.heap.size 0 _ _ _ AB0.out
    have za_1 := cell_of_row _ w.heap.size 1 _ _ _ AB0.out
    have za_2 := cell_of_row _ w.heap.size 2 _ _ _ AB0.out
    have za_3 := cell_of_row _ w.heap.size 3 _ _ _ AB0.out
    simp only [List.getElem?_toArray, List.getElem?_cons_zero, List.getElem?_cons_succ] at za_0 za_1 za_2 za_3
    go_wp2_with fail
    clear za_0 za_1 za_2 za_3
    refine HC.out.mono ?_
    rintro e w3 ⟨eY0, rfl, hr, hb⟩
    clear HC
    have szw3 := hb.size
    replace F0 := Lib.hid (shPipe.below F0.out hb (by omega))
    replace AB0 := Lib.hid ((hb.block w.heap.size (by omega)).trans AB0.out)
    replace T := Lib.hid (T.out.trans (hb.mono (by omega)))
    clear hb
    have hY0 := shPipe.under hr
    obtain ⟨aY0_0, nY0_0, cY0_0, aY0_1, nY0_1, cY0_1, aY0_2, nY0_2, cY0_2, aY0_3, nY0_3, cY0_3, rfl, -⟩ := shPipe_reads.1 hY0
    have Y0 := Lib.hid hY0
    clear hr hY0
    obtain ⟨v, hv⟩ : ∃ v, pipeOkB x0 = v := ⟨_, rfl⟩
    have HV := Lib.hid hv
    clear hv
    have hc := specPipeOk_d _ _ x0 (shPipe.le Y0.out (by omega)) (by rw [U0.out]; omega)
    rw [HV.out] at hc
    have HC := Lib.hid hc
    clear hc
    go_wp2_with fail
    refine HC.out.mono ?_
    rintro e w4 ⟨rfl, hb⟩
    clear HC Y0
    have szw4 := hb.size
    replace F0 := Lib.hid (shPipe.below F0.out hb (by omega))
    replace AB0 := Lib.hid ((hb.block w.heap.size (by omega)).trans AB0.out)
    replace T := Lib.hid (T.out.trans (hb.mono (by omega)))
    clear hb
    have HC := Lib.hid (toPipe_c _ _ _ x0 F0.out (by omega) (by rw [U0.out]; omega))
    have za_0 := cell_of_row _ w.heap.size 0 _ _ _ AB0.out
    have za_1 := cell_of_row _ w.heap.size 1 _ _ _ AB0.out
    have za_2 := cell_of_row _ w.heap.size 2 _ _ _ AB0.out
    have za_3 := cell_of_row _ w.heap.size 3 _ _ _ AB0.out
    simp only [List.getElem?_toArray, List.getElem?_cons_zero, List.getElem?_cons_succ] at za_0 za_1 za_2 za_3
    go_wp2_with fail
    clear za_0 za_1 za_2 za_3
    refine HC.out.mono ?_
    rintro e w5 ⟨eX0, rfl, hr, hb⟩
    clear HC
    have szw5 := hb.size
    replace F0 := Lib.hid (shPipe.below F0.out hb (by omega))
    replace AB0 := Lib.hid ((hb.block w.heap.size (by omega)).trans AB0.out)
    replace T := Lib.hid (T.out.trans (hb.mono (by omega)))
    clear hb
    have hX0 := shPipe.under hr
    obtain ⟨aX0_0, nX0_0, cX0_0, aX0_1, nX0_1, cX0_1, aX0_2, nX0_2, cX0_2, aX0_3, nX0_3, cX0_3, rfl, -⟩ := shPipe_reads.1 hX0
    have X0 := Lib.hid hX0
    clear hr hX0
    go_wp2_with fail
    have hb := (Below.refl w5.heap.size w5).alloc (Nat.le_refl _) (.cells #[.slice aX0_0 nX0_0 cX0_0, .slice aX0_1 nX0_1 cX0_1, .slice aX0_2 nX0_2 cX0_2, .slice aX0_3 nX0_3 cX0_3] 36 (0, 0))
    have hk := heap_alloc_new w5 (.cells #[.slice aX0_0 nX0_0 cX0_0, .slice aX0_1 nX0_1 cX0_1, .slice aX0_2 nX0_2 cX0_2, .slice aX0_3 nX0_3 cX0_3] 36 (0, 0))
    have szw6 : w5.heap.size < (w5.alloc (.cells #[.slice aX0_0 nX0_0 cX0_0, .slice aX0_1 nX0_1 cX0_1, .slice aX0_2 nX0_2 cX0_2, .slice aX0_3 nX0_3 cX0_3] 36 (0, 0))).heap.size := by simp
    generalize w5.alloc (.cells #[.slice aX0_0 nX0_0 cX0_0, .slice aX0_1 nX0_1 cX0_1, .slice aX0_2 nX0_2 cX0_2, .slice aX0_3 nX0_3 cX0_3] 36 (0, 0)) = w6 at hb hk szw6 ⊢
    replace F0 := Lib.hid (shPipe.below F0.out hb (by omega))
    replace AB0 := Lib.hid ((hb.block w.heap.size (by omega)).trans AB0.out)
    replace X0 := Lib.hid (shPipe.below X0.out hb (by omega))
    replace T := Lib.hid (T.out.trans (hb.mono (by omega)))
    have XB0 := Lib.hid hk
    clear hb hk
    have hc := implPipeOk_d _ _ x0 (shPipe.le X0.out (by omega)) (by rw [U0.out]; omega)
    rw [HV.out] at hc
    have HC := Lib.hid hc
    clear hc
    have zx0_0 := cell_of_row _ w5.heap.size 0 _ _ _ XB0.out
    have zx0_1 := cell_of_row _ w5.heap.size 1 _ _ _ XB0.out
    have zx0_2 := cell_of_row _ w5.heap.size 2 _ _ _ XB0.out
    have zx0_3 := cell_of_row _ w5.heap.size 3 _ _ _ XB0.out
    simp only [List.getElem?_toArray, List.getElem?_cons_zero, List.getElem?_cons_succ] at zx0_0 zx0_1 zx0_2 zx0_3
    try go_wp2_with fail
    clear zx0_0 zx0_1 zx0_2 zx0_3
    refine HC.out.mono ?_
    rintro e w7 ⟨rfl, hb⟩
    clear HC
    have szw7 := hb.size
    replace F0 := Lib.hid (shPipe.below F0.out hb (by omega))
    replace AB0 := Lib.hid ((hb.block w.heap.size (by omega)).trans AB0.out)
    replace X0 := Lib.hid (shPipe.below X0.out hb (by omega))
    replace XB0 := Lib.hid ((hb.block w5.heap.size (by omega)).trans XB0.out)
    replace T := Lib.hid (T.out.trans (hb.mono (by omega)))
    clear hb
    have zx_0 := cell_of_row _ w5.heap.size 0 _ _ _ XB0.out
    have zx_1 := cell_of_row _ w5.heap.size 1 _ _ _ XB0.out
    have zx_2 := cell_of_row _ w5.heap.size 2 _ _ _ XB0.out
    have zx_3 := cell_of_row _ w5.heap.size 3 _ _ _ XB0.out
    simp only [List.getElem?_toArray, List.getElem?_cons_zero, List.getElem?_cons_succ] at zx_0 zx_1 zx_2 zx_3
    have za_0 := cell_of_row _ w.heap.size 0 _ _ _ AB0.out
    have za_1 := cell_of_row _ w.heap.size 1 _ _ _ AB0.out
    have za_2 := cell_of_row _ w.heap.size 2 _ _ _ AB0.out
    have za_3 := cell_of_row _ w.heap.size 3 _ _ _ AB0.out
    simp only [List.getElem?_toArray, List.getElem?_cons_zero, List.getElem?_cons_succ] at za_0 za_1 za_2 za_3
    go_upto_region 10 with fail
    go_cut [26] (fun t wx => t = .bool false ∧ Below w7.heap.size w7 wx)
    case first =>
      have hdr : Below w7.heap.size w7 w7.drew := (Below.refl _ _).drew
      have FD := Lib.hid (shPipe.below F0.out hdr (by omega))
      have XD := Lib.hid (shPipe.below X0.out hdr (by omega))
      have DR := Lib.hid hdr
      have szd : w7.heap.size ≤ w7.drew.heap.size := hdr.size
      have XBD : Hid (w7.drew.heap[w5.heap.size]? = _) := Lib.hid XB0.out
      clear hdr
      have HC1 := Lib.hid (toPipe_c w7.drew _ _ x0 FD.out (by omega) (by rw [U0.out]; omega))
      have HC2 := Lib.hid fun (w1 : World) (es : List Value) (hb : Below w7.drew.heap.size w7.drew w1) (hr : shPipe.reads (From w7.drew.heap.size w1.heap.size) w1 es x0) => eqPipe_c w1 _ _ _ es x0 (shPipe.below XD.out hb (by omega)) (shPipe.under hr) (by have := hb.size; omega) (Nat.le_refl _) (smallPipe_of (by rw [U0.out]; omega))
      go_region_law (first
        | (go_simp; go_at_call 20; (with_reducible refine HC1.out.mono ?_); rintro e wt ⟨eg, rfl, hr, hb⟩; have hq := HC2.out wt eg hb hr; have zz_0 := cell_of_row _ w5.heap.size 0 _ _ _ ((hb.block w5.heap.size (by omega)).trans XBD.out); have zz_1 := cell_of_row _ w5.heap.size 1 _ _ _ ((hb.block w5.heap.size (by omega)).trans XBD.out); have zz_2 := cell_of_row _ w5.heap.size 2 _ _ _ ((hb.block w5.heap.size (by omega)).trans XBD.out); have zz_3 := cell_of_row _ w5.heap.size 3 _ _ _ ((hb.block w5.heap.size (by omega)).trans XBD.out); simp only [List.getElem?_toArray, List.getElem?_cons_zero, List.getElem?_cons_succ] at zz_0 zz_1 zz_2 zz_3; obtain ⟨ag_0, ng_0, cg_0, ag_1, ng_1, cg_1, ag_2, ng_2, cg_2, ag_3, ng_3, cg_3, rfl, -⟩ := shPipe_reads.1 hr; have HQ := Lib.hid hq; have HBT := Lib.hid hb; have szt := hb.size; clear hb hr hq)
        | (go_simp; go_at_call 11; (with_reducible refine HQ.out.mono ?_); rintro e wq ⟨rfl, hb⟩; have BQ := Lib.hid (DR.out.trans ((HBT.out.mono szd).trans (hb.mono (by omega)))); clear hb))
      all_goals
        go_wp2_with fail
        go_meet
        case rel => exact ⟨rfl, BQ.out⟩
    case rest =>
      obtain ⟨rfl, hb⟩ := hcut
      clear zx_0 zx_1 zx_2 zx_3
      clear za_0 za_1 za_2 za_3
      obtain ⟨w8, rfl⟩ : ∃ x, x = wc := ⟨_, rfl⟩
      have szw8 := hb.size
      replace F0 := Lib.hid (shPipe.below F0.out hb (by omega))
      replace AB0 := Lib.hid ((hb.block w.heap.size (by omega)).trans AB0.out)
      replace X0 := Lib.hid (shPipe.below X0.out hb (by omega))
      replace XB0 := Lib.hid ((hb.block w5.heap.size (by omega)).trans XB0.out)
      replace T := Lib.hid (T.out.trans (hb.mono (by omega)))
      clear hb
      go_wp2_with fail
      go_ret
      exact ⟨rfl, T.out⟩
  · go_enter Tryz.func4, Tryz.ntmps4
    go_wp2_with fail
    have hb := (Below.refl w.heap.size w).alloc (Nat.le_refl _) (.cells #[.slice a0_0 n0_0 c0_0, .slice a0_1 n0_1 c0_1, .slice a0_2 n0_2 c0_2, .slice a0_3 n0_3 c0_3] 55 (0, 0))
    have hk := heap_alloc_new w (.cells #[.slice a0_0 n0_0 c0_0, .slice a0_1 n0_1 c0_1, .slice a0_2 n0_2 c0_2, .slice a0_3 n0_3 c0_3] 55 (0, 0))
    have szw1 : w.heap.size < (w.alloc (.cells #[.slice a0_0 n0_0 c0_0, .slice a0_1 n0_1 c0_1, .slice a0_2 n0_2 c0_2, .slice a0_3 n0_3 c0_3] 55 (0, 0))).heap.size := by simp
    have ee : (w.alloc (.cells #[.slice a0_0 n0_0 c0_0, .slice a0_1 n0_1 c0_1, .slice a0_2 n0_2 c0_2, .slice a0_3 n0_3 c0_3] 55 (0, 0))).heap.size = w.heap.size + 1 := by simp
    generalize w.alloc (.cells #[.slice a0_0 n0_0 c0_0, .slice a0_1 n0_1 c0_1, .slice a0_2 n0_2 c0_2, .slice a0_3 n0_3 c0_3] 55 (0, 0)) = w1 at hb hk szw1 ee ⊢
    have EE1 := Lib.hid ee
    clear ee
    replace F0 := Lib.hid (shPipe.below F0.out hb (by omega))
    replace T := Lib.hid (T.out.trans (hb.mono (by omega)))
    have AB0 := Lib.hid hk
    clear hb hk
    have hc := szPipe_c _ _ _ x0 (1048576) F0.out (by omega) (by omega) (by omega)
    rw [U0.out, szN_no (by omega)] at hc
    have HC := Lib.hid hc
    clear hc
    refine HC.out.mono ?_
    rintro e w2 ⟨rfl, hb⟩
    clear HC
    have szw2 := hb.size
    replace F0 := Lib.hid (shPipe.below F0.out hb (by omega))
    replace AB0 := Lib.hid ((hb.block w.heap.size (by omega)).trans AB0.out)
    replace T := Lib.hid (T.out.trans (hb.mono (by omega)))
    clear hb
    go_wp2_with fail
    go_ret
    exact ⟨rfl, T.out⟩
end Go.Proofs.YtcooobnaocbdjaaGreat
