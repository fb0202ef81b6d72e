/-
  Exact laws over data with depth: the walks.
-/
import Derived.Test.YtpnifgpmleaohaaStgD
import Derived.Test.YtpnifgpmleaohaaStgOk
import Derived.Test.YtpnifgpmleaohaaStgI
import Derived.Test.YtpnifgpmleaohaaOpen
import Derived.Deep.DeepCutAuto
import Derived.Deep.RegionLaw
namespace Go.Proofs.Ytpnifgpmleaohaa
open Go.RowKit
set_option linter.unusedVariables false
set_option linter.unusedSimpArgs false

set_option maxRecDepth 100000 in
set_option maxHeartbeats 6400000 in
theorem lawStageOk_any (w : World) (es0 : List Value) (x0 : dStage) (h0 : shStage.reads (Under w.heap.size) w es0 x0) :
    Calls Try.prog 4 #[(.agg es0.toArray)] w fun e w' => e = .returned (.bool true) ∧ Below w.heap.size w w' := by
  obtain ⟨a0_0, n0_0, c0_0, a0_1, n0_1, c0_1, a0_2, n0_2, c0_2, a0_3, n0_3, c0_3, a0_4, n0_4, c0_4, a0_5, n0_5, c0_5, a0_6, n0_6, c0_6, a0_7, n0_7, c0_7, a0_8, n0_8, c0_8, rfl, -⟩ := shStage_reads.1 h0
  obtain ⟨u0, hu0⟩ : ∃ u, shStage.bulk x0 = u := ⟨_, rfl⟩
  have U0 := Lib.hid hu0
  have F0 := Lib.hid h0
  have T := Lib.hid (Below.refl w.heap.size w)
  clear hu0 h0
  by_cases f0 : ((u0 : Nat) : Int) ≤ 1048576
  · go_enter Try.func4, Try.ntmps4
    go_wp2_with fail
    have hb := (Below.refl w.heap.size w).alloc (Nat.le_refl _) (.cells #[.int .i64 x0.1, .slice a0_0 n0_0 c0_0, .slice a0_1 n0_1 c0_1, .bool x0.2.2.2.1, .bool x0.2.2.2.2.1, .slice a0_2 n0_2 c0_2, .slice a0_3 n0_3 c0_3, .slice a0_4 n0_4 c0_4, .slice a0_5 n0_5 c0_5, .slice a0_6 n0_6 c0_6, .slice a0_7 n0_7 c0_7, .slice a0_8 n0_8 c0_8, .int .i64 x0.2.2.2.2.2.2.2.2.2.2.2.2.1, .bool x0.2.2.2.2.2.2.2.2.2.2.2.2.2] 50 (0, 0))
    have hk := heap_alloc_new w (.cells #[.int .i64 x0.1, .slice a0_0 n0_0 c0_0, .slice a0_1 n0_1 c0_1, .bool x0.2.2.2.1, .bool x0.2.2.2.2.1, .slice a0_2 n0_2 c0_2, .slice a0_3 n0_3 c0_3, .slice a0_4 n0_4 c0_4, .slice a0_5 n0_5 c0_5, .slice a0_6 n0_6 c0_6, .slice a0_7 n0_7 c0_7, .slice a0_8 n0_8 c0_8, .int .i64 x0.2.2.2.2.2.2.2.2.2.2.2.2.1, .bool x0.2.2.2.2.2.2.2.2.2.2.2.2.2] 50 (0, 0))
    have szw1 : w.heap.size < (w.alloc (.cells #[.int .i64 x0.1, .slice a0_0 n0_0 c0_0, .slice a0_1 n0_1 c0_1, .bool x0.2.2.2.1, .bool x0.2.2.2.2.1, .slice a0_2 n0_2 c0_2, .slice a0_3 n0_3 c0_3, .slice a0_4 n0_4 c0_4, .slice a0_5 n0_5 c0_5, .slice a0_6 n0_6 c0_6, .slice a0_7 n0_7 c0_7, .slice a0_8 n0_8 c0_8, .int .i64 x0.2.2.2.2.2.2.2.2.2.2.2.2.1, .bool x0.2.2.2.2.2.2.2.2.2.2.2.2.2] 50 (0, 0))).heap.size := by simp
    have ee : (w.alloc (.cells #[.int .i64 x0.1, .slice a0_0 n0_0 c0_0, .slice a0_1 n0_1 c0_1, .bool x0.2.2.2.1, .bool x0.2.2.2.2.1, .slice a0_2 n0_2 c0_2, .slice a0_3 n0_3 c0_3, .slice a0_4 n0_4 c0_4, .slice a0_5 n0_5 c0_5, .slice a0_6 n0_6 c0_6, .slice a0_7 n0_7 c0_7, .slice a0_8 n0_8 c0_8, .int .i64 x0.2.2.2.2.2.2.2.2.2.2.2.2.1, .bool x0.2.2.2.2.2.2.2.2.2.2.2.2.2] 50 (0, 0))).heap.size = w.heap.size + 1 := by simp
    generalize w.alloc (.cells #[.int .i64 x0.1, .slice a0_0 n0_0 c0_0, .slice a0_1 n0_1 c0_1, .bool x0.2.2.2.1, .bool x0.2.2.2.2.1, .slice a0_2 n0_2 c0_2, .slice a0_3 n0_3 c0_3, .slice a0_4 n0_4 c0_4, .slice a0_5 n0_5 c0_5, .slice a0_6 n0_6 c0_6, .slice a0_7 n0_7 c0_7, .slice a0_8 n0_8 c0_8, .int .i64 x0.2.2.2.2.2.2.2.2.2.2.2.2.1, .bool x0.2.2.2.2.2.2.2.2.2.2.2.2.2] 50 (0, 0)) = w1 at hb hk szw1 ee ⊢
    have EE1 := Lib.hid ee
    clear ee
    replace F0 := Lib.hid (shStage.below F0.out hb (by omega))
    replace T := Lib.hid (T.out.trans (hb.mono (by omega)))
    have AB0 := Lib.hid hk
    clear hb hk
    have hc := szStage_c _ _ _ x0 (1048576) F0.out (by omega) (by omega) (by omega)
    rw [U0.out, szN_yes (by omega)] at hc
    obtain ⟨l0, hl0⟩ : ∃ l, 1048576 - (u0 : Int) = l := ⟨_, rfl⟩
    rw [hl0] at hc
    have t0 : decide (l0 < 0) = false := decide_eq_false (by omega)
    have HC := Lib.hid hc
    clear hc
    refine HC.out.mono ?_
    rintro e w2 ⟨rfl, hb⟩
    clear HC
    have szw2 := hb.size
    replace F0 := Lib.hid (shStage.below F0.out hb (by omega))
    replace AB0 := Lib.hid ((hb.block w.heap.size (by omega)).trans AB0.out)
    replace T := Lib.hid (T.out.trans (hb.mono (by omega)))
    clear hb
    have ub : u0 ≤ 1048576 := by omega
    have HC := Lib.hid (toStage_c _ _ _ x0 F0.out (by omega) (by rw [U0.out]; omega))
    have za_0 := cell_of_row _ w.heap.size 0 _ _ _ AB0.out
    have za_1 := cell_of_row _ w.heap.size 1 _ _ _ AB0.out
    have za_2 := cell_of_row _ w.heap.size 2 _ _ _ AB0.out
    have za_3 := cell_of_row _ w.heap.size 3 _ _ _ AB0.out
    have za_4 := cell_of_row _ w.heap.size 4 _ _ _ AB0.out
    have za_5 := cell_of_row _ w.heap.size 5 _ _ _ AB0.out
    have za_6 := cell_of_row _ w.heap.size 6 _ _ _ AB0.out
    have za_7 := cell_of_row _ w.heap.size 7 _ _ _ AB0.out
    have za_8 := cell_of_row _ w.heap.size 8 _ _ _ AB0.out
    have za_9 := cell_of_row _ w.heap.size 9 _ _ _ AB0.out
    have za_10 := cell_of_row _ w.heap.size 10 _ _ _ AB0.out
    have za_11 := cell_of_row _ w.heap.size 11 _ _ _ AB0.out
    have za_12 := cell_of_row _ w.heap.size 12 _ _ _ AB0.out
    have za_13 := cell_of_row _ w.heap.size 13 _ _ _ AB0.out
    simp only [List.getElem?_toArray, List.getElem?_cons_zero, List.getElem?_cons_succ] at za_0 za_1 za_2 za_3 za_4 za_5 za_6 za_7 za_8 za_9 za_10 za_11 za_12 za_13
    go_wp2_with fail
    clear za_0 za_1 za_2 za_3 za_4 za_5 za_6 za_7 za_8 za_9 za_10 za_11 za_12 za_13
    refine HC.out.mono ?_
    rintro e w3 ⟨eY0, rfl, hr, hb⟩
    clear HC
    have szw3 := hb.size
    replace F0 := Lib.hid (shStage.below F0.out hb (by omega))
    replace AB0 := Lib.hid ((hb.block w.heap.size (by omega)).trans AB0.out)
    replace T := Lib.hid (T.out.trans (hb.mono (by omega)))
    clear hb
    have hY0 := shStage.under hr
    obtain ⟨aY0_0, nY0_0, cY0_0, aY0_1, nY0_1, cY0_1, aY0_2, nY0_2, cY0_2, aY0_3, nY0_3, cY0_3, aY0_4, nY0_4, cY0_4, aY0_5, nY0_5, cY0_5, aY0_6, nY0_6, cY0_6, aY0_7, nY0_7, cY0_7, aY0_8, nY0_8, cY0_8, rfl, -⟩ := shStage_reads.1 hY0
    have Y0 := Lib.hid hY0
    clear hr hY0
    obtain ⟨v, hv⟩ : ∃ v, stageOkB x0 = v := ⟨_, rfl⟩
    have HV := Lib.hid hv
    clear hv
    have hc := specStageOk_d _ _ x0 (shStage.le Y0.out (by omega)) (by rw [U0.out]; omega)
    rw [HV.out] at hc
    have HC := Lib.hid hc
    clear hc
    go_wp2_with fail
    refine HC.out.mono ?_
    rintro e w4 ⟨rfl, hb⟩
    clear HC Y0
    have szw4 := hb.size
    replace F0 := Lib.hid (shStage.below F0.out hb (by omega))
    replace AB0 := Lib.hid ((hb.block w.heap.size (by omega)).trans AB0.out)
    replace T := Lib.hid (T.out.trans (hb.mono (by omega)))
    clear hb
    have HC := Lib.hid (toStage_c _ _ _ x0 F0.out (by omega) (by rw [U0.out]; omega))
    have za_0 := cell_of_row _ w.heap.size 0 _ _ _ AB0.out
    have za_1 := cell_of_row _ w.heap.size 1 _ _ _ AB0.out
    have za_2 := cell_of_row _ w.heap.size 2 _ _ _ AB0.out
    have za_3 := cell_of_row _ w.heap.size 3 _ _ _ AB0.out
    have za_4 := cell_of_row _ w.heap.size 4 _ _ _ AB0.out
    have za_5 := cell_of_row _ w.heap.size 5 _ _ _ AB0.out
    have za_6 := cell_of_row _ w.heap.size 6 _ _ _ AB0.out
    have za_7 := cell_of_row _ w.heap.size 7 _ _ _ AB0.out
    have za_8 := cell_of_row _ w.heap.size 8 _ _ _ AB0.out
    have za_9 := cell_of_row _ w.heap.size 9 _ _ _ AB0.out
    have za_10 := cell_of_row _ w.heap.size 10 _ _ _ AB0.out
    have za_11 := cell_of_row _ w.heap.size 11 _ _ _ AB0.out
    have za_12 := cell_of_row _ w.heap.size 12 _ _ _ AB0.out
    have za_13 := cell_of_row _ w.heap.size 13 _ _ _ AB0.out
    simp only [List.getElem?_toArray, List.getElem?_cons_zero, List.getElem?_cons_succ] at za_0 za_1 za_2 za_3 za_4 za_5 za_6 za_7 za_8 za_9 za_10 za_11 za_12 za_13
    go_wp2_with fail
    clear za_0 za_1 za_2 za_3 za_4 za_5 za_6 za_7 za_8 za_9 za_10 za_11 za_12 za_13
    refine HC.out.mono ?_
    rintro e w5 ⟨eX0, rfl, hr, hb⟩
    clear HC
    have szw5 := hb.size
    replace F0 := Lib.hid (shStage.below F0.out hb (by omega))
    replace AB0 := Lib.hid ((hb.block w.heap.size (by omega)).trans AB0.out)
    replace T := Lib.hid (T.out.trans (hb.mono (by omega)))
    clear hb
    have hX0 := shStage.under hr
    obtain ⟨aX0_0, nX0_0, cX0_0, aX0_1, nX0_1, cX0_1, aX0_2, nX0_2, cX0_2, aX0_3, nX0_3, cX0_3, aX0_4, nX0_4, cX0_4, aX0_5, nX0_5, cX0_5, aX0_6, nX0_6, cX0_6, aX0_7, nX0_7, cX0_7, aX0_8, nX0_8, cX0_8, rfl, -⟩ := shStage_reads.1 hX0
    have X0 := Lib.hid hX0
    clear hr hX0
    go_wp2_with fail
    have hb := (Below.refl w5.heap.size w5).alloc (Nat.le_refl _) (.cells #[.int .i64 x0.1, .slice aX0_0 nX0_0 cX0_0, .slice aX0_1 nX0_1 cX0_1, .bool x0.2.2.2.1, .bool x0.2.2.2.2.1, .slice aX0_2 nX0_2 cX0_2, .slice aX0_3 nX0_3 cX0_3, .slice aX0_4 nX0_4 cX0_4, .slice aX0_5 nX0_5 cX0_5, .slice aX0_6 nX0_6 cX0_6, .slice aX0_7 nX0_7 cX0_7, .slice aX0_8 nX0_8 cX0_8, .int .i64 x0.2.2.2.2.2.2.2.2.2.2.2.2.1, .bool x0.2.2.2.2.2.2.2.2.2.2.2.2.2] 34 (0, 0))
    have hk := heap_alloc_new w5 (.cells #[.int .i64 x0.1, .slice aX0_0 nX0_0 cX0_0, .slice aX0_1 nX0_1 cX0_1, .bool x0.2.2.2.1, .bool x0.2.2.2.2.1, .slice aX0_2 nX0_2 cX0_2, .slice aX0_3 nX0_3 cX0_3, .slice aX0_4 nX0_4 cX0_4, .slice aX0_5 nX0_5 cX0_5, .slice aX0_6 nX0_6 cX0_6, .slice aX0_7 nX0_7 cX0_7, .slice aX0_8 nX0_8 cX0_8, .int .i64 x0.2.2.2.2.2.2.2.2.2.2.2.2.1, .bool x0.2.2.2.2.2.2.2.2.2.2.2.2.2] 34 (0, 0))
    have szw6 : w5.heap.size < (w5.alloc (.cells #[.int .i64 x0.1, .slice aX0_0 nX0_0 cX0_0, .slice aX0_1 nX0_1 cX0_1, .bool x0.2.2.2.1, .bool x0.2.2.2.2.1, .slice aX0_2 nX0_2 cX0_2, .slice aX0_3 nX0_3 cX0_3, .slice aX0_4 nX0_4 cX0_4, .slice aX0_5 nX0_5 cX0_5, .slice aX0_6 nX0_6 cX0_6, .slice aX0_7 nX0_7 cX0_7, .slice aX0_8 nX0_8 cX0_8, .int .i64 x0.2.2.2.2.2.2.2.2.2.2.2.2.1, .bool x0.2.2.2.2.2.2.2.2.2.2.2.2.2] 34 (0, 0))).heap.size := by simp
    generalize w5.alloc (.cells #[.int .i64 x0.1, .slice aX0_0 nX0_0 cX0_0, .slice aX0_1 nX0_1 cX0_1, .bool x0.2.2.2.1, .bool x0.2.2.2.2.1, .slice aX0_2 nX0_2 cX0_2, .slice aX0_3 nX0_3 cX0_3, .slice aX0_4 nX0_4 cX0_4, .slice aX0_5 nX0_5 cX0_5, .slice aX0_6 nX0_6 cX0_6, .slice aX0_7 nX0_7 cX0_7, .slice aX0_8 nX0_8 cX0_8, .int .i64 x0.2.2.2.2.2.2.2.2.2.2.2.2.1, .bool x0.2.2.2.2.2.2.2.2.2.2.2.2.2] 34 (0, 0)) = w6 at hb hk szw6 ⊢
    replace F0 := Lib.hid (shStage.below F0.out hb (by omega))
    replace AB0 := Lib.hid ((hb.block w.heap.size (by omega)).trans AB0.out)
    replace X0 := Lib.hid (shStage.below X0.out hb (by omega))
    replace T := Lib.hid (T.out.trans (hb.mono (by omega)))
    have XB0 := Lib.hid hk
    clear hb hk
    have hc := implStageOk_d _ _ x0 (shStage.le X0.out (by omega)) (by rw [U0.out]; omega)
    rw [HV.out] at hc
    have HC := Lib.hid hc
    clear hc
    have zx0_0 := cell_of_row _ w5.heap.size 0 _ _ _ XB0.out
    have zx0_1 := cell_of_row _ w5.heap.size 1 _ _ _ XB0.out
    have zx0_2 := cell_of_row _ w5.heap.size 2 _ _ _ XB0.out
    have zx0_3 := cell_of_row _ w5.heap.size 3 _ _ _ XB0.out
    have zx0_4 := cell_of_row _ w5.heap.size 4 _ _ _ XB0.out
    have zx0_5 := cell_of_row _ w5.heap.size 5 _ _ _ XB0.out
    have zx0_6 := cell_of_row _ w5.heap.size 6 _ _ _ XB0.out
    have zx0_7 := cell_of_row _ w5.heap.size 7 _ _ _ XB0.out
    have zx0_8 := cell_of_row _ w5.heap.size 8 _ _ _ XB0.out
    have zx0_9 := cell_of_row _ w5.heap.size 9 _ _ _ XB0.out
    have zx0_10 := cell_of_row _ w5.heap.size 10 _ _ _ XB0.out
    have zx0_11 := cell_of_row _ w5.heap.size 11 _ _ _ XB0.out
    have zx0_12 := cell_of_row _ w5.heap.size 12 _ _ _ XB0.out
    have zx0_13 := cell_of_row _ w5.heap.size 13 _ _ _ XB0.out
    simp only [List.getElem?_toArray, List.getElem?_cons_zero, List.getElem?_cons_succ] at zx0_0 zx0_1 zx0_2 zx0_3 zx0_4 zx0_5 zx0_6 zx0_7 zx0_8 zx0_9 zx0_10 zx0_11 zx0_12 zx0_13
    try go_wp2_with fail
    clear zx0_0 zx0_1 zx0_2 zx0_3 zx0_4 zx0_5 zx0_6 zx0_7 zx0_8 zx0_9 zx0_10 zx0_11 zx0_12 zx0_13
    refine HC.out.mono ?_
    rintro e w7 ⟨rfl, hb⟩
    clear HC
    have szw7 := hb.size
    replace F0 := Lib.hid (shStage.below F0.out hb (by omega))
    replace AB0 := Lib.hid ((hb.block w.heap.size (by omega)).trans AB0.out)
    replace X0 := Lib.hid (shStage.below X0.out hb (by omega))
    replace XB0 := Lib.hid ((hb.block w5.heap.size (by omega)).trans XB0.out)
    replace T := Lib.hid (T.out.trans (hb.mono (by omega)))
    clear hb
    have zx_0 := cell_of_row _ w5.heap.size 0 _ _ _ XB0.out
    have zx_1 := cell_of_row _ w5.heap.size 1 _ _ _ XB0.out
    have zx_2 := cell_of_row _ w5.heap.size 2 _ _ _ XB0.out
    have zx_3 := cell_of_row _ w5.heap.size 3 _ _ _ XB0.out
    have zx_4 := cell_of_row _ w5.heap.size 4 _ _ _ XB0.out
    have zx_5 := cell_of_row _ w5.heap.size 5 _ _ _ XB0.out
    have zx_6 := cell_of_row _ w5.heap.size 6 _ _ _ XB0.out
    have zx_7 := cell_of_row _ w5.heap.size 7 _ _ _ XB0.out
    have zx_8 := cell_of_row _ w5.heap.size 8 _ _ _ XB0.out
    have zx_9 := cell_of_row _ w5.heap.size 9 _ _ _ XB0.out
    have zx_10 := cell_of_row _ w5.heap.size 10 _ _ _ XB0.out
    have zx_11 := cell_of_row _ w5.heap.size 11 _ _ _ XB0.out
    have zx_12 := cell_of_row _ w5.heap.size 12 _ _ _ XB0.out
    have zx_13 := cell_of_row _ w5.heap.size 13 _ _ _ XB0.out
    simp only [List.getElem?_toArray, List.getElem?_cons_zero, List.getElem?_cons_succ] at zx_0 zx_1 zx_2 zx_3 zx_4 zx_5 zx_6 zx_7 zx_8 zx_9 zx_10 zx_11 zx_12 zx_13
    have za_0 := cell_of_row _ w.heap.size 0 _ _ _ AB0.out
    have za_1 := cell_of_row _ w.heap.size 1 _ _ _ AB0.out
    have za_2 := cell_of_row _ w.heap.size 2 _ _ _ AB0.out
    have za_3 := cell_of_row _ w.heap.size 3 _ _ _ AB0.out
    have za_4 := cell_of_row _ w.heap.size 4 _ _ _ AB0.out
    have za_5 := cell_of_row _ w.heap.size 5 _ _ _ AB0.out
    have za_6 := cell_of_row _ w.heap.size 6 _ _ _ AB0.out
    have za_7 := cell_of_row _ w.heap.size 7 _ _ _ AB0.out
    have za_8 := cell_of_row _ w.heap.size 8 _ _ _ AB0.out
    have za_9 := cell_of_row _ w.heap.size 9 _ _ _ AB0.out
    have za_10 := cell_of_row _ w.heap.size 10 _ _ _ AB0.out
    have za_11 := cell_of_row _ w.heap.size 11 _ _ _ AB0.out
    have za_12 := cell_of_row _ w.heap.size 12 _ _ _ AB0.out
    have za_13 := cell_of_row _ w.heap.size 13 _ _ _ AB0.out
    simp only [List.getElem?_toArray, List.getElem?_cons_zero, List.getElem?_cons_succ] at za_0 za_1 za_2 za_3 za_4 za_5 za_6 za_7 za_8 za_9 za_10 za_11 za_12 za_13
    go_upto_region 10 with fail
    go_cut [26] (fun t wx => t = .bool false ∧ Below w7.heap.size w7 wx)
    case first =>
      have hdr : Below w7.heap.size w7 w7.drew := (Below.refl _ _).drew
      have FD := Lib.hid (shStage.below F0.out hdr (by omega))
      have XD := Lib.hid (shStage.below X0.out hdr (by omega))
      have DR := Lib.hid hdr
      have szd : w7.heap.size ≤ w7.drew.heap.size := hdr.size
      have XBD : Hid (w7.drew.heap[w5.heap.size]? = _) := Lib.hid XB0.out
      clear hdr
      have HC1 := Lib.hid (toStage_c w7.drew _ _ x0 FD.out (by omega) (by rw [U0.out]; omega))
      have HC2 := Lib.hid fun (w1 : World) (es : List Value) (hb : Below w7.drew.heap.size w7.drew w1) (hr : shStage.reads (From w7.drew.heap.size w1.heap.size) w1 es x0) => eqStage_c w1 _ _ _ es x0 (shStage.below XD.out hb (by omega)) (shStage.under hr) (by have := hb.size; omega) (Nat.le_refl _) (smallStage_of (by rw [U0.out]; omega))
      go_region_law (first
        | (go_simp; go_at_call 22; (with_reducible refine HC1.out.mono ?_); rintro e wt ⟨eg, rfl, hr, hb⟩; have hq := HC2.out wt eg hb hr; have zz_0 := cell_of_row _ w5.heap.size 0 _ _ _ ((hb.block w5.heap.size (by omega)).trans XBD.out); have zz_1 := cell_of_row _ w5.heap.size 1 _ _ _ ((hb.block w5.heap.size (by omega)).trans XBD.out); have zz_2 := cell_of_row _ w5.heap.size 2 _ _ _ ((hb.block w5.heap.size (by omega)).trans XBD.out); have zz_3 := cell_of_row _ w5.heap.size 3 _ _ _ ((hb.block w5.heap.size (by omega)).trans XBD.out); have zz_4 := cell_of_row _ w5.heap.size 4 _ _ _ ((hb.block w5.heap.size (by omega)).trans XBD.out); have zz_5 := cell_of_row _ w5.heap.size 5 _ _ _ ((hb.block w5.heap.size (by omega)).trans XBD.out); have zz_6 := cell_of_row _ w5.heap.size 6 _ _ _ ((hb.block w5.heap.size (by omega)).trans XBD.out); have zz_7 := cell_of_row _ w5.heap.size 7 _ _ _ ((hb.block w5.heap.size (by omega)).trans XBD.out); have zz_8 := cell_of_row _ w5.heap.size 8 _ _ _ ((hb.block w5.heap.size (by omega)).trans XBD.out); have zz_9 := cell_of_row _ w5.heap.size 9 _ _ _ ((hb.block w5.heap.size (by omega)).trans XBD.out); have zz_10 := cell_of_row _ w5.heap.size 10 _ _ _ ((hb.block w5.heap.size (by omega)).trans XBD.out); have zz_11 := cell_of_row _ w5.heap.size 11 _ _ _ ((hb.block w5.heap.size (by omega)).trans XBD.out); have zz_12 := cell_of_row _ w5.heap.size 12 _ _ _ ((hb.block w5.heap.size (by omega)).trans XBD.out); have zz_13 := cell_of_row _ w5.heap.size 13 _ _ _ ((hb.block w5.heap.size (by omega)).trans XBD.out); simp only [List.getElem?_toArray, List.getElem?_cons_zero, List.getElem?_cons_succ] at zz_0 zz_1 zz_2 zz_3 zz_4 zz_5 zz_6 zz_7 zz_8 zz_9 zz_10 zz_11 zz_12 zz_13; obtain ⟨ag_0, ng_0, cg_0, ag_1, ng_1, cg_1, ag_2, ng_2, cg_2, ag_3, ng_3, cg_3, ag_4, ng_4, cg_4, ag_5, ng_5, cg_5, ag_6, ng_6, cg_6, ag_7, ng_7, cg_7, ag_8, ng_8, cg_8, rfl, -⟩ := shStage_reads.1 hr; have HQ := Lib.hid hq; have HBT := Lib.hid hb; have szt := hb.size; clear hb hr hq)
        | (go_simp; go_at_call 13; (with_reducible refine HQ.out.mono ?_); rintro e wq ⟨rfl, hb⟩; have BQ := Lib.hid (DR.out.trans ((HBT.out.mono szd).trans (hb.mono (by omega)))); clear hb))
      all_goals
        go_wp2_with fail
        go_meet
        case rel => exact ⟨rfl, BQ.out⟩
    case rest =>
      obtain ⟨rfl, hb⟩ := hcut
      clear zx_0 zx_1 zx_2 zx_3 zx_4 zx_5 zx_6 zx_7 zx_8 zx_9 zx_10 zx_11 zx_12 zx_13
      clear za_0 za_1 za_2 za_3 za_4 za_5 za_6 za_7 za_8 za_9 za_10 za_11 za_12 za_13
      obtain ⟨w8, rfl⟩ : ∃ x, x = wc := ⟨_, rfl⟩
      have szw8 := hb.size
      replace F0 := Lib.hid (shStage.below F0.out hb (by omega))
      replace AB0 := Lib.hid ((hb.block w.heap.size (by omega)).trans AB0.out)
      replace X0 := Lib.hid (shStage.below X0.out hb (by omega))
      replace XB0 := Lib.hid ((hb.block w5.heap.size (by omega)).trans XB0.out)
      replace T := Lib.hid (T.out.trans (hb.mono (by omega)))
      clear hb
      go_wp2_with fail
      go_ret
      exact ⟨rfl, T.out⟩
  · go_enter Try.func4, Try.ntmps4
    go_wp2_with fail
    have hb := (Below.refl w.heap.size w).alloc (Nat.le_refl _) (.cells #[.int .i64 x0.1, .slice a0_0 n0_0 c0_0, .slice a0_1 n0_1 c0_1, .bool x0.2.2.2.1, .bool x0.2.2.2.2.1, .slice a0_2 n0_2 c0_2, .slice a0_3 n0_3 c0_3, .slice a0_4 n0_4 c0_4, .slice a0_5 n0_5 c0_5, .slice a0_6 n0_6 c0_6, .slice a0_7 n0_7 c0_7, .slice a0_8 n0_8 c0_8, .int .i64 x0.2.2.2.2.2.2.2.2.2.2.2.2.1, .bool x0.2.2.2.2.2.2.2.2.2.2.2.2.2] 50 (0, 0))
    have hk := heap_alloc_new w (.cells #[.int .i64 x0.1, .slice a0_0 n0_0 c0_0, .slice a0_1 n0_1 c0_1, .bool x0.2.2.2.1, .bool x0.2.2.2.2.1, .slice a0_2 n0_2 c0_2, .slice a0_3 n0_3 c0_3, .slice a0_4 n0_4 c0_4, .slice a0_5 n0_5 c0_5, .slice a0_6 n0_6 c0_6, .slice a0_7 n0_7 c0_7, .slice a0_8 n0_8 c0_8, .int .i64 x0.2.2.2.2.2.2.2.2.2.2.2.2.1, .bool x0.2.2.2.2.2.2.2.2.2.2.2.2.2] 50 (0, 0))
    have szw1 : w.heap.size < (w.alloc (.cells #[.int .i64 x0.1, .slice a0_0 n0_0 c0_0, .slice a0_1 n0_1 c0_1, .bool x0.2.2.2.1, .bool x0.2.2.2.2.1, .slice a0_2 n0_2 c0_2, .slice a0_3 n0_3 c0_3, .slice a0_4 n0_4 c0_4, .slice a0_5 n0_5 c0_5, .slice a0_6 n0_6 c0_6, .slice a0_7 n0_7 c0_7, .slice a0_8 n0_8 c0_8, .int .i64 x0.2.2.2.2.2.2.2.2.2.2.2.2.1, .bool x0.2.2.2.2.2.2.2.2.2.2.2.2.2] 50 (0, 0))).heap.size := by simp
    have ee : (w.alloc (.cells #[.int .i64 x0.1, .slice a0_0 n0_0 c0_0, .slice a0_1 n0_1 c0_1, .bool x0.2.2.2.1, .bool x0.2.2.2.2.1, .slice a0_2 n0_2 c0_2, .slice a0_3 n0_3 c0_3, .slice a0_4 n0_4 c0_4, .slice a0_5 n0_5 c0_5, .slice a0_6 n0_6 c0_6, .slice a0_7 n0_7 c0_7, .slice a0_8 n0_8 c0_8, .int .i64 x0.2.2.2.2.2.2.2.2.2.2.2.2.1, .bool x0.2.2.2.2.2.2.2.2.2.2.2.2.2] 50 (0, 0))).heap.size = w.heap.size + 1 := by simp
    generalize w.alloc (.cells #[.int .i64 x0.1, .slice a0_0 n0_0 c0_0, .slice a0_1 n0_1 c0_1, .bool x0.2.2.2.1, .bool x0.2.2.2.2.1, .slice a0_2 n0_2 c0_2, .slice a0_3 n0_3 c0_3, .slice a0_4 n0_4 c0_4, .slice a0_5 n0_5 c0_5, .slice a0_6 n0_6 c0_6, .slice a0_7 n0_7 c0_7, .slice a0_8 n0_8 c0_8, .int .i64 x0.2.2.2.2.2.2.2.2.2.2.2.2.1, .bool x0.2.2.2.2.2.2.2.2.2.2.2.2.2] 50 (0, 0)) = w1 at hb hk szw1 ee ⊢
    have EE1 := Lib.hid ee
    clear ee
    replace F0 := Lib.hid (shStage.below F0.out hb (by omega))
    replace T := Lib.hid (T.out.trans (hb.mono (by omega)))
    have AB0 := Lib.hid hk
    clear hb hk
    have hc := szStage_c _ _ _ x0 (1048576) F0.out (by omega) (by omega) (by omega)
    rw [U0.out, szN_no (by omega)] at hc
    have HC := Lib.hid hc
    clear hc
    refine HC.out.mono ?_
    rintro e w2 ⟨rfl, hb⟩
    clear HC
    have szw2 := hb.size
    replace F0 := Lib.hid (shStage.below F0.out hb (by omega))
    replace AB0 := Lib.hid ((hb.block w.heap.size (by omega)).trans AB0.out)
    replace T := Lib.hid (T.out.trans (hb.mono (by omega)))
    clear hb
    go_wp2_with fail
    go_ret
    exact ⟨rfl, T.out⟩
set_option maxRecDepth 100000 in
set_option maxHeartbeats 6400000 in
theorem lawLedger_any (w : World) (es0 : List Value) (x0 : dStage) (h0 : shStage.reads (Under w.heap.size) w es0 x0) :
    Calls Try.prog 5 #[(.agg es0.toArray)] w fun e w' => e = .returned (.bool true) ∧ Below w.heap.size w w' := by
  obtain ⟨a0_0, n0_0, c0_0, a0_1, n0_1, c0_1, a0_2, n0_2, c0_2, a0_3, n0_3, c0_3, a0_4, n0_4, c0_4, a0_5, n0_5, c0_5, a0_6, n0_6, c0_6, a0_7, n0_7, c0_7, a0_8, n0_8, c0_8, rfl, -⟩ := shStage_reads.1 h0
  obtain ⟨u0, hu0⟩ : ∃ u, shStage.bulk x0 = u := ⟨_, rfl⟩
  have U0 := Lib.hid hu0
  have F0 := Lib.hid h0
  have T := Lib.hid (Below.refl w.heap.size w)
  clear hu0 h0
  by_cases f0 : ((u0 : Nat) : Int) ≤ 1048576
  · go_enter Try.func5, Try.ntmps5
    go_wp2_with fail
    have hb := (Below.refl w.heap.size w).alloc (Nat.le_refl _) (.cells #[.int .i64 x0.1, .slice a0_0 n0_0 c0_0, .slice a0_1 n0_1 c0_1, .bool x0.2.2.2.1, .bool x0.2.2.2.2.1, .slice a0_2 n0_2 c0_2, .slice a0_3 n0_3 c0_3, .slice a0_4 n0_4 c0_4, .slice a0_5 n0_5 c0_5, .slice a0_6 n0_6 c0_6, .slice a0_7 n0_7 c0_7, .slice a0_8 n0_8 c0_8, .int .i64 x0.2.2.2.2.2.2.2.2.2.2.2.2.1, .bool x0.2.2.2.2.2.2.2.2.2.2.2.2.2] 50 (0, 0))
    have hk := heap_alloc_new w (.cells #[.int .i64 x0.1, .slice a0_0 n0_0 c0_0, .slice a0_1 n0_1 c0_1, .bool x0.2.2.2.1, .bool x0.2.2.2.2.1, .slice a0_2 n0_2 c0_2, .slice a0_3 n0_3 c0_3, .slice a0_4 n0_4 c0_4, .slice a0_5 n0_5 c0_5, .slice a0_6 n0_6 c0_6, .slice a0_7 n0_7 c0_7, .slice a0_8 n0_8 c0_8, .int .i64 x0.2.2.2.2.2.2.2.2.2.2.2.2.1, .bool x0.2.2.2.2.2.2.2.2.2.2.2.2.2] 50 (0, 0))
    have szw1 : w.heap.size < (w.alloc (.cells #[.int .i64 x0.1, .slice a0_0 n0_0 c0_0, .slice a0_1 n0_1 c0_1, .bool x0.2.2.2.1, .bool x0.2.2.2.2.1, .slice a0_2 n0_2 c0_2, .slice a0_3 n0_3 c0_3, .slice a0_4 n0_4 c0_4, .slice a0_5 n0_5 c0_5, .slice a0_6 n0_6 c0_6, .slice a0_7 n0_7 c0_7, .slice a0_8 n0_8 c0_8, .int .i64 x0.2.2.2.2.2.2.2.2.2.2.2.2.1, .bool x0.2.2.2.2.2.2.2.2.2.2.2.2.2] 50 (0, 0))).heap.size := by simp
    have ee : (w.alloc (.cells #[.int .i64 x0.1, .slice a0_0 n0_0 c0_0, .slice a0_1 n0_1 c0_1, .bool x0.2.2.2.1, .bool x0.2.2.2.2.1, .slice a0_2 n0_2 c0_2, .slice a0_3 n0_3 c0_3, .slice a0_4 n0_4 c0_4, .slice a0_5 n0_5 c0_5, .slice a0_6 n0_6 c0_6, .slice a0_7 n0_7 c0_7, .slice a0_8 n0_8 c0_8, .int .i64 x0.2.2.2.2.2.2.2.2.2.2.2.2.1, .bool x0.2.2.2.2.2.2.2.2.2.2.2.2.2] 50 (0, 0))).heap.size = w.heap.size + 1 := by simp
    generalize w.alloc (.cells #[.int .i64 x0.1, .slice a0_0 n0_0 c0_0, .slice a0_1 n0_1 c0_1, .bool x0.2.2.2.1, .bool x0.2.2.2.2.1, .slice a0_2 n0_2 c0_2, .slice a0_3 n0_3 c0_3, .slice a0_4 n0_4 c0_4, .slice a0_5 n0_5 c0_5, .slice a0_6 n0_6 c0_6, .slice a0_7 n0_7 c0_7, .slice a0_8 n0_8 c0_8, .int .i64 x0.2.2.2.2.2.2.2.2.2.2.2.2.1, .bool x0.2.2.2.2.2.2.2.2.2.2.2.2.2] 50 (0, 0)) = w1 at hb hk szw1 ee ⊢
    have EE1 := Lib.hid ee
    clear ee
    replace F0 := Lib.hid (shStage.below F0.out hb (by omega))
    replace T := Lib.hid (T.out.trans (hb.mono (by omega)))
    have AB0 := Lib.hid hk
    clear hb hk
    have hc := szStage_c _ _ _ x0 (1048576) F0.out (by omega) (by omega) (by omega)
    rw [U0.out, szN_yes (by omega)] at hc
    obtain ⟨l0, hl0⟩ : ∃ l, 1048576 - (u0 : Int) = l := ⟨_, rfl⟩
    rw [hl0] at hc
    have t0 : decide (l0 < 0) = false := decide_eq_false (by omega)
    have HC := Lib.hid hc
    clear hc
    refine HC.out.mono ?_
    rintro e w2 ⟨rfl, hb⟩
    clear HC
    have szw2 := hb.size
    replace F0 := Lib.hid (shStage.below F0.out hb (by omega))
    replace AB0 := Lib.hid ((hb.block w.heap.size (by omega)).trans AB0.out)
    replace T := Lib.hid (T.out.trans (hb.mono (by omega)))
    clear hb
    have ub : u0 ≤ 1048576 := by omega
    have HC := Lib.hid (toStage_c _ _ _ x0 F0.out (by omega) (by rw [U0.out]; omega))
    have za_0 := cell_of_row _ w.heap.size 0 _ _ _ AB0.out
    have za_1 := cell_of_row _ w.heap.size 1 _ _ _ AB0.out
    have za_2 := cell_of_row _ w.heap.size 2 _ _ _ AB0.out
    have za_3 := cell_of_row _ w.heap.size 3 _ _ _ AB0.out
    have za_4 := cell_of_row _ w.heap.size 4 _ _ _ AB0.out
    have za_5 := cell_of_row _ w.heap.size 5 _ _ _ AB0.out
    have za_6 := cell_of_row _ w.heap.size 6 _ _ _ AB0.out
    have za_7 := cell_of_row _ w.heap.size 7 _ _ _ AB0.out
    have za_8 := cell_of_row _ w.heap.size 8 _ _ _ AB0.out
    have za_9 := cell_of_row _ w.heap.size 9 _ _ _ AB0.out
    have za_10 := cell_of_row _ w.heap.size 10 _ _ _ AB0.out
    have za_11 := cell_of_row _ w.heap.size 11 _ _ _ AB0.out
    have za_12 := cell_of_row _ w.heap.size 12 _ _ _ AB0.out
    have za_13 := cell_of_row _ w.heap.size 13 _ _ _ AB0.out
    simp only [List.getElem?_toArray, List.getElem?_cons_zero, List.getElem?_cons_succ] at za_0 za_1 za_2 za_3 za_4 za_5 za_6 za_7 za_8 za_9 za_10 za_11 za_12 za_13
    go_wp2_with fail
    clear za_0 za_1 za_2 za_3 za_4 za_5 za_6 za_7 za_8 za_9 za_10 za_11 za_12 za_13
    refine HC.out.mono ?_
    rintro e w3 ⟨eY0, rfl, hr, hb⟩
    clear HC
    have szw3 := hb.size
    replace F0 := Lib.hid (shStage.below F0.out hb (by omega))
    replace AB0 := Lib.hid ((hb.block w.heap.size (by omega)).trans AB0.out)
    replace T := Lib.hid (T.out.trans (hb.mono (by omega)))
    clear hb
    have hY0 := shStage.under hr
    obtain ⟨aY0_0, nY0_0, cY0_0, aY0_1, nY0_1, cY0_1, aY0_2, nY0_2, cY0_2, aY0_3, nY0_3, cY0_3, aY0_4, nY0_4, cY0_4, aY0_5, nY0_5, cY0_5, aY0_6, nY0_6, cY0_6, aY0_7, nY0_7, cY0_7, aY0_8, nY0_8, cY0_8, rfl, -⟩ := shStage_reads.1 hY0
    have Y0 := Lib.hid hY0
    clear hr hY0
    obtain ⟨v, hv⟩ : ∃ v, ledgerN x0 = v := ⟨_, rfl⟩
    have HV := Lib.hid hv
    clear hv
    have hc := specLedger_d _ _ x0 (shStage.le Y0.out (by omega)) (by rw [U0.out]; omega)
    rw [HV.out] at hc
    have HC := Lib.hid hc
    clear hc
    go_wp2_with fail
    refine HC.out.mono ?_
    rintro e w4 ⟨rfl, hb⟩
    clear HC Y0
    have szw4 := hb.size
    replace F0 := Lib.hid (shStage.below F0.out hb (by omega))
    replace AB0 := Lib.hid ((hb.block w.heap.size (by omega)).trans AB0.out)
    replace T := Lib.hid (T.out.trans (hb.mono (by omega)))
    clear hb
    have HC := Lib.hid (toStage_c _ _ _ x0 F0.out (by omega) (by rw [U0.out]; omega))
    have za_0 := cell_of_row _ w.heap.size 0 _ _ _ AB0.out
    have za_1 := cell_of_row _ w.heap.size 1 _ _ _ AB0.out
    have za_2 := cell_of_row _ w.heap.size 2 _ _ _ AB0.out
    have za_3 := cell_of_row _ w.heap.size 3 _ _ _ AB0.out
    have za_4 := cell_of_row _ w.heap.size 4 _ _ _ AB0.out
    have za_5 := cell_of_row _ w.heap.size 5 _ _ _ AB0.out
    have za_6 := cell_of_row _ w.heap.size 6 _ _ _ AB0.out
    have za_7 := cell_of_row _ w.heap.size 7 _ _ _ AB0.out
    have za_8 := cell_of_row _ w.heap.size 8 _ _ _ AB0.out
    have za_9 := cell_of_row _ w.heap.size 9 _ _ _ AB0.out
    have za_10 := cell_of_row _ w.heap.size 10 _ _ _ AB0.out
    have za_11 := cell_of_row _ w.heap.size 11 _ _ _ AB0.out
    have za_12 := cell_of_row _ w.heap.size 12 _ _ _ AB0.out
    have za_13 := cell_of_row _ w.heap.size 13 _ _ _ AB0.out
    simp only [List.getElem?_toArray, List.getElem?_cons_zero, List.getElem?_cons_succ] at za_0 za_1 za_2 za_3 za_4 za_5 za_6 za_7 za_8 za_9 za_10 za_11 za_12 za_13
    go_wp2_with fail
    clear za_0 za_1 za_2 za_3 za_4 za_5 za_6 za_7 za_8 za_9 za_10 za_11 za_12 za_13
    refine HC.out.mono ?_
    rintro e w5 ⟨eX0, rfl, hr, hb⟩
    clear HC
    have szw5 := hb.size
    replace F0 := Lib.hid (shStage.below F0.out hb (by omega))
    replace AB0 := Lib.hid ((hb.block w.heap.size (by omega)).trans AB0.out)
    replace T := Lib.hid (T.out.trans (hb.mono (by omega)))
    clear hb
    have hX0 := shStage.under hr
    obtain ⟨aX0_0, nX0_0, cX0_0, aX0_1, nX0_1, cX0_1, aX0_2, nX0_2, cX0_2, aX0_3, nX0_3, cX0_3, aX0_4, nX0_4, cX0_4, aX0_5, nX0_5, cX0_5, aX0_6, nX0_6, cX0_6, aX0_7, nX0_7, cX0_7, aX0_8, nX0_8, cX0_8, rfl, -⟩ := shStage_reads.1 hX0
    have X0 := Lib.hid hX0
    clear hr hX0
    go_wp2_with fail
    have hb := (Below.refl w5.heap.size w5).alloc (Nat.le_refl _) (.cells #[.int .i64 x0.1, .slice aX0_0 nX0_0 cX0_0, .slice aX0_1 nX0_1 cX0_1, .bool x0.2.2.2.1, .bool x0.2.2.2.2.1, .slice aX0_2 nX0_2 cX0_2, .slice aX0_3 nX0_3 cX0_3, .slice aX0_4 nX0_4 cX0_4, .slice aX0_5 nX0_5 cX0_5, .slice aX0_6 nX0_6 cX0_6, .slice aX0_7 nX0_7 cX0_7, .slice aX0_8 nX0_8 cX0_8, .int .i64 x0.2.2.2.2.2.2.2.2.2.2.2.2.1, .bool x0.2.2.2.2.2.2.2.2.2.2.2.2.2] 34 (0, 0))
    have hk := heap_alloc_new w5 (.cells #[.int .i64 x0.1, .slice aX0_0 nX0_0 cX0_0, .slice aX0_1 nX0_1 cX0_1, .bool x0.2.2.2.1, .bool x0.2.2.2.2.1, .slice aX0_2 nX0_2 cX0_2, .slice aX0_3 nX0_3 cX0_3, .slice aX0_4 nX0_4 cX0_4, .slice aX0_5 nX0_5 cX0_5, .slice aX0_6 nX0_6 cX0_6, .slice aX0_7 nX0_7 cX0_7, .slice aX0_8 nX0_8 cX0_8, .int .i64 x0.2.2.2.2.2.2.2.2.2.2.2.2.1, .bool x0.2.2.2.2.2.2.2.2.2.2.2.2.2] 34 (0, 0))
    have szw6 : w5.heap.size < (w5.alloc (.cells #[.int .i64 x0.1, .slice aX0_0 nX0_0 cX0_0, .slice aX0_1 nX0_1 cX0_1, .bool x0.2.2.2.1, .bool x0.2.2.2.2.1, .slice aX0_2 nX0_2 cX0_2, .slice aX0_3 nX0_3 cX0_3, .slice aX0_4 nX0_4 cX0_4, .slice aX0_5 nX0_5 cX0_5, .slice aX0_6 nX0_6 cX0_6, .slice aX0_7 nX0_7 cX0_7, .slice aX0_8 nX0_8 cX0_8, .int .i64 x0.2.2.2.2.2.2.2.2.2.2.2.2.1, .bool x0.2.2.2.2.2.2.2.2.2.2.2.2.2] 34 (0, 0))).heap.size := by simp
    generalize w5.alloc (.cells #[.int .i64 x0.1, .slice aX0_0 nX0_0 cX0_0, .slice aX0_1 nX0_1 cX0_1, .bool x0.2.2.2.1, .bool x0.2.2.2.2.1, .slice aX0_2 nX0_2 cX0_2, .slice aX0_3 nX0_3 cX0_3, .slice aX0_4 nX0_4 cX0_4, .slice aX0_5 nX0_5 cX0_5, .slice aX0_6 nX0_6 cX0_6, .slice aX0_7 nX0_7 cX0_7, .slice aX0_8 nX0_8 cX0_8, .int .i64 x0.2.2.2.2.2.2.2.2.2.2.2.2.1, .bool x0.2.2.2.2.2.2.2.2.2.2.2.2.2] 34 (0, 0)) = w6 at hb hk szw6 ⊢
    replace F0 := Lib.hid (shStage.below F0.out hb (by omega))
    replace AB0 := Lib.hid ((hb.block w.heap.size (by omega)).trans AB0.out)
    replace X0 := Lib.hid (shStage.below X0.out hb (by omega))
    replace T := Lib.hid (T.out.trans (hb.mono (by omega)))
    have XB0 := Lib.hid hk
    clear hb hk
    have hc := implLedger_d _ _ x0 (shStage.le X0.out (by omega)) (by rw [U0.out]; omega)
    rw [HV.out] at hc
    have HC := Lib.hid hc
    clear hc
    have zx0_0 := cell_of_row _ w5.heap.size 0 _ _ _ XB0.out
    have zx0_1 := cell_of_row _ w5.heap.size 1 _ _ _ XB0.out
    have zx0_2 := cell_of_row _ w5.heap.size 2 _ _ _ XB0.out
    have zx0_3 := cell_of_row _ w5.heap.size 3 _ _ _ XB0.out
    have zx0_4 := cell_of_row _ w5.heap.size 4 _ _ _ XB0.out
    have zx0_5 := cell_of_row _ w5.heap.size 5 _ _ _ XB0.out
    have zx0_6 := cell_of_row _ w5.heap.size 6 _ _ _ XB0.out
    have zx0_7 := cell_of_row _ w5.heap.size 7 _ _ _ XB0.out
    have zx0_8 := cell_of_row _ w5.heap.size 8 _ _ _ XB0.out
    have zx0_9 := cell_of_row _ w5.heap.size 9 _ _ _ XB0.out
    have zx0_10 := cell_of_row _ w5.heap.size 10 _ _ _ XB0.out
    have zx0_11 := cell_of_row _ w5.heap.size 11 _ _ _ XB0.out
    have zx0_12 := cell_of_row _ w5.heap.size 12 _ _ _ XB0.out
    have zx0_13 := cell_of_row _ w5.heap.size 13 _ _ _ XB0.out
    simp only [List.getElem?_toArray, List.getElem?_cons_zero, List.getElem?_cons_succ] at zx0_0 zx0_1 zx0_2 zx0_3 zx0_4 zx0_5 zx0_6 zx0_7 zx0_8 zx0_9 zx0_10 zx0_11 zx0_12 zx0_13
    try go_wp2_with fail
    clear zx0_0 zx0_1 zx0_2 zx0_3 zx0_4 zx0_5 zx0_6 zx0_7 zx0_8 zx0_9 zx0_10 zx0_11 zx0_12 zx0_13
    refine HC.out.mono ?_
    rintro e w7 ⟨rfl, hb⟩
    clear HC
    have szw7 := hb.size
    replace F0 := Lib.hid (shStage.below F0.out hb (by omega))
    replace AB0 := Lib.hid ((hb.block w.heap.size (by omega)).trans AB0.out)
    replace X0 := Lib.hid (shStage.below X0.out hb (by omega))
    replace XB0 := Lib.hid ((hb.block w5.heap.size (by omega)).trans XB0.out)
    replace T := Lib.hid (T.out.trans (hb.mono (by omega)))
    clear hb
    have zx_0 := cell_of_row _ w5.heap.size 0 _ _ _ XB0.out
    have zx_1 := cell_of_row _ w5.heap.size 1 _ _ _ XB0.out
    have zx_2 := cell_of_row _ w5.heap.size 2 _ _ _ XB0.out
    have zx_3 := cell_of_row _ w5.heap.size 3 _ _ _ XB0.out
    have zx_4 := cell_of_row _ w5.heap.size 4 _ _ _ XB0.out
    have zx_5 := cell_of_row _ w5.heap.size 5 _ _ _ XB0.out
    have zx_6 := cell_of_row _ w5.heap.size 6 _ _ _ XB0.out
    have zx_7 := cell_of_row _ w5.heap.size 7 _ _ _ XB0.out
    have zx_8 := cell_of_row _ w5.heap.size 8 _ _ _ XB0.out
    have zx_9 := cell_of_row _ w5.heap.size 9 _ _ _ XB0.out
    have zx_10 := cell_of_row _ w5.heap.size 10 _ _ _ XB0.out
    have zx_11 := cell_of_row _ w5.heap.size 11 _ _ _ XB0.out
    have zx_12 := cell_of_row _ w5.heap.size 12 _ _ _ XB0.out
    have zx_13 := cell_of_row _ w5.heap.size 13 _ _ _ XB0.out
    simp only [List.getElem?_toArray, List.getElem?_cons_zero, List.getElem?_cons_succ] at zx_0 zx_1 zx_2 zx_3 zx_4 zx_5 zx_6 zx_7 zx_8 zx_9 zx_10 zx_11 zx_12 zx_13
    have za_0 := cell_of_row _ w.heap.size 0 _ _ _ AB0.out
    have za_1 := cell_of_row _ w.heap.size 1 _ _ _ AB0.out
    have za_2 := cell_of_row _ w.heap.size 2 _ _ _ AB0.out
    have za_3 := cell_of_row _ w.heap.size 3 _ _ _ AB0.out
    have za_4 := cell_of_row _ w.heap.size 4 _ _ _ AB0.out
    have za_5 := cell_of_row _ w.heap.size 5 _ _ _ AB0.out
    have za_6 := cell_of_row _ w.heap.size 6 _ _ _ AB0.out
    have za_7 := cell_of_row _ w.heap.size 7 _ _ _ AB0.out
    have za_8 := cell_of_row _ w.heap.size 8 _ _ _ AB0.out
    have za_9 := cell_of_row _ w.heap.size 9 _ _ _ AB0.out
    have za_10 := cell_of_row _ w.heap.size 10 _ _ _ AB0.out
    have za_11 := cell_of_row _ w.heap.size 11 _ _ _ AB0.out
    have za_12 := cell_of_row _ w.heap.size 12 _ _ _ AB0.out
    have za_13 := cell_of_row _ w.heap.size 13 _ _ _ AB0.out
    simp only [List.getElem?_toArray, List.getElem?_cons_zero, List.getElem?_cons_succ] at za_0 za_1 za_2 za_3 za_4 za_5 za_6 za_7 za_8 za_9 za_10 za_11 za_12 za_13
    go_upto_region 10 with fail
    go_cut [26] (fun t wx => t = .bool false ∧ Below w7.heap.size w7 wx)
    case first =>
      have hdr : Below w7.heap.size w7 w7.drew := (Below.refl _ _).drew
      have FD := Lib.hid (shStage.below F0.out hdr (by omega))
      have XD := Lib.hid (shStage.below X0.out hdr (by omega))
      have DR := Lib.hid hdr
      have szd : w7.heap.size ≤ w7.drew.heap.size := hdr.size
      have XBD : Hid (w7.drew.heap[w5.heap.size]? = _) := Lib.hid XB0.out
      clear hdr
      have HC1 := Lib.hid (toStage_c w7.drew _ _ x0 FD.out (by omega) (by rw [U0.out]; omega))
      have HC2 := Lib.hid fun (w1 : World) (es : List Value) (hb : Below w7.drew.heap.size w7.drew w1) (hr : shStage.reads (From w7.drew.heap.size w1.heap.size) w1 es x0) => eqStage_c w1 _ _ _ es x0 (shStage.below XD.out hb (by omega)) (shStage.under hr) (by have := hb.size; omega) (Nat.le_refl _) (smallStage_of (by rw [U0.out]; omega))
      go_region_law (first
        | (go_simp; go_at_call 22; (with_reducible refine HC1.out.mono ?_); rintro e wt ⟨eg, rfl, hr, hb⟩; have hq := HC2.out wt eg hb hr; have zz_0 := cell_of_row _ w5.heap.size 0 _ _ _ ((hb.block w5.heap.size (by omega)).trans XBD.out); have zz_1 := cell_of_row _ w5.heap.size 1 _ _ _ ((hb.block w5.heap.size (by omega)).trans XBD.out); have zz_2 := cell_of_row _ w5.heap.size 2 _ _ _ ((hb.block w5.heap.size (by omega)).trans XBD.out); have zz_3 := cell_of_row _ w5.heap.size 3 _ _ _ ((hb.block w5.heap.size (by omega)).trans XBD.out); have zz_4 := cell_of_row _ w5.heap.size 4 _ _ _ ((hb.block w5.heap.size (by omega)).trans XBD.out); have zz_5 := cell_of_row _ w5.heap.size 5 _ _ _ ((hb.block w5.heap.size (by omega)).trans XBD.out); have zz_6 := cell_of_row _ w5.heap.size 6 _ _ _ ((hb.block w5.heap.size (by omega)).trans XBD.out); have zz_7 := cell_of_row _ w5.heap.size 7 _ _ _ ((hb.block w5.heap.size (by omega)).trans XBD.out); have zz_8 := cell_of_row _ w5.heap.size 8 _ _ _ ((hb.block w5.heap.size (by omega)).trans XBD.out); have zz_9 := cell_of_row _ w5.heap.size 9 _ _ _ ((hb.block w5.heap.size (by omega)).trans XBD.out); have zz_10 := cell_of_row _ w5.heap.size 10 _ _ _ ((hb.block w5.heap.size (by omega)).trans XBD.out); have zz_11 := cell_of_row _ w5.heap.size 11 _ _ _ ((hb.block w5.heap.size (by omega)).trans XBD.out); have zz_12 := cell_of_row _ w5.heap.size 12 _ _ _ ((hb.block w5.heap.size (by omega)).trans XBD.out); have zz_13 := cell_of_row _ w5.heap.size 13 _ _ _ ((hb.block w5.heap.size (by omega)).trans XBD.out); simp only [List.getElem?_toArray, List.getElem?_cons_zero, List.getElem?_cons_succ] at zz_0 zz_1 zz_2 zz_3 zz_4 zz_5 zz_6 zz_7 zz_8 zz_9 zz_10 zz_11 zz_12 zz_13; obtain ⟨ag_0, ng_0, cg_0, ag_1, ng_1, cg_1, ag_2, ng_2, cg_2, ag_3, ng_3, cg_3, ag_4, ng_4, cg_4, ag_5, ng_5, cg_5, ag_6, ng_6, cg_6, ag_7, ng_7, cg_7, ag_8, ng_8, cg_8, rfl, -⟩ := shStage_reads.1 hr; have HQ := Lib.hid hq; have HBT := Lib.hid hb; have szt := hb.size; clear hb hr hq)
        | (go_simp; go_at_call 13; (with_reducible refine HQ.out.mono ?_); rintro e wq ⟨rfl, hb⟩; have BQ := Lib.hid (DR.out.trans ((HBT.out.mono szd).trans (hb.mono (by omega)))); clear hb))
      all_goals
        go_wp2_with fail
        go_meet
        case rel => exact ⟨rfl, BQ.out⟩
    case rest =>
      obtain ⟨rfl, hb⟩ := hcut
      clear zx_0 zx_1 zx_2 zx_3 zx_4 zx_5 zx_6 zx_7 zx_8 zx_9 zx_10 zx_11 zx_12 zx_13
      clear za_0 za_1 za_2 za_3 za_4 za_5 za_6 za_7 za_8 za_9 za_10 za_11 za_12 za_13
      obtain ⟨w8, rfl⟩ : ∃ x, x = wc := ⟨_, rfl⟩
      have szw8 := hb.size
      replace F0 := Lib.hid (shStage.below F0.out hb (by omega))
      replace AB0 := Lib.hid ((hb.block w.heap.size (by omega)).trans AB0.out)
      replace X0 := Lib.hid (shStage.below X0.out hb (by omega))
      replace XB0 := Lib.hid ((hb.block w5.heap.size (by omega)).trans XB0.out)
      replace T := Lib.hid (T.out.trans (hb.mono (by omega)))
      clear hb
      go_wp2_with fail
      go_ret
      exact ⟨rfl, T.out⟩
  · go_enter Try.func5, Try.ntmps5
    go_wp2_with fail
    have hb := (Below.refl w.heap.size w).alloc (Nat.le_refl _) (.cells #[.int .i64 x0.1, .slice a0_0 n0_0 c0_0, .slice a0_1 n0_1 c0_1, .bool x0.2.2.2.1, .bool x0.2.2.2.2.1, .slice a0_2 n0_2 c0_2, .slice a0_3 n0_3 c0_3, .slice a0_4 n0_4 c0_4, .slice a0_5 n0_5 c0_5, .slice a0_6 n0_6 c0_6, .slice a0_7 n0_7 c0_7, .slice a0_8 n0_8 c0_8, .int .i64 x0.2.2.2.2.2.2.2.2.2.2.2.2.1, .bool x0.2.2.2.2.2.2.2.2.2.2.2.2.2] 50 (0, 0))
    have hk := heap_alloc_new w (.cells #[.int .i64 x0.1, .slice a0_0 n0_0 c0_0, .slice a0_1 n0_1 c0_1, .bool x0.2.2.2.1, .bool x0.2.2.2.2.1, .slice a0_2 n0_2 c0_2, .slice a0_3 n0_3 c0_3, .slice a0_4 n0_4 c0_4, .slice a0_5 n0_5 c0_5, .slice a0_6 n0_6 c0_6, .slice a0_7 n0_7 c0_7, .slice a0_8 n0_8 c0_8, .int .i64 x0.2.2.2.2.2.2.2.2.2.2.2.2.1, .bool x0.2.2.2.2.2.2.2.2.2.2.2.2.2] 50 (0, 0))
    have szw1 : w.heap.size < (w.alloc (.cells #[.int .i64 x0.1, .slice a0_0 n0_0 c0_0, .slice a0_1 n0_1 c0_1, .bool x0.2.2.2.1, .bool x0.2.2.2.2.1, .slice a0_2 n0_2 c0_2, .slice a0_3 n0_3 c0_3, .slice a0_4 n0_4 c0_4, .slice a0_5 n0_5 c0_5, .slice a0_6 n0_6 c0_6, .slice a0_7 n0_7 c0_7, .slice a0_8 n0_8 c0_8, .int .i64 x0.2.2.2.2.2.2.2.2.2.2.2.2.1, .bool x0.2.2.2.2.2.2.2.2.2.2.2.2.2] 50 (0, 0))).heap.size := by simp
    have ee : (w.alloc (.cells #[.int .i64 x0.1, .slice a0_0 n0_0 c0_0, .slice a0_1 n0_1 c0_1, .bool x0.2.2.2.1, .bool x0.2.2.2.2.1, .slice a0_2 n0_2 c0_2, .slice a0_3 n0_3 c0_3, .slice a0_4 n0_4 c0_4, .slice a0_5 n0_5 c0_5, .slice a0_6 n0_6 c0_6, .slice a0_7 n0_7 c0_7, .slice a0_8 n0_8 c0_8, .int .i64 x0.2.2.2.2.2.2.2.2.2.2.2.2.1, .bool x0.2.2.2.2.2.2.2.2.2.2.2.2.2] 50 (0, 0))).heap.size = w.heap.size + 1 := by simp
    generalize w.alloc (.cells #[.int .i64 x0.1, .slice a0_0 n0_0 c0_0, .slice a0_1 n0_1 c0_1, .bool x0.2.2.2.1, .bool x0.2.2.2.2.1, .slice a0_2 n0_2 c0_2, .slice a0_3 n0_3 c0_3, .slice a0_4 n0_4 c0_4, .slice a0_5 n0_5 c0_5, .slice a0_6 n0_6 c0_6, .slice a0_7 n0_7 c0_7, .slice a0_8 n0_8 c0_8, .int .i64 x0.2.2.2.2.2.2.2.2.2.2.2.2.1, .bool x0.2.2.2.2.2.2.2.2.2.2.2.2.2] 50 (0, 0)) = w1 at hb hk szw1 ee ⊢
    have EE1 := Lib.hid ee
    clear ee
    replace F0 := Lib.hid (shStage.below F0.out hb (by omega))
    replace T := Lib.hid (T.out.trans (hb.mono (by omega)))
    have AB0 := Lib.hid hk
    clear hb hk
    have hc := szStage_c _ _ _ x0 (1048576) F0.out (by omega) (by omega) (by omega)
    rw [U0.out, szN_no (by omega)] at hc
    have HC := Lib.hid hc
    clear hc
    refine HC.out.mono ?_
    rintro e w2 ⟨rfl, hb⟩
    clear HC
    have szw2 := hb.size
    replace F0 := Lib.hid (shStage.below F0.out hb (by omega))
    replace AB0 := Lib.hid ((hb.block w.heap.size (by omega)).trans AB0.out)
    replace T := Lib.hid (T.out.trans (hb.mono (by omega)))
    clear hb
    go_wp2_with fail
    go_ret
    exact ⟨rfl, T.out⟩
end Go.Proofs.Ytpnifgpmleaohaa
