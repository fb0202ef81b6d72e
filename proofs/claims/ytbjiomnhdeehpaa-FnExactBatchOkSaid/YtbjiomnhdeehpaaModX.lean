/-
  Exact laws over data with depth: the walks.
-/
import Derived.Test.YtbjiomnhdeehpaaModD
import Derived.Test.YtbjiomnhdeehpaaModJ
import Derived.Test.YtbjiomnhdeehpaaOpen
import Derived.Deep.DeepCutAuto
import Derived.Deep.RegionLaw
namespace Go.Proofs.Ytbjiomnhdeehpaa
open Go.RowKit
set_option linter.unusedVariables false
set_option linter.unusedSimpArgs false

set_option maxRecDepth 100000 in
set_option maxHeartbeats 6400000 in
theorem lawModelOk_any (w : World) (es0 : List Value) (x0 : dModel) (h0 : shModel.reads (Under w.heap.size) w es0 x0) :
    Calls Try.prog 3 #[(.agg es0.toArray)] w fun e w' => e = .returned (.bool true) ∧ Below w.heap.size w w' := by
  obtain ⟨a0_0, n0_0, c0_0, rfl, -⟩ := shModel_reads.1 h0
  obtain ⟨u0, hu0⟩ : ∃ u, shModel.bulk x0 = u := ⟨_, rfl⟩
  have U0 := Lib.hid hu0
  have F0 := Lib.hid h0
  have T := Lib.hid (Below.refl w.heap.size w)
  clear hu0 h0
  by_cases f0 : ((u0 : Nat) : Int) ≤ 1048576
  · go_enter Try.func3, Try.ntmps3
    go_wp2_with fail
    have hb := (Below.refl w.heap.size w).alloc (Nat.le_refl _) (.cells #[.slice a0_0 n0_0 c0_0] 24 (0, 0))
    have hk := heap_alloc_new w (.cells #[.slice a0_0 n0_0 c0_0] 24 (0, 0))
    have szw1 : w.heap.size < (w.alloc (.cells #[.slice a0_0 n0_0 c0_0] 24 (0, 0))).heap.size := by simp
    have ee : (w.alloc (.cells #[.slice a0_0 n0_0 c0_0] 24 (0, 0))).heap.size = w.heap.size + 1 := by simp
    generalize w.alloc (.cells #[.slice a0_0 n0_0 c0_0] 24 (0, 0)) = w1 at hb hk szw1 ee ⊢
    have EE1 := Lib.hid ee
    clear ee
    replace F0 := Lib.hid (shModel.below F0.out hb (by omega))
    replace T := Lib.hid (T.out.trans (hb.mono (by omega)))
    have AB0 := Lib.hid hk
    clear hb hk
    have hc := szModel_c _ _ _ x0 (1048576) F0.out (by omega) (by omega) (by omega)
    rw [U0.out, szN_yes (by omega)] at hc
    obtain ⟨l0, hl0⟩ : ∃ l, 1048576 - (u0 : Int) = l := ⟨_, rfl⟩
    rw [hl0] at hc
    have t0 : decide (l0 < 0) = false := decide_eq_false (by omega)
    have HC := Lib.hid hc
    clear hc
    refine HC.out.mono ?_
    rintro e w2 ⟨rfl, hb⟩
    clear HC
    have szw2 := hb.size
    replace F0 := Lib.hid (shModel.below F0.out hb (by omega))
    replace AB0 := Lib.hid ((hb.block w.heap.size (by omega)).trans AB0.out)
    replace T := Lib.hid (T.out.trans (hb.mono (by omega)))
    clear hb
    have ub : u0 ≤ 1048576 := by omega
    have HC := Lib.hid (toModel_c _ _ _ x0 F0.out (by omega) (by rw [U0.out]; omega))
    have za_0 := cell_of_row _ w.heap.size 0 _ _ _ AB0.out
    simp only [List.getElem?_toArray, List.getElem?_cons_zero, List.getElem?_cons_succ] at za_0
    go_wp2_with fail
    clear za_0
    refine HC.out.mono ?_
    rintro e w3 ⟨eY0, rfl, hr, hb⟩
    clear HC
    have szw3 := hb.size
    replace F0 := Lib.hid (shModel.below F0.out hb (by omega))
    replace AB0 := Lib.hid ((hb.block w.heap.size (by omega)).trans AB0.out)
    replace T := Lib.hid (T.out.trans (hb.mono (by omega)))
    clear hb
    have hY0 := shModel.under hr
    obtain ⟨aY0_0, nY0_0, cY0_0, rfl, -⟩ := shModel_reads.1 hY0
    have Y0 := Lib.hid hY0
    clear hr hY0
    obtain ⟨v, hv⟩ : ∃ v, modelOkB x0 = v := ⟨_, rfl⟩
    have HV := Lib.hid hv
    clear hv
    have hc := specModelOk_d _ _ x0 (shModel.le Y0.out (by omega)) (by rw [U0.out]; omega)
    rw [HV.out] at hc
    have HC := Lib.hid hc
    clear hc
    go_wp2_with fail
    refine HC.out.mono ?_
    rintro e w4 ⟨rfl, hb⟩
    clear HC Y0
    have szw4 := hb.size
    replace F0 := Lib.hid (shModel.below F0.out hb (by omega))
    replace AB0 := Lib.hid ((hb.block w.heap.size (by omega)).trans AB0.out)
    replace T := Lib.hid (T.out.trans (hb.mono (by omega)))
    clear hb
    have HC := Lib.hid (toModel_c _ _ _ x0 F0.out (by omega) (by rw [U0.out]; omega))
    have za_0 := cell_of_row _ w.heap.size 0 _ _ _ AB0.out
    simp only [List.getElem?_toArray, List.getElem?_cons_zero, List.getElem?_cons_succ] at za_0
    go_wp2_with fail
    clear za_0
    refine HC.out.mono ?_
    rintro e w5 ⟨eX0, rfl, hr, hb⟩
    clear HC
    have szw5 := hb.size
    replace F0 := Lib.hid (shModel.below F0.out hb (by omega))
    replace AB0 := Lib.hid ((hb.block w.heap.size (by omega)).trans AB0.out)
    replace T := Lib.hid (T.out.trans (hb.mono (by omega)))
    clear hb
    have hX0 := shModel.under hr
    obtain ⟨aX0_0, nX0_0, cX0_0, rfl, -⟩ := shModel_reads.1 hX0
    have X0 := Lib.hid hX0
    clear hr hX0
    go_wp2_with fail
    have hb := (Below.refl w5.heap.size w5).alloc (Nat.le_refl _) (.cells #[.slice aX0_0 nX0_0 cX0_0] 29 (0, 0))
    have hk := heap_alloc_new w5 (.cells #[.slice aX0_0 nX0_0 cX0_0] 29 (0, 0))
    have szw6 : w5.heap.size < (w5.alloc (.cells #[.slice aX0_0 nX0_0 cX0_0] 29 (0, 0))).heap.size := by simp
    generalize w5.alloc (.cells #[.slice aX0_0 nX0_0 cX0_0] 29 (0, 0)) = w6 at hb hk szw6 ⊢
    replace F0 := Lib.hid (shModel.below F0.out hb (by omega))
    replace AB0 := Lib.hid ((hb.block w.heap.size (by omega)).trans AB0.out)
    replace X0 := Lib.hid (shModel.below X0.out hb (by omega))
    replace T := Lib.hid (T.out.trans (hb.mono (by omega)))
    have XB0 := Lib.hid hk
    clear hb hk
    have hc := implModelOk_d _ _ x0 (shModel.le X0.out (by omega)) (by rw [U0.out]; omega)
    rw [HV.out] at hc
    have HC := Lib.hid hc
    clear hc
    have zx0_0 := cell_of_row _ w5.heap.size 0 _ _ _ XB0.out
    simp only [List.getElem?_toArray, List.getElem?_cons_zero, List.getElem?_cons_succ] at zx0_0
    try go_wp2_with fail
    clear zx0_0
    refine HC.out.mono ?_
    rintro e w7 ⟨rfl, hb⟩
    clear HC
    have szw7 := hb.size
    replace F0 := Lib.hid (shModel.below F0.out hb (by omega))
    replace AB0 := Lib.hid ((hb.block w.heap.size (by omega)).trans AB0.out)
    replace X0 := Lib.hid (shModel.below X0.out hb (by omega))
    replace XB0 := Lib.hid ((hb.block w5.heap.size (by omega)).trans XB0.out)
    replace T := Lib.hid (T.out.trans (hb.mono (by omega)))
    clear hb
    have zx_0 := cell_of_row _ w5.heap.size 0 _ _ _ XB0.out
    simp only [List.getElem?_toArray, List.getElem?_cons_zero, List.getElem?_cons_succ] at zx_0
    have za_0 := cell_of_row _ w.heap.size 0 _ _ _ AB0.out
    simp only [List.getElem?_toArray, List.getElem?_cons_zero, List.getElem?_cons_succ] at za_0
    go_upto_region 10 with fail
    go_cut [26] (fun t wx => t = .bool false ∧ Below w7.heap.size w7 wx)
    case first =>
      have hdr : Below w7.heap.size w7 w7.drew := (Below.refl _ _).drew
      have FD := Lib.hid (shModel.below F0.out hdr (by omega))
      have XD := Lib.hid (shModel.below X0.out hdr (by omega))
      have DR := Lib.hid hdr
      have szd : w7.heap.size ≤ w7.drew.heap.size := hdr.size
      have XBD : Hid (w7.drew.heap[w5.heap.size]? = _) := Lib.hid XB0.out
      clear hdr
      have HC1 := Lib.hid (toModel_c w7.drew _ _ x0 FD.out (by omega) (by rw [U0.out]; omega))
      have HC2 := Lib.hid fun (w1 : World) (es : List Value) (hb : Below w7.drew.heap.size w7.drew w1) (hr : shModel.reads (From w7.drew.heap.size w1.heap.size) w1 es x0) => eqModel_c w1 _ _ _ es x0 (shModel.below XD.out hb (by omega)) (shModel.under hr) (by have := hb.size; omega) (Nat.le_refl _) (by rw [U0.out]; omega)
      go_region_law (first
        | (go_simp; go_at_call 11; (with_reducible refine HC1.out.mono ?_); rintro e wt ⟨eg, rfl, hr, hb⟩; have hq := HC2.out wt eg hb hr; have zz_0 := cell_of_row _ w5.heap.size 0 _ _ _ ((hb.block w5.heap.size (by omega)).trans XBD.out); simp only [List.getElem?_toArray, List.getElem?_cons_zero, List.getElem?_cons_succ] at zz_0; obtain ⟨ag_0, ng_0, cg_0, rfl, -⟩ := shModel_reads.1 hr; have HQ := Lib.hid hq; have HBT := Lib.hid hb; have szt := hb.size; clear hb hr hq)
        | (go_simp; go_at_call 13; (with_reducible refine HQ.out.mono ?_); rintro e wq ⟨rfl, hb⟩; have BQ := Lib.hid (DR.out.trans ((HBT.out.mono szd).trans (hb.mono (by omega)))); clear hb))
      all_goals
        go_wp2_with fail
        go_meet
        case rel => exact ⟨rfl, BQ.out⟩
    case rest =>
      obtain ⟨rfl, hb⟩ := hcut
      clear zx_0
      clear za_0
      obtain ⟨w8, rfl⟩ : ∃ x, x = wc := ⟨_, rfl⟩
      have szw8 := hb.size
      replace F0 := Lib.hid (shModel.below F0.out hb (by omega))
      replace AB0 := Lib.hid ((hb.block w.heap.size (by omega)).trans AB0.out)
      replace X0 := Lib.hid (shModel.below X0.out hb (by omega))
      replace XB0 := Lib.hid ((hb.block w5.heap.size (by omega)).trans XB0.out)
      replace T := Lib.hid (T.out.trans (hb.mono (by omega)))
      clear hb
      go_wp2_with fail
      go_ret
      exact ⟨rfl, T.out⟩
  · go_enter Try.func3, Try.ntmps3
    go_wp2_with fail
    have hb := (Below.refl w.heap.size w).alloc (Nat.le_refl _) (.cells #[.slice a0_0 n0_0 c0_0] 24 (0, 0))
    have hk := heap_alloc_new w (.cells #[.slice a0_0 n0_0 c0_0] 24 (0, 0))
    have szw1 : w.heap.size < (w.alloc (.cells #[.slice a0_0 n0_0 c0_0] 24 (0, 0))).heap.size := by simp
    have ee : (w.alloc (.cells #[.slice a0_0 n0_0 c0_0] 24 (0, 0))).heap.size = w.heap.size + 1 := by simp
    generalize w.alloc (.cells #[.slice a0_0 n0_0 c0_0] 24 (0, 0)) = w1 at hb hk szw1 ee ⊢
    have EE1 := Lib.hid ee
    clear ee
    replace F0 := Lib.hid (shModel.below F0.out hb (by omega))
    replace T := Lib.hid (T.out.trans (hb.mono (by omega)))
    have AB0 := Lib.hid hk
    clear hb hk
    have hc := szModel_c _ _ _ x0 (1048576) F0.out (by omega) (by omega) (by omega)
    rw [U0.out, szN_no (by omega)] at hc
    have HC := Lib.hid hc
    clear hc
    refine HC.out.mono ?_
    rintro e w2 ⟨rfl, hb⟩
    clear HC
    have szw2 := hb.size
    replace F0 := Lib.hid (shModel.below F0.out hb (by omega))
    replace AB0 := Lib.hid ((hb.block w.heap.size (by omega)).trans AB0.out)
    replace T := Lib.hid (T.out.trans (hb.mono (by omega)))
    clear hb
    go_wp2_with fail
    go_ret
    exact ⟨rfl, T.out⟩
set_option maxRecDepth 100000 in
set_option maxHeartbeats 6400000 in
theorem lawInOf_any (w : World) (es0 : List Value) (x0 : dModel) (h0 : shModel.reads (Under w.heap.size) w es0 x0) :
    Calls Try.prog 4 #[(.agg es0.toArray)] w fun e w' => e = .returned (.bool true) ∧ Below w.heap.size w w' := by
  obtain ⟨a0_0, n0_0, c0_0, rfl, -⟩ := shModel_reads.1 h0
  obtain ⟨u0, hu0⟩ : ∃ u, shModel.bulk x0 = u := ⟨_, rfl⟩
  have U0 := Lib.hid hu0
  have F0 := Lib.hid h0
  have T := Lib.hid (Below.refl w.heap.size w)
  clear hu0 h0
  by_cases f0 : ((u0 : Nat) : Int) ≤ 1048576
  · go_enter Try.func4, Try.ntmps4
    go_wp2_with fail
    have hb := (Below.refl w.heap.size w).alloc (Nat.le_refl _) (.cells #[.slice a0_0 n0_0 c0_0] 24 (0, 0))
    have hk := heap_alloc_new w (.cells #[.slice a0_0 n0_0 c0_0] 24 (0, 0))
    have szw1 : w.heap.size < (w.alloc (.cells #[.slice a0_0 n0_0 c0_0] 24 (0, 0))).heap.size := by simp
    have ee : (w.alloc (.cells #[.slice a0_0 n0_0 c0_0] 24 (0, 0))).heap.size = w.heap.size + 1 := by simp
    generalize w.alloc (.cells #[.slice a0_0 n0_0 c0_0] 24 (0, 0)) = w1 at hb hk szw1 ee ⊢
    have EE1 := Lib.hid ee
    clear ee
    replace F0 := Lib.hid (shModel.below F0.out hb (by omega))
    replace T := Lib.hid (T.out.trans (hb.mono (by omega)))
    have AB0 := Lib.hid hk
    clear hb hk
    have hc := szModel_c _ _ _ x0 (1048576) F0.out (by omega) (by omega) (by omega)
    rw [U0.out, szN_yes (by omega)] at hc
    obtain ⟨l0, hl0⟩ : ∃ l, 1048576 - (u0 : Int) = l := ⟨_, rfl⟩
    rw [hl0] at hc
    have t0 : decide (l0 < 0) = false := decide_eq_false (by omega)
    have HC := Lib.hid hc
    clear hc
    refine HC.out.mono ?_
    rintro e w2 ⟨rfl, hb⟩
    clear HC
    have szw2 := hb.size
    replace F0 := Lib.hid (shModel.below F0.out hb (by omega))
    replace AB0 := Lib.hid ((hb.block w.heap.size (by omega)).trans AB0.out)
    replace T := Lib.hid (T.out.trans (hb.mono (by omega)))
    clear hb
    have ub : u0 ≤ 1048576 := by omega
    have HC := Lib.hid (toModel_c _ _ _ x0 F0.out (by omega) (by rw [U0.out]; omega))
    have za_0 := cell_of_row _ w.heap.size 0 _ _ _ AB0.out
    simp only [List.getElem?_toArray, List.getElem?_cons_zero, List.getElem?_cons_succ] at za_0
    go_wp2_with fail
    clear za_0
    refine HC.out.mono ?_
    rintro e w3 ⟨eY0, rfl, hr, hb⟩
    clear HC
    have szw3 := hb.size
    replace F0 := Lib.hid (shModel.below F0.out hb (by omega))
    replace AB0 := Lib.hid ((hb.block w.heap.size (by omega)).trans AB0.out)
    replace T := Lib.hid (T.out.trans (hb.mono (by omega)))
    clear hb
    have hY0 := shModel.under hr
    obtain ⟨aY0_0, nY0_0, cY0_0, rfl, -⟩ := shModel_reads.1 hY0
    have Y0 := Lib.hid hY0
    clear hr hY0
    obtain ⟨v, hv⟩ : ∃ v, inOfN x0 = v := ⟨_, rfl⟩
    have HV := Lib.hid hv
    clear hv
    have hc := specInOf_d _ _ x0 (shModel.le Y0.out (by omega)) (by rw [U0.out]; omega)
    rw [HV.out] at hc
    have HC := Lib.hid hc
    clear hc
    go_wp2_with fail
    refine HC.out.mono ?_
    rintro e w4 ⟨rfl, hb⟩
    clear HC Y0
    have szw4 := hb.size
    replace F0 := Lib.hid (shModel.below F0.out hb (by omega))
    replace AB0 := Lib.hid ((hb.block w.heap.size (by omega)).trans AB0.out)
    replace T := Lib.hid (T.out.trans (hb.mono (by omega)))
    clear hb
    have HC := Lib.hid (toModel_c _ _ _ x0 F0.out (by omega) (by rw [U0.out]; omega))
    have za_0 := cell_of_row _ w.heap.size 0 _ _ _ AB0.out
    simp only [List.getElem?_toArray, List.getElem?_cons_zero, List.getElem?_cons_succ] at za_0
    go_wp2_with fail
    clear za_0
    refine HC.out.mono ?_
    rintro e w5 ⟨eX0, rfl, hr, hb⟩
    clear HC
    have szw5 := hb.size
    replace F0 := Lib.hid (shModel.below F0.out hb (by omega))
    replace AB0 := Lib.hid ((hb.block w.heap.size (by omega)).trans AB0.out)
    replace T := Lib.hid (T.out.trans (hb.mono (by omega)))
    clear hb
    have hX0 := shModel.under hr
    obtain ⟨aX0_0, nX0_0, cX0_0, rfl, -⟩ := shModel_reads.1 hX0
    have X0 := Lib.hid hX0
    clear hr hX0
    go_wp2_with fail
    have hb := (Below.refl w5.heap.size w5).alloc (Nat.le_refl _) (.cells #[.slice aX0_0 nX0_0 cX0_0] 29 (0, 0))
    have hk := heap_alloc_new w5 (.cells #[.slice aX0_0 nX0_0 cX0_0] 29 (0, 0))
    have szw6 : w5.heap.size < (w5.alloc (.cells #[.slice aX0_0 nX0_0 cX0_0] 29 (0, 0))).heap.size := by simp
    generalize w5.alloc (.cells #[.slice aX0_0 nX0_0 cX0_0] 29 (0, 0)) = w6 at hb hk szw6 ⊢
    replace F0 := Lib.hid (shModel.below F0.out hb (by omega))
    replace AB0 := Lib.hid ((hb.block w.heap.size (by omega)).trans AB0.out)
    replace X0 := Lib.hid (shModel.below X0.out hb (by omega))
    replace T := Lib.hid (T.out.trans (hb.mono (by omega)))
    have XB0 := Lib.hid hk
    clear hb hk
    have hc := implInOf_d _ _ x0 (shModel.le X0.out (by omega)) (by rw [U0.out]; omega)
    rw [HV.out] at hc
    have HC := Lib.hid hc
    clear hc
    have zx0_0 := cell_of_row _ w5.heap.size 0 _ _ _ XB0.out
    simp only [List.getElem?_toArray, List.getElem?_cons_zero, List.getElem?_cons_succ] at zx0_0
    try go_wp2_with fail
    clear zx0_0
    refine HC.out.mono ?_
    rintro e w7 ⟨rfl, hb⟩
    clear HC
    have szw7 := hb.size
    replace F0 := Lib.hid (shModel.below F0.out hb (by omega))
    replace AB0 := Lib.hid ((hb.block w.heap.size (by omega)).trans AB0.out)
    replace X0 := Lib.hid (shModel.below X0.out hb (by omega))
    replace XB0 := Lib.hid ((hb.block w5.heap.size (by omega)).trans XB0.out)
    replace T := Lib.hid (T.out.trans (hb.mono (by omega)))
    clear hb
    have zx_0 := cell_of_row _ w5.heap.size 0 _ _ _ XB0.out
    simp only [List.getElem?_toArray, List.getElem?_cons_zero, List.getElem?_cons_succ] at zx_0
    have za_0 := cell_of_row _ w.heap.size 0 _ _ _ AB0.out
    simp only [List.getElem?_toArray, List.getElem?_cons_zero, List.getElem?_cons_succ] at za_0
    go_upto_region 10 with fail
    go_cut [26] (fun t wx => t = .bool false ∧ Below w7.heap.size w7 wx)
    case first =>
      have hdr : Below w7.heap.size w7 w7.drew := (Below.refl _ _).drew
      have FD := Lib.hid (shModel.below F0.out hdr (by omega))
      have XD := Lib.hid (shModel.below X0.out hdr (by omega))
      have DR := Lib.hid hdr
      have szd : w7.heap.size ≤ w7.drew.heap.size := hdr.size
      have XBD : Hid (w7.drew.heap[w5.heap.size]? = _) := Lib.hid XB0.out
      clear hdr
      have HC1 := Lib.hid (toModel_c w7.drew _ _ x0 FD.out (by omega) (by rw [U0.out]; omega))
      have HC2 := Lib.hid fun (w1 : World) (es : List Value) (hb : Below w7.drew.heap.size w7.drew w1) (hr : shModel.reads (From w7.drew.heap.size w1.heap.size) w1 es x0) => eqModel_c w1 _ _ _ es x0 (shModel.below XD.out hb (by omega)) (shModel.under hr) (by have := hb.size; omega) (Nat.le_refl _) (by rw [U0.out]; omega)
      go_region_law (first
        | (go_simp; go_at_call 11; (with_reducible refine HC1.out.mono ?_); rintro e wt ⟨eg, rfl, hr, hb⟩; have hq := HC2.out wt eg hb hr; have zz_0 := cell_of_row _ w5.heap.size 0 _ _ _ ((hb.block w5.heap.size (by omega)).trans XBD.out); simp only [List.getElem?_toArray, List.getElem?_cons_zero, List.getElem?_cons_succ] at zz_0; obtain ⟨ag_0, ng_0, cg_0, rfl, -⟩ := shModel_reads.1 hr; have HQ := Lib.hid hq; have HBT := Lib.hid hb; have szt := hb.size; clear hb hr hq)
        | (go_simp; go_at_call 13; (with_reducible refine HQ.out.mono ?_); rintro e wq ⟨rfl, hb⟩; have BQ := Lib.hid (DR.out.trans ((HBT.out.mono szd).trans (hb.mono (by omega)))); clear hb))
      all_goals
        go_wp2_with fail
        go_meet
        case rel => exact ⟨rfl, BQ.out⟩
    case rest =>
      obtain ⟨rfl, hb⟩ := hcut
      clear zx_0
      clear za_0
      obtain ⟨w8, rfl⟩ : ∃ x, x = wc := ⟨_, rfl⟩
      have szw8 := hb.size
      replace F0 := Lib.hid (shModel.below F0.out hb (by omega))
      replace AB0 := Lib.hid ((hb.block w.heap.size (by omega)).trans AB0.out)
      replace X0 := Lib.hid (shModel.below X0.out hb (by omega))
      replace XB0 := Lib.hid ((hb.block w5.heap.size (by omega)).trans XB0.out)
      replace T := Lib.hid (T.out.trans (hb.mono (by omega)))
      clear hb
      go_wp2_with fail
      go_ret
      exact ⟨rfl, T.out⟩
  · go_enter Try.func4, Try.ntmps4
    go_wp2_with fail
    have hb := (Below.refl w.heap.size w).alloc (Nat.le_refl _) (.cells #[.slice a0_0 n0_0 c0_0] 24 (0, 0))
    have hk := heap_alloc_new w (.cells #[.slice a0_0 n0_0 c0_0] 24 (0, 0))
    have szw1 : w.heap.size < (w.alloc (.cells #[.slice a0_0 n0_0 c0_0] 24 (0, 0))).heap.size := by simp
    have ee : (w.alloc (.cells #[.slice a0_0 n0_0 c0_0] 24 (0, 0))).heap.size = w.heap.size + 1 := by simp
    generalize w.alloc (.cells #[.slice a0_0 n0_0 c0_0] 24 (0, 0)) = w1 at hb hk szw1 ee ⊢
    have EE1 := Lib.hid ee
    clear ee
    replace F0 := Lib.hid (shModel.below F0.out hb (by omega))
    replace T := Lib.hid (T.out.trans (hb.mono (by omega)))
    have AB0 := Lib.hid hk
    clear hb hk
    have hc := szModel_c _ _ _ x0 (1048576) F0.out (by omega) (by omega) (by omega)
    rw [U0.out, szN_no (by omega)] at hc
    have HC := Lib.hid hc
    clear hc
    refine HC.out.mono ?_
    rintro e w2 ⟨rfl, hb⟩
    clear HC
    have szw2 := hb.size
    replace F0 := Lib.hid (shModel.below F0.out hb (by omega))
    replace AB0 := Lib.hid ((hb.block w.heap.size (by omega)).trans AB0.out)
    replace T := Lib.hid (T.out.trans (hb.mono (by omega)))
    clear hb
    go_wp2_with fail
    go_ret
    exact ⟨rfl, T.out⟩
set_option maxRecDepth 100000 in
set_option maxHeartbeats 6400000 in
theorem lawOutOf_any (w : World) (es0 : List Value) (x0 : dModel) (h0 : shModel.reads (Under w.heap.size) w es0 x0) :
    Calls Try.prog 5 #[(.agg es0.toArray)] w fun e w' => e = .returned (.bool true) ∧ Below w.heap.size w w' := by
  obtain ⟨a0_0, n0_0, c0_0, rfl, -⟩ := shModel_reads.1 h0
  obtain ⟨u0, hu0⟩ : ∃ u, shModel.bulk x0 = u := ⟨_, rfl⟩
  have U0 := Lib.hid hu0
  have F0 := Lib.hid h0
  have T := Lib.hid (Below.refl w.heap.size w)
  clear hu0 h0
  by_cases f0 : ((u0 : Nat) : Int) ≤ 1048576
  · go_enter Try.func5, Try.ntmps5
    go_wp2_with fail
    have hb := (Below.refl w.heap.size w).alloc (Nat.le_refl _) (.cells #[.slice a0_0 n0_0 c0_0] 24 (0, 0))
    have hk := heap_alloc_new w (.cells #[.slice a0_0 n0_0 c0_0] 24 (0, 0))
    have szw1 : w.heap.size < (w.alloc (.cells #[.slice a0_0 n0_0 c0_0] 24 (0, 0))).heap.size := by simp
    have ee : (w.alloc (.cells #[.slice a0_0 n0_0 c0_0] 24 (0, 0))).heap.size = w.heap.size + 1 := by simp
    generalize w.alloc (.cells #[.slice a0_0 n0_0 c0_0] 24 (0, 0)) = w1 at hb hk szw1 ee ⊢
    have EE1 := Lib.hid ee
    clear ee
    replace F0 := Lib.hid (shModel.below F0.out hb (by omega))
    replace T := Lib.hid (T.out.trans (hb.mono (by omega)))
    have AB0 := Lib.hid hk
    clear hb hk
    have hc := szModel_c _ _ _ x0 (1048576) F0.out (by omega) (by omega) (by omega)
    rw [U0.out, szN_yes (by omega)] at hc
    obtain ⟨l0, hl0⟩ : ∃ l, 1048576 - (u0 : Int) = l := ⟨_, rfl⟩
    rw [hl0] at hc
    have t0 : decide (l0 < 0) = false := decide_eq_false (by omega)
    have HC := Lib.hid hc
    clear hc
    refine HC.out.mono ?_
    rintro e w2 ⟨rfl, hb⟩
    clear HC
    have szw2 := hb.size
    replace F0 := Lib.hid (shModel.below F0.out hb (by omega))
    replace AB0 := Lib.hid ((hb.block w.heap.size (by omega)).trans AB0.out)
    replace T := Lib.hid (T.out.trans (hb.mono (by omega)))
    clear hb
    have ub : u0 ≤ 1048576 := by omega
    have HC := Lib.hid (toModel_c _ _ _ x0 F0.out (by omega) (by rw [U0.out]; omega))
    have za_0 := cell_of_row _ w.heap.size 0 _ _ _ AB0.out
    simp only [List.getElem?_toArray, List.getElem?_cons_zero, List.getElem?_cons_succ] at za_0
    go_wp2_with fail
    clear za_0
    refine HC.out.mono ?_
    rintro e w3 ⟨eY0, rfl, hr, hb⟩
    clear HC
    have szw3 := hb.size
    replace F0 := Lib.hid (shModel.below F0.out hb (by omega))
    replace AB0 := Lib.hid ((hb.block w.heap.size (by omega)).trans AB0.out)
    replace T := Lib.hid (T.out.trans (hb.mono (by omega)))
    clear hb
    have hY0 := shModel.under hr
    obtain ⟨aY0_0, nY0_0, cY0_0, rfl, -⟩ := shModel_reads.1 hY0
    have Y0 := Lib.hid hY0
    clear hr hY0
    obtain ⟨v, hv⟩ : ∃ v, outOfN x0 = v := ⟨_, rfl⟩
    have HV := Lib.hid hv
    clear hv
    have hc := specOutOf_d _ _ x0 (shModel.le Y0.out (by omega)) (by rw [U0.out]; omega)
    rw [HV.out] at hc
    have HC := Lib.hid hc
    clear hc
    go_wp2_with fail
    refine HC.out.mono ?_
    rintro e w4 ⟨rfl, hb⟩
    clear HC Y0
    have szw4 := hb.size
    replace F0 := Lib.hid (shModel.below F0.out hb (by omega))
    replace AB0 := Lib.hid ((hb.block w.heap.size (by omega)).trans AB0.out)
    replace T := Lib.hid (T.out.trans (hb.mono (by omega)))
    clear hb
    have HC := Lib.hid (toModel_c _ _ _ x0 F0.out (by omega) (by rw [U0.out]; omega))
    have za_0 := cell_of_row _ w.heap.size 0 _ _ _ AB0.out
    simp only [List.getElem?_toArray, List.getElem?_cons_zero, List.getElem?_cons_succ] at za_0
    go_wp2_with fail
    clear za_0
    refine HC.out.mono ?_
    rintro e w5 ⟨eX0, rfl, hr, hb⟩
    clear HC
    have szw5 := hb.size
    replace F0 := Lib.hid (shModel.below F0.out hb (by omega))
    replace AB0 := Lib.hid ((hb.block w.heap.size (by omega)).trans AB0.out)
    replace T := Lib.hid (T.out.trans (hb.mono (by omega)))
    clear hb
    have hX0 := shModel.under hr
    obtain ⟨aX0_0, nX0_0, cX0_0, rfl, -⟩ := shModel_reads.1 hX0
    have X0 := Lib.hid hX0
    clear hr hX0
    go_wp2_with fail
    have hb := (Below.refl w5.heap.size w5).alloc (Nat.le_refl _) (.cells #[.slice aX0_0 nX0_0 cX0_0] 29 (0, 0))
    have hk := heap_alloc_new w5 (.cells #[.slice aX0_0 nX0_0 cX0_0] 29 (0, 0))
    have szw6 : w5.heap.size < (w5.alloc (.cells #[.slice aX0_0 nX0_0 cX0_0] 29 (0, 0))).heap.size := by simp
    generalize w5.alloc (.cells #[.slice aX0_0 nX0_0 cX0_0] 29 (0, 0)) = w6 at hb hk szw6 ⊢
    replace F0 := Lib.hid (shModel.below F0.out hb (by omega))
    replace AB0 := Lib.hid ((hb.block w.heap.size (by omega)).trans AB0.out)
    replace X0 := Lib.hid (shModel.below X0.out hb (by omega))
    replace T := Lib.hid (T.out.trans (hb.mono (by omega)))
    have XB0 := Lib.hid hk
    clear hb hk
    have hc := implOutOf_d _ _ x0 (shModel.le X0.out (by omega)) (by rw [U0.out]; omega)
    rw [HV.out] at hc
    have HC := Lib.hid hc
    clear hc
    have zx0_0 := cell_of_row _ w5.heap.size 0 _ _ _ XB0.out
    simp only [List.getElem?_toArray, List.getElem?_cons_zero, List.getElem?_cons_succ] at zx0_0
    try go_wp2_with fail
    clear zx0_0
    refine HC.out.mono ?_
    rintro e w7 ⟨rfl, hb⟩
    clear HC
    have szw7 := hb.size
    replace F0 := Lib.hid (shModel.below F0.out hb (by omega))
    replace AB0 := Lib.hid ((hb.block w.heap.size (by omega)).trans AB0.out)
    replace X0 := Lib.hid (shModel.below X0.out hb (by omega))
    replace XB0 := Lib.hid ((hb.block w5.heap.size (by omega)).trans XB0.out)
    replace T := Lib.hid (T.out.trans (hb.mono (by omega)))
    clear hb
    have zx_0 := cell_of_row _ w5.heap.size 0 _ _ _ XB0.out
    simp only [List.getElem?_toArray, List.getElem?_cons_zero, List.getElem?_cons_succ] at zx_0
    have za_0 := cell_of_row _ w.heap.size 0 _ _ _ AB0.out
    simp only [List.getElem?_toArray, List.getElem?_cons_zero, List.getElem?_cons_succ] at za_0
    go_upto_region 10 with fail
    go_cut [26] (fun t wx => t = .bool false ∧ Below w7.heap.size w7 wx)
    case first =>
      have hdr : Below w7.heap.size w7 w7.drew := (Below.refl _ _).drew
      have FD := Lib.hid (shModel.below F0.out hdr (by omega))
      have XD := Lib.hid (shModel.below X0.out hdr (by omega))
      have DR := Lib.hid hdr
      have szd : w7.heap.size ≤ w7.drew.heap.size := hdr.size
      have XBD : Hid (w7.drew.heap[w5.heap.size]? = _) := Lib.hid XB0.out
      clear hdr
      have HC1 := Lib.hid (toModel_c w7.drew _ _ x0 FD.out (by omega) (by rw [U0.out]; omega))
      have HC2 := Lib.hid fun (w1 : World) (es : List Value) (hb : Below w7.drew.heap.size w7.drew w1) (hr : shModel.reads (From w7.drew.heap.size w1.heap.size) w1 es x0) => eqModel_c w1 _ _ _ es x0 (shModel.below XD.out hb (by omega)) (shModel.under hr) (by have := hb.size; omega) (Nat.le_refl _) (by rw [U0.out]; omega)
      go_region_law (first
        | (go_simp; go_at_call 11; (with_reducible refine HC1.out.mono ?_); rintro e wt ⟨eg, rfl, hr, hb⟩; have hq := HC2.out wt eg hb hr; have zz_0 := cell_of_row _ w5.heap.size 0 _ _ _ ((hb.block w5.heap.size (by omega)).trans XBD.out); simp only [List.getElem?_toArray, List.getElem?_cons_zero, List.getElem?_cons_succ] at zz_0; obtain ⟨ag_0, ng_0, cg_0, rfl, -⟩ := shModel_reads.1 hr; have HQ := Lib.hid hq; have HBT := Lib.hid hb; have szt := hb.size; clear hb hr hq)
        | (go_simp; go_at_call 13; (with_reducible refine HQ.out.mono ?_); rintro e wq ⟨rfl, hb⟩; have BQ := Lib.hid (DR.out.trans ((HBT.out.mono szd).trans (hb.mono (by omega)))); clear hb))
      all_goals
        go_wp2_with fail
        go_meet
        case rel => exact ⟨rfl, BQ.out⟩
    case rest =>
      obtain ⟨rfl, hb⟩ := hcut
      clear zx_0
      clear za_0
      obtain ⟨w8, rfl⟩ : ∃ x, x = wc := ⟨_, rfl⟩
      have szw8 := hb.size
      replace F0 := Lib.hid (shModel.below F0.out hb (by omega))
      replace AB0 := Lib.hid ((hb.block w.heap.size (by omega)).trans AB0.out)
      replace X0 := Lib.hid (shModel.below X0.out hb (by omega))
      replace XB0 := Lib.hid ((hb.block w5.heap.size (by omega)).trans XB0.out)
      replace T := Lib.hid (T.out.trans (hb.mono (by omega)))
      clear hb
      go_wp2_with fail
      go_ret
      exact ⟨rfl, T.out⟩
  · go_enter Try.func5, Try.ntmps5
    go_wp2_with fail
    have hb := (Below.refl w.heap.size w).alloc (Nat.le_refl _) (.cells #[.slice a0_0 n0_0 c0_0] 24 (0, 0))
    have hk := heap_alloc_new w (.cells #[.slice a0_0 n0_0 c0_0] 24 (0, 0))
    have szw1 : w.heap.size < (w.alloc (.cells #[.slice a0_0 n0_0 c0_0] 24 (0, 0))).heap.size := by simp
    have ee : (w.alloc (.cells #[.slice a0_0 n0_0 c0_0] 24 (0, 0))).heap.size = w.heap.size + 1 := by simp
    generalize w.alloc (.cells #[.slice a0_0 n0_0 c0_0] 24 (0, 0)) = w1 at hb hk szw1 ee ⊢
    have EE1 := Lib.hid ee
    clear ee
    replace F0 := Lib.hid (shModel.below F0.out hb (by omega))
    replace T := Lib.hid (T.out.trans (hb.mono (by omega)))
    have AB0 := Lib.hid hk
    clear hb hk
    have hc := szModel_c _ _ _ x0 (1048576) F0.out (by omega) (by omega) (by omega)
    rw [U0.out, szN_no (by omega)] at hc
    have HC := Lib.hid hc
    clear hc
    refine HC.out.mono ?_
    rintro e w2 ⟨rfl, hb⟩
    clear HC
    have szw2 := hb.size
    replace F0 := Lib.hid (shModel.below F0.out hb (by omega))
    replace AB0 := Lib.hid ((hb.block w.heap.size (by omega)).trans AB0.out)
    replace T := Lib.hid (T.out.trans (hb.mono (by omega)))
    clear hb
    go_wp2_with fail
    go_ret
    exact ⟨rfl, T.out⟩
set_option maxRecDepth 100000 in
set_option maxHeartbeats 6400000 in
theorem lawWordsOf_any (w : World) (es0 : List Value) (x0 : dModel) (h0 : shModel.reads (Under w.heap.size) w es0 x0) :
    Calls Try.prog 7 #[(.agg es0.toArray)] w fun e w' => e = .returned (.bool true) ∧ Below w.heap.size w w' := by
  obtain ⟨a0_0, n0_0, c0_0, rfl, -⟩ := shModel_reads.1 h0
  obtain ⟨u0, hu0⟩ : ∃ u, shModel.bulk x0 = u := ⟨_, rfl⟩
  have U0 := Lib.hid hu0
  have F0 := Lib.hid h0
  have T := Lib.hid (Below.refl w.heap.size w)
  clear hu0 h0
  by_cases f0 : ((u0 : Nat) : Int) ≤ 1048576
  · go_enter Try.func7, Try.ntmps7
    go_wp2_with fail
    have hb := (Below.refl w.heap.size w).alloc (Nat.le_refl _) (.cells #[.slice a0_0 n0_0 c0_0] 24 (0, 0))
    have hk := heap_alloc_new w (.cells #[.slice a0_0 n0_0 c0_0] 24 (0, 0))
    have szw1 : w.heap.size < (w.alloc (.cells #[.slice a0_0 n0_0 c0_0] 24 (0, 0))).heap.size := by simp
    have ee : (w.alloc (.cells #[.slice a0_0 n0_0 c0_0] 24 (0, 0))).heap.size = w.heap.size + 1 := by simp
    generalize w.alloc (.cells #[.slice a0_0 n0_0 c0_0] 24 (0, 0)) = w1 at hb hk szw1 ee ⊢
    have EE1 := Lib.hid ee
    clear ee
    replace F0 := Lib.hid (shModel.below F0.out hb (by omega))
    replace T := Lib.hid (T.out.trans (hb.mono (by omega)))
    have AB0 := Lib.hid hk
    clear hb hk
    have hc := szModel_c _ _ _ x0 (1048576) F0.out (by omega) (by omega) (by omega)
    rw [U0.out, szN_yes (by omega)] at hc
    obtain ⟨l0, hl0⟩ : ∃ l, 1048576 - (u0 : Int) = l := ⟨_, rfl⟩
    rw [hl0] at hc
    have t0 : decide (l0 < 0) = false := decide_eq_false (by omega)
    have HC := Lib.hid hc
    clear hc
    refine HC.out.mono ?_
    rintro e w2 ⟨rfl, hb⟩
    clear HC
    have szw2 := hb.size
    replace F0 := Lib.hid (shModel.below F0.out hb (by omega))
    replace AB0 := Lib.hid ((hb.block w.heap.size (by omega)).trans AB0.out)
    replace T := Lib.hid (T.out.trans (hb.mono (by omega)))
    clear hb
    have ub : u0 ≤ 1048576 := by omega
    have HC := Lib.hid (toModel_c _ _ _ x0 F0.out (by omega) (by rw [U0.out]; omega))
    have za_0 := cell_of_row _ w.heap.size 0 _ _ _ AB0.out
    simp only [List.getElem?_toArray, List.getElem?_cons_zero, List.getElem?_cons_succ] at za_0
    go_wp2_with fail
    clear za_0
    refine HC.out.mono ?_
    rintro e w3 ⟨eY0, rfl, hr, hb⟩
    clear HC
    have szw3 := hb.size
    replace F0 := Lib.hid (shModel.below F0.out hb (by omega))
    replace AB0 := Lib.hid ((hb.block w.heap.size (by omega)).trans AB0.out)
    replace T := Lib.hid (T.out.trans (hb.mono (by omega)))
    clear hb
    have hY0 := shModel.under hr
    obtain ⟨aY0_0, nY0_0, cY0_0, rfl, -⟩ := shModel_reads.1 hY0
    have Y0 := Lib.hid hY0
    clear hr hY0
    obtain ⟨v, hv⟩ : ∃ v, wordsN x0 = v := ⟨_, rfl⟩
    have HV := Lib.hid hv
    clear hv
    have hc := specWordsOf_d _ _ x0 (shModel.le Y0.out (by omega)) (by rw [U0.out]; omega)
    rw [HV.out] at hc
    have HC := Lib.hid hc
    clear hc
    go_wp2_with fail
    refine HC.out.mono ?_
    rintro e w4 ⟨rfl, hb⟩
    clear HC Y0
    have szw4 := hb.size
    replace F0 := Lib.hid (shModel.below F0.out hb (by omega))
    replace AB0 := Lib.hid ((hb.block w.heap.size (by omega)).trans AB0.out)
    replace T := Lib.hid (T.out.trans (hb.mono (by omega)))
    clear hb
    have HC := Lib.hid (toModel_c _ _ _ x0 F0.out (by omega) (by rw [U0.out]; omega))
    have za_0 := cell_of_row _ w.heap.size 0 _ _ _ AB0.out
    simp only [List.getElem?_toArray, List.getElem?_cons_zero, List.getElem?_cons_succ] at za_0
    go_wp2_with fail
    clear za_0
    refine HC.out.mono ?_
    rintro e w5 ⟨eX0, rfl, hr, hb⟩
    clear HC
    have szw5 := hb.size
    replace F0 := Lib.hid (shModel.below F0.out hb (by omega))
    replace AB0 := Lib.hid ((hb.block w.heap.size (by omega)).trans AB0.out)
    replace T := Lib.hid (T.out.trans (hb.mono (by omega)))
    clear hb
    have hX0 := shModel.under hr
    obtain ⟨aX0_0, nX0_0, cX0_0, rfl, -⟩ := shModel_reads.1 hX0
    have X0 := Lib.hid hX0
    clear hr hX0
    go_wp2_with fail
    have hb := (Below.refl w5.heap.size w5).alloc (Nat.le_refl _) (.cells #[.slice aX0_0 nX0_0 cX0_0] 29 (0, 0))
    have hk := heap_alloc_new w5 (.cells #[.slice aX0_0 nX0_0 cX0_0] 29 (0, 0))
    have szw6 : w5.heap.size < (w5.alloc (.cells #[.slice aX0_0 nX0_0 cX0_0] 29 (0, 0))).heap.size := by simp
    generalize w5.alloc (.cells #[.slice aX0_0 nX0_0 cX0_0] 29 (0, 0)) = w6 at hb hk szw6 ⊢
    replace F0 := Lib.hid (shModel.below F0.out hb (by omega))
    replace AB0 := Lib.hid ((hb.block w.heap.size (by omega)).trans AB0.out)
    replace X0 := Lib.hid (shModel.below X0.out hb (by omega))
    replace T := Lib.hid (T.out.trans (hb.mono (by omega)))
    have XB0 := Lib.hid hk
    clear hb hk
    have hc := implWordsOf_d _ _ x0 (shModel.le X0.out (by omega)) (by rw [U0.out]; omega)
    rw [HV.out] at hc
    have HC := Lib.hid hc
    clear hc
    have zx0_0 := cell_of_row _ w5.heap.size 0 _ _ _ XB0.out
    simp only [List.getElem?_toArray, List.getElem?_cons_zero, List.getElem?_cons_succ] at zx0_0
    try go_wp2_with fail
    clear zx0_0
    refine HC.out.mono ?_
    rintro e w7 ⟨rfl, hb⟩
    clear HC
    have szw7 := hb.size
    replace F0 := Lib.hid (shModel.below F0.out hb (by omega))
    replace AB0 := Lib.hid ((hb.block w.heap.size (by omega)).trans AB0.out)
    replace X0 := Lib.hid (shModel.below X0.out hb (by omega))
    replace XB0 := Lib.hid ((hb.block w5.heap.size (by omega)).trans XB0.out)
    replace T := Lib.hid (T.out.trans (hb.mono (by omega)))
    clear hb
    have zx_0 := cell_of_row _ w5.heap.size 0 _ _ _ XB0.out
    simp only [List.getElem?_toArray, List.getElem?_cons_zero, List.getElem?_cons_succ] at zx_0
    have za_0 := cell_of_row _ w.heap.size 0 _ _ _ AB0.out
    simp only [List.getElem?_toArray, List.getElem?_cons_zero, List.getElem?_cons_succ] at za_0
    go_upto_region 10 with fail
    go_cut [26] (fun t wx => t = .bool false ∧ Below w7.heap.size w7 wx)
    case first =>
      have hdr : Below w7.heap.size w7 w7.drew := (Below.refl _ _).drew
      have FD := Lib.hid (shModel.below F0.out hdr (by omega))
      have XD := Lib.hid (shModel.below X0.out hdr (by omega))
      have DR := Lib.hid hdr
      have szd : w7.heap.size ≤ w7.drew.heap.size := hdr.size
      have XBD : Hid (w7.drew.heap[w5.heap.size]? = _) := Lib.hid XB0.out
      clear hdr
      have HC1 := Lib.hid (toModel_c w7.drew _ _ x0 FD.out (by omega) (by rw [U0.out]; omega))
      have HC2 := Lib.hid fun (w1 : World) (es : List Value) (hb : Below w7.drew.heap.size w7.drew w1) (hr : shModel.reads (From w7.drew.heap.size w1.heap.size) w1 es x0) => eqModel_c w1 _ _ _ es x0 (shModel.below XD.out hb (by omega)) (shModel.under hr) (by have := hb.size; omega) (Nat.le_refl _) (by rw [U0.out]; omega)
      go_region_law (first
        | (go_simp; go_at_call 11; (with_reducible refine HC1.out.mono ?_); rintro e wt ⟨eg, rfl, hr, hb⟩; have hq := HC2.out wt eg hb hr; have zz_0 := cell_of_row _ w5.heap.size 0 _ _ _ ((hb.block w5.heap.size (by omega)).trans XBD.out); simp only [List.getElem?_toArray, List.getElem?_cons_zero, List.getElem?_cons_succ] at zz_0; obtain ⟨ag_0, ng_0, cg_0, rfl, -⟩ := shModel_reads.1 hr; have HQ := Lib.hid hq; have HBT := Lib.hid hb; have szt := hb.size; clear hb hr hq)
        | (go_simp; go_at_call 13; (with_reducible refine HQ.out.mono ?_); rintro e wq ⟨rfl, hb⟩; have BQ := Lib.hid (DR.out.trans ((HBT.out.mono szd).trans (hb.mono (by omega)))); clear hb))
      all_goals
        go_wp2_with fail
        go_meet
        case rel => exact ⟨rfl, BQ.out⟩
    case rest =>
      obtain ⟨rfl, hb⟩ := hcut
      clear zx_0
      clear za_0
      obtain ⟨w8, rfl⟩ : ∃ x, x = wc := ⟨_, rfl⟩
      have szw8 := hb.size
      replace F0 := Lib.hid (shModel.below F0.out hb (by omega))
      replace AB0 := Lib.hid ((hb.block w.heap.size (by omega)).trans AB0.out)
      replace X0 := Lib.hid (shModel.below X0.out hb (by omega))
      replace XB0 := Lib.hid ((hb.block w5.heap.size (by omega)).trans XB0.out)
      replace T := Lib.hid (T.out.trans (hb.mono (by omega)))
      clear hb
      go_wp2_with fail
      go_ret
      exact ⟨rfl, T.out⟩
  · go_enter Try.func7, Try.ntmps7
    go_wp2_with fail
    have hb := (Below.refl w.heap.size w).alloc (Nat.le_refl _) (.cells #[.slice a0_0 n0_0 c0_0] 24 (0, 0))
    have hk := heap_alloc_new w (.cells #[.slice a0_0 n0_0 c0_0] 24 (0, 0))
    have szw1 : w.heap.size < (w.alloc (.cells #[.slice a0_0 n0_0 c0_0] 24 (0, 0))).heap.size := by simp
    have ee : (w.alloc (.cells #[.slice a0_0 n0_0 c0_0] 24 (0, 0))).heap.size = w.heap.size + 1 := by simp
    generalize w.alloc (.cells #[.slice a0_0 n0_0 c0_0] 24 (0, 0)) = w1 at hb hk szw1 ee ⊢
    have EE1 := Lib.hid ee
    clear ee
    replace F0 := Lib.hid (shModel.below F0.out hb (by omega))
    replace T := Lib.hid (T.out.trans (hb.mono (by omega)))
    have AB0 := Lib.hid hk
    clear hb hk
    have hc := szModel_c _ _ _ x0 (1048576) F0.out (by omega) (by omega) (by omega)
    rw [U0.out, szN_no (by omega)] at hc
    have HC := Lib.hid hc
    clear hc
    refine HC.out.mono ?_
    rintro e w2 ⟨rfl, hb⟩
    clear HC
    have szw2 := hb.size
    replace F0 := Lib.hid (shModel.below F0.out hb (by omega))
    replace AB0 := Lib.hid ((hb.block w.heap.size (by omega)).trans AB0.out)
    replace T := Lib.hid (T.out.trans (hb.mono (by omega)))
    clear hb
    go_wp2_with fail
    go_ret
    exact ⟨rfl, T.out⟩
set_option maxRecDepth 100000 in
set_option maxHeartbeats 6400000 in
theorem lawBatchOk_any (w : World) (es0 : List Value) (x0 : dModel) (h0 : shModel.reads (Under w.heap.size) w es0 x0) (a1 : Option Addr) (n1 c1 : Nat) (x1 : List dPair) (h1 : ListAt shPair (Under w.heap.size) w a1 n1 x1) (m1 : n1 ≤ 9223372036854775807) :
    Calls Try.prog 6 #[(.agg es0.toArray), (.slice a1 n1 c1)] w fun e w' => e = .returned (.bool true) ∧ Below w.heap.size w w' := by
  obtain ⟨a0_0, n0_0, c0_0, rfl, -⟩ := shModel_reads.1 h0
  obtain ⟨u0, hu0⟩ : ∃ u, shModel.bulk x0 = u := ⟨_, rfl⟩
  have U0 := Lib.hid hu0
  have F0 := Lib.hid h0
  obtain ⟨u1, hu1⟩ : ∃ u, (Shape.list shPair).bulk x1 = u := ⟨_, rfl⟩
  have U1 := Lib.hid hu1
  have F1 := Lib.hid h1
  have T := Lib.hid (Below.refl w.heap.size w)
  clear hu0 h0 hu1 h1
  by_cases f0 : ((u0 : Nat) : Int) ≤ 1048576
  · skip
    by_cases f1 : ((u0 + u1 : Nat) : Int) ≤ 1048576
    · go_enter Try.func6, Try.ntmps6
      go_wp2_with fail
      have hb := (Below.refl w.heap.size w).alloc (Nat.le_refl _) (.cells #[.slice a0_0 n0_0 c0_0] 24 (0, 0))
      have hk := heap_alloc_new w (.cells #[.slice a0_0 n0_0 c0_0] 24 (0, 0))
      have szw1 : w.heap.size < (w.alloc (.cells #[.slice a0_0 n0_0 c0_0] 24 (0, 0))).heap.size := by simp
      have ee : (w.alloc (.cells #[.slice a0_0 n0_0 c0_0] 24 (0, 0))).heap.size = w.heap.size + 1 := by simp
      generalize w.alloc (.cells #[.slice a0_0 n0_0 c0_0] 24 (0, 0)) = w1 at hb hk szw1 ee ⊢
      have EE1 := Lib.hid ee
      clear ee
      replace F0 := Lib.hid (shModel.below F0.out hb (by omega))
      replace F1 := Lib.hid (F1.out.below hb (by omega))
      replace T := Lib.hid (T.out.trans (hb.mono (by omega)))
      have AB0 := Lib.hid hk
      clear hb hk
      have hc := szModel_c _ _ _ x0 (1048576) F0.out (by omega) (by omega) (by omega)
      rw [U0.out, szN_yes (by omega)] at hc
      obtain ⟨l0, hl0⟩ : ∃ l, 1048576 - (u0 : Int) = l := ⟨_, rfl⟩
      rw [hl0] at hc
      have t0 : decide (l0 < 0) = false := decide_eq_false (by omega)
      have HC := Lib.hid hc
      clear hc
      refine HC.out.mono ?_
      rintro e w2 ⟨rfl, hb⟩
      clear HC
      have szw2 := hb.size
      replace F0 := Lib.hid (shModel.below F0.out hb (by omega))
      replace F1 := Lib.hid (F1.out.below hb (by omega))
      replace AB0 := Lib.hid ((hb.block w.heap.size (by omega)).trans AB0.out)
      replace T := Lib.hid (T.out.trans (hb.mono (by omega)))
      clear hb
      have hc := szPairS_c _ _ a1 n1 c1 x1 (l0) F1.out (by omega) m1 (by omega) (by omega)
      rw [U1.out, szN_yes (by omega)] at hc
      obtain ⟨l1, hl1⟩ : ∃ l, l0 - (u1 : Int) = l := ⟨_, rfl⟩
      rw [hl1] at hc
      have t1 : decide (l1 < 0) = false := decide_eq_false (by omega)
      have HC := Lib.hid hc
      clear hc
      go_wp2_with fail
      refine HC.out.mono ?_
      rintro e w3 ⟨rfl, hb⟩
      clear HC
      have szw3 := hb.size
      replace F0 := Lib.hid (shModel.below F0.out hb (by omega))
      replace F1 := Lib.hid (F1.out.below hb (by omega))
      replace AB0 := Lib.hid ((hb.block w.heap.size (by omega)).trans AB0.out)
      replace T := Lib.hid (T.out.trans (hb.mono (by omega)))
      clear hb
      have ub : u0 + u1 ≤ 1048576 := by omega
      have HC := Lib.hid (toModel_c _ _ _ x0 F0.out (by omega) (by rw [U0.out]; omega))
      have za_0 := cell_of_row _ w.heap.size 0 _ _ _ AB0.out
      simp only [List.getElem?_toArray, List.getElem?_cons_zero, List.getElem?_cons_succ] at za_0
      go_wp2_with fail
      clear za_0
      refine HC.out.mono ?_
      rintro e w4 ⟨eY0, rfl, hr, hb⟩
      clear HC
      have szw4 := hb.size
      replace F0 := Lib.hid (shModel.below F0.out hb (by omega))
      replace F1 := Lib.hid (F1.out.below hb (by omega))
      replace AB0 := Lib.hid ((hb.block w.heap.size (by omega)).trans AB0.out)
      replace T := Lib.hid (T.out.trans (hb.mono (by omega)))
      clear hb
      have hY0 := shModel.under hr
      obtain ⟨aY0_0, nY0_0, cY0_0, rfl, -⟩ := shModel_reads.1 hY0
      have Y0 := Lib.hid hY0
      clear hr hY0
      have HC := Lib.hid (toPairS_c _ _ a1 n1 c1 x1 F1.out (by omega) (by rw [U1.out]; omega))
      go_wp2_with fail
      refine HC.out.mono ?_
      rintro e w5 ⟨rfl, hr, hb⟩
      clear HC
      have szw5 := hb.size
      replace F0 := Lib.hid (shModel.below F0.out hb (by omega))
      replace F1 := Lib.hid (F1.out.below hb (by omega))
      replace AB0 := Lib.hid ((hb.block w.heap.size (by omega)).trans AB0.out)
      replace Y0 := Lib.hid (shModel.below Y0.out hb (by omega))
      replace T := Lib.hid (T.out.trans (hb.mono (by omega)))
      clear hb
      have Y1 := Lib.hid hr.under
      clear hr
      have ln1 : n1 ≤ 1048576 := by have e1 := bulk_list shPair F1.out; have e2 := U1.out; omega
      obtain ⟨v, hv⟩ : ∃ v, batchOkB x0 x1 = v := ⟨_, rfl⟩
      have HV := Lib.hid hv
      clear hv
      have hc := specBatchOk_d _ _ x0 (shModel.le Y0.out (by omega)) (by rw [U0.out]; omega) _ n1 n1 x1 (Y1.out.le (by omega)) (Nat.le_refl _) (by omega) (by rw [U1.out]; omega)
      rw [HV.out] at hc
      have HC := Lib.hid hc
      clear hc
      go_wp2_with fail
      refine HC.out.mono ?_
      rintro e w6 ⟨rfl, hb⟩
      clear HC Y0 Y1
      have szw6 := hb.size
      replace F0 := Lib.hid (shModel.below F0.out hb (by omega))
      replace F1 := Lib.hid (F1.out.below hb (by omega))
      replace AB0 := Lib.hid ((hb.block w.heap.size (by omega)).trans AB0.out)
      replace T := Lib.hid (T.out.trans (hb.mono (by omega)))
      clear hb
      have HC := Lib.hid (toModel_c _ _ _ x0 F0.out (by omega) (by rw [U0.out]; omega))
      have za_0 := cell_of_row _ w.heap.size 0 _ _ _ AB0.out
      simp only [List.getElem?_toArray, List.getElem?_cons_zero, List.getElem?_cons_succ] at za_0
      go_wp2_with fail
      clear za_0
      refine HC.out.mono ?_
      rintro e w7 ⟨eX0, rfl, hr, hb⟩
      clear HC
      have szw7 := hb.size
      replace F0 := Lib.hid (shModel.below F0.out hb (by omega))
      replace F1 := Lib.hid (F1.out.below hb (by omega))
      replace AB0 := Lib.hid ((hb.block w.heap.size (by omega)).trans AB0.out)
      replace T := Lib.hid (T.out.trans (hb.mono (by omega)))
      clear hb
      have hX0 := shModel.under hr
      obtain ⟨aX0_0, nX0_0, cX0_0, rfl, -⟩ := shModel_reads.1 hX0
      have X0 := Lib.hid hX0
      clear hr hX0
      go_wp2_with fail
      have hb := (Below.refl w7.heap.size w7).alloc (Nat.le_refl _) (.cells #[.slice aX0_0 nX0_0 cX0_0] 29 (0, 0))
      have hk := heap_alloc_new w7 (.cells #[.slice aX0_0 nX0_0 cX0_0] 29 (0, 0))
      have szw8 : w7.heap.size < (w7.alloc (.cells #[.slice aX0_0 nX0_0 cX0_0] 29 (0, 0))).heap.size := by simp
      generalize w7.alloc (.cells #[.slice aX0_0 nX0_0 cX0_0] 29 (0, 0)) = w8 at hb hk szw8 ⊢
      replace F0 := Lib.hid (shModel.below F0.out hb (by omega))
      replace F1 := Lib.hid (F1.out.below hb (by omega))
      replace AB0 := Lib.hid ((hb.block w.heap.size (by omega)).trans AB0.out)
      replace X0 := Lib.hid (shModel.below X0.out hb (by omega))
      replace T := Lib.hid (T.out.trans (hb.mono (by omega)))
      have XB0 := Lib.hid hk
      clear hb hk
      have HC := Lib.hid (toPairS_c _ _ a1 n1 c1 x1 F1.out (by omega) (by rw [U1.out]; omega))
      go_wp2_with fail
      refine HC.out.mono ?_
      rintro e w9 ⟨rfl, hr, hb⟩
      clear HC
      have szw9 := hb.size
      replace F0 := Lib.hid (shModel.below F0.out hb (by omega))
      replace F1 := Lib.hid (F1.out.below hb (by omega))
      replace AB0 := Lib.hid ((hb.block w.heap.size (by omega)).trans AB0.out)
      replace X0 := Lib.hid (shModel.below X0.out hb (by omega))
      replace XB0 := Lib.hid ((hb.block w7.heap.size (by omega)).trans XB0.out)
      replace T := Lib.hid (T.out.trans (hb.mono (by omega)))
      clear hb
      have X1 := Lib.hid hr.under
      clear hr
      have hc := implBatchOk_d _ _ x0 (shModel.le X0.out (by omega)) (by rw [U0.out]; omega) _ n1 n1 x1 (X1.out.le (by omega)) (Nat.le_refl _) (by omega) (by rw [U1.out]; omega)
      rw [HV.out] at hc
      have HC := Lib.hid hc
      clear hc
      have zx0_0 := cell_of_row _ w7.heap.size 0 _ _ _ XB0.out
      simp only [List.getElem?_toArray, List.getElem?_cons_zero, List.getElem?_cons_succ] at zx0_0
      go_wp2_with fail
      clear zx0_0
      refine HC.out.mono ?_
      rintro e w10 ⟨rfl, hb⟩
      clear HC
      have szw10 := hb.size
      replace F0 := Lib.hid (shModel.below F0.out hb (by omega))
      replace F1 := Lib.hid (F1.out.below hb (by omega))
      replace AB0 := Lib.hid ((hb.block w.heap.size (by omega)).trans AB0.out)
      replace X0 := Lib.hid (shModel.below X0.out hb (by omega))
      replace XB0 := Lib.hid ((hb.block w7.heap.size (by omega)).trans XB0.out)
      replace X1 := Lib.hid (X1.out.below hb (by omega))
      replace T := Lib.hid (T.out.trans (hb.mono (by omega)))
      clear hb
      have zx_0 := cell_of_row _ w7.heap.size 0 _ _ _ XB0.out
      simp only [List.getElem?_toArray, List.getElem?_cons_zero, List.getElem?_cons_succ] at zx_0
      have za_0 := cell_of_row _ w.heap.size 0 _ _ _ AB0.out
      simp only [List.getElem?_toArray, List.getElem?_cons_zero, List.getElem?_cons_succ] at za_0
      go_upto_region 14 with fail
      go_cut [39] (fun t wx => t = .bool false ∧ Below w10.heap.size w10 wx)
      case first =>
        have hdr : Below w10.heap.size w10 w10.drew := (Below.refl _ _).drew
        have FD := Lib.hid (shModel.below F0.out hdr (by omega))
        have XD := Lib.hid (shModel.below X0.out hdr (by omega))
        have DR := Lib.hid hdr
        have szd : w10.heap.size ≤ w10.drew.heap.size := hdr.size
        have XBD : Hid (w10.drew.heap[w7.heap.size]? = _) := Lib.hid XB0.out
        clear hdr
        have HC1 := Lib.hid (toModel_c w10.drew _ _ x0 FD.out (by omega) (by rw [U0.out]; omega))
        have HC2 := Lib.hid fun (w1 : World) (es : List Value) (hb : Below w10.drew.heap.size w10.drew w1) (hr : shModel.reads (From w10.drew.heap.size w1.heap.size) w1 es x0) => eqModel_c w1 _ _ _ es x0 (shModel.below XD.out hb (by omega)) (shModel.under hr) (by have := hb.size; omega) (Nat.le_refl _) (by rw [U0.out]; omega)
        go_region_law (first
          | (go_simp; go_at_call 11; (with_reducible refine HC1.out.mono ?_); rintro e wt ⟨eg, rfl, hr, hb⟩; have hq := HC2.out wt eg hb hr; have zz_0 := cell_of_row _ w7.heap.size 0 _ _ _ ((hb.block w7.heap.size (by omega)).trans XBD.out); simp only [List.getElem?_toArray, List.getElem?_cons_zero, List.getElem?_cons_succ] at zz_0; obtain ⟨ag_0, ng_0, cg_0, rfl, -⟩ := shModel_reads.1 hr; have HQ := Lib.hid hq; have HBT := Lib.hid hb; have szt := hb.size; clear hb hr hq)
          | (go_simp; go_at_call 13; (with_reducible refine HQ.out.mono ?_); rintro e wq ⟨rfl, hb⟩; have BQ := Lib.hid (DR.out.trans ((HBT.out.mono szd).trans (hb.mono (by omega)))); clear hb))
        all_goals
          go_wp2_with fail
          go_meet
          case rel => exact ⟨rfl, BQ.out⟩
      case rest =>
        obtain ⟨rfl, hb⟩ := hcut
        clear zx_0
        clear za_0
        obtain ⟨w11, rfl⟩ : ∃ x, x = wc := ⟨_, rfl⟩
        have szw11 := hb.size
        replace F0 := Lib.hid (shModel.below F0.out hb (by omega))
        replace F1 := Lib.hid (F1.out.below hb (by omega))
        replace AB0 := Lib.hid ((hb.block w.heap.size (by omega)).trans AB0.out)
        replace X0 := Lib.hid (shModel.below X0.out hb (by omega))
        replace XB0 := Lib.hid ((hb.block w7.heap.size (by omega)).trans XB0.out)
        replace X1 := Lib.hid (X1.out.below hb (by omega))
        replace T := Lib.hid (T.out.trans (hb.mono (by omega)))
        clear hb
        have HC := Lib.hid (toPairS_c _ _ a1 n1 c1 x1 F1.out (by omega) (by rw [U1.out]; omega))
        go_wp2_with fail
        refine HC.out.mono ?_
        rintro e w12 ⟨rfl, hr, hb⟩
        clear HC
        have szw12 := hb.size
        replace F0 := Lib.hid (shModel.below F0.out hb (by omega))
        replace F1 := Lib.hid (F1.out.below hb (by omega))
        replace AB0 := Lib.hid ((hb.block w.heap.size (by omega)).trans AB0.out)
        replace X0 := Lib.hid (shModel.below X0.out hb (by omega))
        replace XB0 := Lib.hid ((hb.block w7.heap.size (by omega)).trans XB0.out)
        replace X1 := Lib.hid (X1.out.below hb (by omega))
        replace T := Lib.hid (T.out.trans (hb.mono (by omega)))
        clear hb
        have Z1 := Lib.hid hr.under
        clear hr
        have HC := Lib.hid (eqPairS_c _ _ _ _ _ n1 n1 n1 x1 X1.out Z1.out (by omega) (by omega) (by rw [U1.out]; omega))
        go_wp2_with fail
        refine HC.out.mono ?_
        rintro e w13 ⟨rfl, hb⟩
        clear HC Z1
        have szw13 := hb.size
        replace F0 := Lib.hid (shModel.below F0.out hb (by omega))
        replace F1 := Lib.hid (F1.out.below hb (by omega))
        replace AB0 := Lib.hid ((hb.block w.heap.size (by omega)).trans AB0.out)
        replace X0 := Lib.hid (shModel.below X0.out hb (by omega))
        replace XB0 := Lib.hid ((hb.block w7.heap.size (by omega)).trans XB0.out)
        replace X1 := Lib.hid (X1.out.below hb (by omega))
        replace T := Lib.hid (T.out.trans (hb.mono (by omega)))
        clear hb
        go_wp2_with fail
        go_ret
        exact ⟨rfl, T.out⟩
    · go_enter Try.func6, Try.ntmps6
      go_wp2_with fail
      have hb := (Below.refl w.heap.size w).alloc (Nat.le_refl _) (.cells #[.slice a0_0 n0_0 c0_0] 24 (0, 0))
      have hk := heap_alloc_new w (.cells #[.slice a0_0 n0_0 c0_0] 24 (0, 0))
      have szw1 : w.heap.size < (w.alloc (.cells #[.slice a0_0 n0_0 c0_0] 24 (0, 0))).heap.size := by simp
      have ee : (w.alloc (.cells #[.slice a0_0 n0_0 c0_0] 24 (0, 0))).heap.size = w.heap.size + 1 := by simp
      generalize w.alloc (.cells #[.slice a0_0 n0_0 c0_0] 24 (0, 0)) = w1 at hb hk szw1 ee ⊢
      have EE1 := Lib.hid ee
      clear ee
      replace F0 := Lib.hid (shModel.below F0.out hb (by omega))
      replace F1 := Lib.hid (F1.out.below hb (by omega))
      replace T := Lib.hid (T.out.trans (hb.mono (by omega)))
      have AB0 := Lib.hid hk
      clear hb hk
      have hc := szModel_c _ _ _ x0 (1048576) F0.out (by omega) (by omega) (by omega)
      rw [U0.out, szN_yes (by omega)] at hc
      obtain ⟨l0, hl0⟩ : ∃ l, 1048576 - (u0 : Int) = l := ⟨_, rfl⟩
      rw [hl0] at hc
      have t0 : decide (l0 < 0) = false := decide_eq_false (by omega)
      have HC := Lib.hid hc
      clear hc
      refine HC.out.mono ?_
      rintro e w2 ⟨rfl, hb⟩
      clear HC
      have szw2 := hb.size
      replace F0 := Lib.hid (shModel.below F0.out hb (by omega))
      replace F1 := Lib.hid (F1.out.below hb (by omega))
      replace AB0 := Lib.hid ((hb.block w.heap.size (by omega)).trans AB0.out)
      replace T := Lib.hid (T.out.trans (hb.mono (by omega)))
      clear hb
      have hc := szPairS_c _ _ a1 n1 c1 x1 (l0) F1.out (by omega) m1 (by omega) (by omega)
      rw [U1.out, szN_no (by omega)] at hc
      have HC := Lib.hid hc
      clear hc
      go_wp2_with fail
      refine HC.out.mono ?_
      rintro e w3 ⟨rfl, hb⟩
      clear HC
      have szw3 := hb.size
      replace F0 := Lib.hid (shModel.below F0.out hb (by omega))
      replace F1 := Lib.hid (F1.out.below hb (by omega))
      replace AB0 := Lib.hid ((hb.block w.heap.size (by omega)).trans AB0.out)
      replace T := Lib.hid (T.out.trans (hb.mono (by omega)))
      clear hb
      go_wp2_with fail
      go_ret
      exact ⟨rfl, T.out⟩
  · go_enter Try.func6, Try.ntmps6
    go_wp2_with fail
    have hb := (Below.refl w.heap.size w).alloc (Nat.le_refl _) (.cells #[.slice a0_0 n0_0 c0_0] 24 (0, 0))
    have hk := heap_alloc_new w (.cells #[.slice a0_0 n0_0 c0_0] 24 (0, 0))
    have szw1 : w.heap.size < (w.alloc (.cells #[.slice a0_0 n0_0 c0_0] 24 (0, 0))).heap.size := by simp
    have ee : (w.alloc (.cells #[.slice a0_0 n0_0 c0_0] 24 (0, 0))).heap.size = w.heap.size + 1 := by simp
    generalize w.alloc (.cells #[.slice a0_0 n0_0 c0_0] 24 (0, 0)) = w1 at hb hk szw1 ee ⊢
    have EE1 := Lib.hid ee
    clear ee
    replace F0 := Lib.hid (shModel.below F0.out hb (by omega))
    replace F1 := Lib.hid (F1.out.below hb (by omega))
    replace T := Lib.hid (T.out.trans (hb.mono (by omega)))
    have AB0 := Lib.hid hk
    clear hb hk
    have hc := szModel_c _ _ _ x0 (1048576) F0.out (by omega) (by omega) (by omega)
    rw [U0.out, szN_no (by omega)] at hc
    have HC := Lib.hid hc
    clear hc
    refine HC.out.mono ?_
    rintro e w2 ⟨rfl, hb⟩
    clear HC
    have szw2 := hb.size
    replace F0 := Lib.hid (shModel.below F0.out hb (by omega))
    replace F1 := Lib.hid (F1.out.below hb (by omega))
    replace AB0 := Lib.hid ((hb.block w.heap.size (by omega)).trans AB0.out)
    replace T := Lib.hid (T.out.trans (hb.mono (by omega)))
    clear hb
    go_wp2_with fail
    go_ret
    exact ⟨rfl, T.out⟩
set_option maxRecDepth 100000 in
set_option maxHeartbeats 6400000 in
theorem lawSameRows_any (w : World) (a0 : Option Addr) (n0 c0 : Nat) (x0 : List dRow) (h0 : ListAt shRow (Under w.heap.size) w a0 n0 x0) (m0 : n0 ≤ 9223372036854775807) (a1 : Option Addr) (n1 c1 : Nat) (x1 : List dRow) (h1 : ListAt shRow (Under w.heap.size) w a1 n1 x1) (m1 : n1 ≤ 9223372036854775807) :
    Calls Try.prog 8 #[(.slice a0 n0 c0), (.slice a1 n1 c1)] w fun e w' => e = .returned (.bool true) ∧ Below w.heap.size w w' := by
  obtain ⟨u0, hu0⟩ : ∃ u, (Shape.list shRow).bulk x0 = u := ⟨_, rfl⟩
  have U0 := Lib.hid hu0
  have F0 := Lib.hid h0
  obtain ⟨u1, hu1⟩ : ∃ u, (Shape.list shRow).bulk x1 = u := ⟨_, rfl⟩
  have U1 := Lib.hid hu1
  have F1 := Lib.hid h1
  have T := Lib.hid (Below.refl w.heap.size w)
  clear hu0 h0 hu1 h1
  by_cases f0 : ((u0 : Nat) : Int) ≤ 1048576
  · skip
    by_cases f1 : ((u0 + u1 : Nat) : Int) ≤ 1048576
    · go_enter Try.func8, Try.ntmps8
      go_wp2_with fail
      have hc := szRowS_c _ _ a0 n0 c0 x0 (1048576) F0.out (by omega) m0 (by omega) (by omega)
      rw [U0.out, szN_yes (by omega)] at hc
      obtain ⟨l0, hl0⟩ : ∃ l, 1048576 - (u0 : Int) = l := ⟨_, rfl⟩
      rw [hl0] at hc
      have t0 : decide (l0 < 0) = false := decide_eq_false (by omega)
      have HC := Lib.hid hc
      clear hc
      refine HC.out.mono ?_
      rintro e w1 ⟨rfl, hb⟩
      clear HC
      have szw1 := hb.size
      replace F0 := Lib.hid (F0.out.below hb (by omega))
      replace F1 := Lib.hid (F1.out.below hb (by omega))
      replace T := Lib.hid (T.out.trans (hb.mono (by omega)))
      clear hb
      have hc := szRowS_c _ _ a1 n1 c1 x1 (l0) F1.out (by omega) m1 (by omega) (by omega)
      rw [U1.out, szN_yes (by omega)] at hc
      obtain ⟨l1, hl1⟩ : ∃ l, l0 - (u1 : Int) = l := ⟨_, rfl⟩
      rw [hl1] at hc
      have t1 : decide (l1 < 0) = false := decide_eq_false (by omega)
      have HC := Lib.hid hc
      clear hc
      go_wp2_with fail
      refine HC.out.mono ?_
      rintro e w2 ⟨rfl, hb⟩
      clear HC
      have szw2 := hb.size
      replace F0 := Lib.hid (F0.out.below hb (by omega))
      replace F1 := Lib.hid (F1.out.below hb (by omega))
      replace T := Lib.hid (T.out.trans (hb.mono (by omega)))
      clear hb
      have ub : u0 + u1 ≤ 1048576 := by omega
      have HC := Lib.hid (toRowS_c _ _ a0 n0 c0 x0 F0.out (by omega) (by rw [U0.out]; omega))
      go_wp2_with fail
      refine HC.out.mono ?_
      rintro e w3 ⟨rfl, hr, hb⟩
      clear HC
      have szw3 := hb.size
      replace F0 := Lib.hid (F0.out.below hb (by omega))
      replace F1 := Lib.hid (F1.out.below hb (by omega))
      replace T := Lib.hid (T.out.trans (hb.mono (by omega)))
      clear hb
      have Y0 := Lib.hid hr.under
      clear hr
      have HC := Lib.hid (toRowS_c _ _ a1 n1 c1 x1 F1.out (by omega) (by rw [U1.out]; omega))
      go_wp2_with fail
      refine HC.out.mono ?_
      rintro e w4 ⟨rfl, hr, hb⟩
      clear HC
      have szw4 := hb.size
      replace F0 := Lib.hid (F0.out.below hb (by omega))
      replace F1 := Lib.hid (F1.out.below hb (by omega))
      replace Y0 := Lib.hid (Y0.out.below hb (by omega))
      replace T := Lib.hid (T.out.trans (hb.mono (by omega)))
      clear hb
      have Y1 := Lib.hid hr.under
      clear hr
      have ln0 : n0 ≤ 1048576 := by have e1 := bulk_list shRow F0.out; have e2 := U0.out; omega
      have ln1 : n1 ≤ 1048576 := by have e1 := bulk_list shRow F1.out; have e2 := U1.out; omega
      obtain ⟨v, hv⟩ : ∃ v, sameRowsB x0 x1 = v := ⟨_, rfl⟩
      have HV := Lib.hid hv
      clear hv
      have hc := specSameRows_d _ _ n0 n0 x0 (Y0.out.le (by omega)) (Nat.le_refl _) (by omega) (by rw [U0.out]; omega) _ n1 n1 x1 (Y1.out.le (by omega)) (Nat.le_refl _) (by omega) (by rw [U1.out]; omega)
      rw [HV.out] at hc
      have HC := Lib.hid hc
      clear hc
      go_wp2_with fail
      refine HC.out.mono ?_
      rintro e w5 ⟨rfl, hb⟩
      clear HC Y0 Y1
      have szw5 := hb.size
      replace F0 := Lib.hid (F0.out.below hb (by omega))
      replace F1 := Lib.hid (F1.out.below hb (by omega))
      replace T := Lib.hid (T.out.trans (hb.mono (by omega)))
      clear hb
      have HC := Lib.hid (toRowS_c _ _ a0 n0 c0 x0 F0.out (by omega) (by rw [U0.out]; omega))
      go_wp2_with fail
      refine HC.out.mono ?_
      rintro e w6 ⟨rfl, hr, hb⟩
      clear HC
      have szw6 := hb.size
      replace F0 := Lib.hid (F0.out.below hb (by omega))
      replace F1 := Lib.hid (F1.out.below hb (by omega))
      replace T := Lib.hid (T.out.trans (hb.mono (by omega)))
      clear hb
      have X0 := Lib.hid hr.under
      clear hr
      have HC := Lib.hid (toRowS_c _ _ a1 n1 c1 x1 F1.out (by omega) (by rw [U1.out]; omega))
      go_wp2_with fail
      refine HC.out.mono ?_
      rintro e w7 ⟨rfl, hr, hb⟩
      clear HC
      have szw7 := hb.size
      replace F0 := Lib.hid (F0.out.below hb (by omega))
      replace F1 := Lib.hid (F1.out.below hb (by omega))
      replace X0 := Lib.hid (X0.out.below hb (by omega))
      replace T := Lib.hid (T.out.trans (hb.mono (by omega)))
      clear hb
      have X1 := Lib.hid hr.under
      clear hr
      have hc := implSameRows_d _ _ n0 n0 x0 (X0.out.le (by omega)) (Nat.le_refl _) (by omega) (by rw [U0.out]; omega) _ n1 n1 x1 (X1.out.le (by omega)) (Nat.le_refl _) (by omega) (by rw [U1.out]; omega)
      rw [HV.out] at hc
      have HC := Lib.hid hc
      clear hc
      go_wp2_with fail
      refine HC.out.mono ?_
      rintro e w8 ⟨rfl, hb⟩
      clear HC
      have szw8 := hb.size
      replace F0 := Lib.hid (F0.out.below hb (by omega))
      replace F1 := Lib.hid (F1.out.below hb (by omega))
      replace X0 := Lib.hid (X0.out.below hb (by omega))
      replace X1 := Lib.hid (X1.out.below hb (by omega))
      replace T := Lib.hid (T.out.trans (hb.mono (by omega)))
      clear hb
      have HC := Lib.hid (toRowS_c _ _ a0 n0 c0 x0 F0.out (by omega) (by rw [U0.out]; omega))
      go_wp2_with fail
      refine HC.out.mono ?_
      rintro e w9 ⟨rfl, hr, hb⟩
      clear HC
      have szw9 := hb.size
      replace F0 := Lib.hid (F0.out.below hb (by omega))
      replace F1 := Lib.hid (F1.out.below hb (by omega))
      replace X0 := Lib.hid (X0.out.below hb (by omega))
      replace X1 := Lib.hid (X1.out.below hb (by omega))
      replace T := Lib.hid (T.out.trans (hb.mono (by omega)))
      clear hb
      have Z0 := Lib.hid hr.under
      clear hr
      have HC := Lib.hid (eqRowS_c _ _ _ _ _ n0 n0 n0 x0 X0.out Z0.out (by omega) (by omega) (by rw [U0.out]; omega))
      go_wp2_with fail
      refine HC.out.mono ?_
      rintro e w10 ⟨rfl, hb⟩
      clear HC Z0
      have szw10 := hb.size
      replace F0 := Lib.hid (F0.out.below hb (by omega))
      replace F1 := Lib.hid (F1.out.below hb (by omega))
      replace X0 := Lib.hid (X0.out.below hb (by omega))
      replace X1 := Lib.hid (X1.out.below hb (by omega))
      replace T := Lib.hid (T.out.trans (hb.mono (by omega)))
      clear hb
      have HC := Lib.hid (toRowS_c _ _ a1 n1 c1 x1 F1.out (by omega) (by rw [U1.out]; omega))
      go_wp2_with fail
      refine HC.out.mono ?_
      rintro e w11 ⟨rfl, hr, hb⟩
      clear HC
      have szw11 := hb.size
      replace F0 := Lib.hid (F0.out.below hb (by omega))
      replace F1 := Lib.hid (F1.out.below hb (by omega))
      replace X0 := Lib.hid (X0.out.below hb (by omega))
      replace X1 := Lib.hid (X1.out.below hb (by omega))
      replace T := Lib.hid (T.out.trans (hb.mono (by omega)))
      clear hb
      have Z1 := Lib.hid hr.under
      clear hr
      have HC := Lib.hid (eqRowS_c _ _ _ _ _ n1 n1 n1 x1 X1.out Z1.out (by omega) (by omega) (by rw [U1.out]; omega))
      go_wp2_with fail
      refine HC.out.mono ?_
      rintro e w12 ⟨rfl, hb⟩
      clear HC Z1
      have szw12 := hb.size
      replace F0 := Lib.hid (F0.out.below hb (by omega))
      replace F1 := Lib.hid (F1.out.below hb (by omega))
      replace X0 := Lib.hid (X0.out.below hb (by omega))
      replace X1 := Lib.hid (X1.out.below hb (by omega))
      replace T := Lib.hid (T.out.trans (hb.mono (by omega)))
      clear hb
      go_wp2_with fail
      go_ret
      exact ⟨rfl, T.out⟩
    · go_enter Try.func8, Try.ntmps8
      go_wp2_with fail
      have hc := szRowS_c _ _ a0 n0 c0 x0 (1048576) F0.out (by omega) m0 (by omega) (by omega)
      rw [U0.out, szN_yes (by omega)] at hc
      obtain ⟨l0, hl0⟩ : ∃ l, 1048576 - (u0 : Int) = l := ⟨_, rfl⟩
      rw [hl0] at hc
      have t0 : decide (l0 < 0) = false := decide_eq_false (by omega)
      have HC := Lib.hid hc
      clear hc
      refine HC.out.mono ?_
      rintro e w1 ⟨rfl, hb⟩
      clear HC
      have szw1 := hb.size
      replace F0 := Lib.hid (F0.out.below hb (by omega))
      replace F1 := Lib.hid (F1.out.below hb (by omega))
      replace T := Lib.hid (T.out.trans (hb.mono (by omega)))
      clear hb
      have hc := szRowS_c _ _ a1 n1 c1 x1 (l0) F1.out (by omega) m1 (by omega) (by omega)
      rw [U1.out, szN_no (by omega)] at hc
      have HC := Lib.hid hc
      clear hc
      go_wp2_with fail
      refine HC.out.mono ?_
      rintro e w2 ⟨rfl, hb⟩
      clear HC
      have szw2 := hb.size
      replace F0 := Lib.hid (F0.out.below hb (by omega))
      replace F1 := Lib.hid (F1.out.below hb (by omega))
      replace T := Lib.hid (T.out.trans (hb.mono (by omega)))
      clear hb
      go_wp2_with fail
      go_ret
      exact ⟨rfl, T.out⟩
  · go_enter Try.func8, Try.ntmps8
    go_wp2_with fail
    have hc := szRowS_c _ _ a0 n0 c0 x0 (1048576) F0.out (by omega) m0 (by omega) (by omega)
    rw [U0.out, szN_no (by omega)] at hc
    have HC := Lib.hid hc
    clear hc
    refine HC.out.mono ?_
    rintro e w1 ⟨rfl, hb⟩
    clear HC
    have szw1 := hb.size
    replace F0 := Lib.hid (F0.out.below hb (by omega))
    replace F1 := Lib.hid (F1.out.below hb (by omega))
    replace T := Lib.hid (T.out.trans (hb.mono (by omega)))
    clear hb
    go_wp2_with fail
    go_ret
    exact ⟨rfl, T.out⟩
end Go.Proofs.Ytbjiomnhdeehpaa
