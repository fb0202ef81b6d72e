/-
  Exact laws on cuts: the walks.
-/
import Derived.Test.YtkmcfbopilieeaaCutS
import Derived.Test.YtkmcfbopilieeaaCutI
import Derived.Test.YtkmcfbopilieeaaIntRow
import Derived.Test.YtkmcfbopilieeaaOpen
import Derived.Deep.DeepCutAuto
import Derived.Deep.RegionLaw
namespace Go.Proofs.Ytkmcfbopilieeaa
open Go.RowKit
set_option linter.unusedVariables false
set_option linter.unusedSimpArgs false

theorem row_ints {base n : Nat} {w : World} {a : Option Addr} {c : Nat} {xs : List Int} (h : Row base w (.slice a n c) xs) (hl : xs.length = n) (hr : n ≤ 1048576) : IntsIn w.heap.size w a n xs := by
  subst hl
  obtain ⟨a', c', e, hi⟩ := h.form
  cases e
  exact hi hr
set_option maxRecDepth 100000 in
set_option maxHeartbeats 6400000 in
theorem lawCutsOk_small (w : World) (es0 : List Value) (x0 : dModel) (h0 : shModel.reads (Under w.heap.size) w es0 x0) (a1 : Option Addr) (n1 c1 : Nat) (x1 : List Int) (h1 : IntsIn w.heap.size w a1 n1 x1) :
    Calls Try.prog 6 #[(.agg es0.toArray), (.slice a1 n1 c1)] w fun e w' => e = .returned (.bool true) ∧ Below w.heap.size w w' := by
  obtain ⟨a0_0, n0_0, c0_0, rfl, -⟩ := shModel_reads.1 h0
  obtain ⟨u0, hu0⟩ : ∃ u, shModel.bulk x0 = u := ⟨_, rfl⟩
  have U0 := Lib.hid hu0
  have F0 := Lib.hid h0
  have rm := h1.room
  have F1 := Lib.hid h1
  have T := Lib.hid (Below.refl w.heap.size w)
  have t1 : decide ((n1 : Int) > 1048576) = false := decide_eq_false (by omega)
  clear hu0 h0 h1
  by_cases f0 : ((u0 : Nat) : Int) ≤ 1048576
  · go_enter Try.func6, Try.ntmps6
    go_wp2_with fail
    have hb := (Below.refl w.heap.size w).alloc (Nat.le_refl _) (.cells #[.slice a0_0 n0_0 c0_0] 51 (0, 0))
    have hk := heap_alloc_new w (.cells #[.slice a0_0 n0_0 c0_0] 51 (0, 0))
    have szw1 : w.heap.size < (w.alloc (.cells #[.slice a0_0 n0_0 c0_0] 51 (0, 0))).heap.size := by simp
    generalize w.alloc (.cells #[.slice a0_0 n0_0 c0_0] 51 (0, 0)) = w1 at hb hk szw1 ⊢
    replace F0 := Lib.hid (shModel.below F0.out hb (by omega))
    replace F1 := Lib.hid (F1.out.below hb (by omega))
    replace T := Lib.hid (T.out.trans (hb.mono (by omega)))
    have AB0 := Lib.hid hk
    clear hb hk
    have hc := szModel_c _ _ _ x0 (1048576) F0.out (by omega) (by omega) (by omega)
    rw [U0.out, szN_yes (by omega)] at hc
    obtain ⟨l0, hl0⟩ : ∃ l, 1048576 - (u0 : Int) = l := ⟨_, rfl⟩
    rw [hl0] at hc
    have t0 : decide (l0 < 0) = false := decide_eq_false (by omega)
    have HC := Lib.hid hc
    clear hc
    refine HC.out.mono ?_
    rintro e w2 ⟨rfl, hb⟩
    have szw2 := hb.size
    replace F0 := Lib.hid (shModel.below F0.out hb (by omega))
    replace F1 := Lib.hid (F1.out.below hb (by omega))
    replace AB0 := Lib.hid ((hb.block w.heap.size (by omega)).trans AB0.out)
    replace T := Lib.hid (T.out.trans (hb.mono (by omega)))
    clear hb
    clear HC
    have HC := Lib.hid (toModel_c _ _ _ x0 F0.out (by omega) (by rw [U0.out]; omega))
    have za := box1 AB0.out
    go_wp2_with fail
    clear za
    refine HC.out.mono ?_
    rintro e w3 ⟨eY0, rfl, hr, hb⟩
    have szw3 := hb.size
    replace F0 := Lib.hid (shModel.below F0.out hb (by omega))
    replace F1 := Lib.hid (F1.out.below hb (by omega))
    replace AB0 := Lib.hid ((hb.block w.heap.size (by omega)).trans AB0.out)
    replace T := Lib.hid (T.out.trans (hb.mono (by omega)))
    clear hb
    obtain ⟨aY0, nY0, cY0, rfl, gY01, gY02, hl⟩ := shModel_reads.1 (shModel.under hr)
    have Y0 := Lib.hid hl
    clear hr hl HC
    have HC := Lib.hid (toIntS_any _ _ a1 n1 c1 x1 F1.out (by omega))
    go_wp2_with fail
    refine HC.out.mono ?_
    rintro e w4 ⟨rfl, hr, hb⟩
    have szw4 := hb.size
    replace F0 := Lib.hid (shModel.below F0.out hb (by omega))
    replace F1 := Lib.hid (F1.out.below hb (by omega))
    replace AB0 := Lib.hid ((hb.block w.heap.size (by omega)).trans AB0.out)
    replace Y0 := Lib.hid (Y0.out.below hb (by omega))
    replace T := Lib.hid (T.out.trans (hb.mono (by omega)))
    clear hb
    have hi := row_ints hr F1.out.len rm
    have Y1 := Lib.hid hi
    clear hr hi HC
    obtain ⟨v0, hv0⟩ : ∃ v, cutsOkB x0 x1 = v := ⟨_, rfl⟩
    have V0 := Lib.hid hv0
    clear hv0
    have hc := specCutsOk_c _ _ _ _ x0 (Y0.out.le (by omega)) gY01 gY02 (by rw [← shModel_bulk, U0.out]; omega) _ n1 n1 x1 (Y1.out.le (by omega))
    rw [V0.out] at hc
    have HC := Lib.hid hc
    clear hc
    go_wp2_with fail
    refine HC.out.mono ?_
    clear Y0 Y1
    rintro e w5 ⟨rfl, hb⟩
    have szw5 := hb.size
    replace F0 := Lib.hid (shModel.below F0.out hb (by omega))
    replace F1 := Lib.hid (F1.out.below hb (by omega))
    replace AB0 := Lib.hid ((hb.block w.heap.size (by omega)).trans AB0.out)
    replace T := Lib.hid (T.out.trans (hb.mono (by omega)))
    clear hb
    clear HC
    have HC := Lib.hid (toModel_c _ _ _ x0 F0.out (by omega) (by rw [U0.out]; omega))
    have za := box1 AB0.out
    go_wp2_with fail
    clear za
    refine HC.out.mono ?_
    rintro e w6 ⟨eX0, rfl, hr, hb⟩
    have szw6 := hb.size
    replace F0 := Lib.hid (shModel.below F0.out hb (by omega))
    replace F1 := Lib.hid (F1.out.below hb (by omega))
    replace AB0 := Lib.hid ((hb.block w.heap.size (by omega)).trans AB0.out)
    replace T := Lib.hid (T.out.trans (hb.mono (by omega)))
    clear hb
    obtain ⟨aX0, nX0, cX0, rfl, gX01, gX02, hl⟩ := shModel_reads.1 (shModel.under hr)
    have X0 := Lib.hid hl
    clear hr hl HC
    go_wp2_with fail
    have hb := (Below.refl w6.heap.size w6).alloc (Nat.le_refl _) (.cells #[.slice aX0 nX0 cX0] 26 (0, 0))
    have hk := heap_alloc_new w6 (.cells #[.slice aX0 nX0 cX0] 26 (0, 0))
    have szw7 : w6.heap.size < (w6.alloc (.cells #[.slice aX0 nX0 cX0] 26 (0, 0))).heap.size := by simp
    generalize w6.alloc (.cells #[.slice aX0 nX0 cX0] 26 (0, 0)) = w7 at hb hk szw7 ⊢
    replace F0 := Lib.hid (shModel.below F0.out hb (by omega))
    replace F1 := Lib.hid (F1.out.below hb (by omega))
    replace AB0 := Lib.hid ((hb.block w.heap.size (by omega)).trans AB0.out)
    replace X0 := Lib.hid (X0.out.below hb (by omega))
    replace T := Lib.hid (T.out.trans (hb.mono (by omega)))
    have XB0 := Lib.hid hk
    clear hb hk
    have HC := Lib.hid (toIntS_any _ _ a1 n1 c1 x1 F1.out (by omega))
    try go_wp2_with fail
    refine HC.out.mono ?_
    rintro e w8 ⟨rfl, hr, hb⟩
    have szw8 := hb.size
    replace F0 := Lib.hid (shModel.below F0.out hb (by omega))
    replace F1 := Lib.hid (F1.out.below hb (by omega))
    replace AB0 := Lib.hid ((hb.block w.heap.size (by omega)).trans AB0.out)
    replace X0 := Lib.hid (X0.out.below hb (by omega))
    replace XB0 := Lib.hid ((hb.block w6.heap.size (by omega)).trans XB0.out)
    replace T := Lib.hid (T.out.trans (hb.mono (by omega)))
    clear hb
    have hi := row_ints hr F1.out.len rm
    have X1 := Lib.hid hi
    clear hr hi HC
    have hc := implCutsOk_c _ _ _ _ x0 (X0.out.le (by omega)) gX01 gX02 (by rw [← shModel_bulk, U0.out]; omega) _ n1 n1 x1 (X1.out.le (by omega))
    rw [V0.out] at hc
    have HC := Lib.hid hc
    clear hc
    have zx := box1 XB0.out
    go_wp2_with fail
    clear zx
    refine HC.out.mono ?_
    rintro e w9 ⟨rfl, hb⟩
    have szw9 := hb.size
    replace F0 := Lib.hid (shModel.below F0.out hb (by omega))
    replace F1 := Lib.hid (F1.out.below hb (by omega))
    replace AB0 := Lib.hid ((hb.block w.heap.size (by omega)).trans AB0.out)
    replace X0 := Lib.hid (X0.out.below hb (by omega))
    replace XB0 := Lib.hid ((hb.block w6.heap.size (by omega)).trans XB0.out)
    replace X1 := Lib.hid (X1.out.below hb (by omega))
    replace T := Lib.hid (T.out.trans (hb.mono (by omega)))
    clear hb
    clear HC
    have zx := box1 XB0.out
    have za := box1 AB0.out
    go_upto_region 13 with fail
    go_cut [37] (fun t wx => t = .bool false ∧ Below w9.heap.size w9 wx)
    case first =>
      have hdr : Below w9.heap.size w9 w9.drew := (Below.refl _ _).drew
      have FD := Lib.hid (shModel.below F0.out hdr (by omega))
      have XD := Lib.hid (shModel_reads.2 ⟨aX0, nX0, cX0, rfl, gX01, gX02, X0.out.below hdr (by omega)⟩)
      have DR := Lib.hid hdr
      have szd : w9.heap.size ≤ w9.drew.heap.size := hdr.size
      have XBD : Hid (w9.drew.heap[w6.heap.size]? = _) := Lib.hid XB0.out
      clear hdr
      have HC1 := Lib.hid (toModel_c w9.drew _ _ x0 FD.out (by omega) (by rw [U0.out]; omega))
      have HC2 := Lib.hid fun (w1 : World) (es : List Value) (hb : Below w9.drew.heap.size w9.drew w1) (hr : shModel.reads (From w9.drew.heap.size w1.heap.size) w1 es x0) => eqModel_c w1 _ _ _ es x0 (shModel.below XD.out hb (by omega)) (shModel.under hr) (by have := hb.size; omega) (Nat.le_refl _) (by rw [U0.out]; omega)
      go_region_law (first
        | (go_simp; go_at_call 28; (with_reducible refine HC1.out.mono ?_); rintro e wt ⟨eg, rfl, hr, hb⟩; have hq := HC2.out wt eg hb hr; have zz := box1 ((hb.block w6.heap.size (by omega)).trans XBD.out); obtain ⟨ag_0, ng_0, cg_0, rfl, -⟩ := shModel_reads.1 hr; have HQ := Lib.hid hq; have HBT := Lib.hid hb; have szt := hb.size; clear hb hr hq)
        | (go_simp; go_at_call 30; (with_reducible refine HQ.out.mono ?_); rintro e wq ⟨rfl, hb⟩; have BQ := Lib.hid (DR.out.trans ((HBT.out.mono szd).trans (hb.mono (by omega)))); clear hb))
      all_goals
        go_wp2_with fail
        go_meet
        case rel => exact ⟨rfl, BQ.out⟩
    case rest =>
      obtain ⟨rfl, hb⟩ := hcut
      clear zx za
      obtain ⟨w10, rfl⟩ : ∃ x, x = wc := ⟨_, rfl⟩
      have szw10 := hb.size
      replace F0 := Lib.hid (shModel.below F0.out hb (by omega))
      replace F1 := Lib.hid (F1.out.below hb (by omega))
      replace AB0 := Lib.hid ((hb.block w.heap.size (by omega)).trans AB0.out)
      replace X0 := Lib.hid (X0.out.below hb (by omega))
      replace XB0 := Lib.hid ((hb.block w6.heap.size (by omega)).trans XB0.out)
      replace X1 := Lib.hid (X1.out.below hb (by omega))
      replace T := Lib.hid (T.out.trans (hb.mono (by omega)))
      clear hb
      have HC := Lib.hid (toIntS_any _ _ a1 n1 c1 x1 F1.out (by omega))
      go_wp2_with fail
      refine HC.out.mono ?_
      rintro e w11 ⟨rfl, hr, hb⟩
      have szw11 := hb.size
      replace F0 := Lib.hid (shModel.below F0.out hb (by omega))
      replace F1 := Lib.hid (F1.out.below hb (by omega))
      replace AB0 := Lib.hid ((hb.block w.heap.size (by omega)).trans AB0.out)
      replace X0 := Lib.hid (X0.out.below hb (by omega))
      replace XB0 := Lib.hid ((hb.block w6.heap.size (by omega)).trans XB0.out)
      replace X1 := Lib.hid (X1.out.below hb (by omega))
      replace T := Lib.hid (T.out.trans (hb.mono (by omega)))
      clear hb
      have hi := row_ints hr F1.out.len rm
      have Z1 := Lib.hid hi
      clear hr hi HC
      have HC := Lib.hid (eqIntS_same _ _ n1 n1 x1 _ n1 (X1.out.le (by omega)) (Z1.out.le (by omega)))
      go_wp2_with fail
      refine HC.out.mono ?_
      clear Z1
      rintro e w12 ⟨rfl, hb⟩
      have szw12 := hb.size
      replace F0 := Lib.hid (shModel.below F0.out hb (by omega))
      replace F1 := Lib.hid (F1.out.below hb (by omega))
      replace AB0 := Lib.hid ((hb.block w.heap.size (by omega)).trans AB0.out)
      replace X0 := Lib.hid (X0.out.below hb (by omega))
      replace XB0 := Lib.hid ((hb.block w6.heap.size (by omega)).trans XB0.out)
      replace X1 := Lib.hid (X1.out.below hb (by omega))
      replace T := Lib.hid (T.out.trans (hb.mono (by omega)))
      clear hb
      clear HC
      go_wp2_with fail
      go_ret
      exact ⟨rfl, T.out⟩
  · go_enter Try.func6, Try.ntmps6
    go_wp2_with fail
    have hb := (Below.refl w.heap.size w).alloc (Nat.le_refl _) (.cells #[.slice a0_0 n0_0 c0_0] 51 (0, 0))
    have hk := heap_alloc_new w (.cells #[.slice a0_0 n0_0 c0_0] 51 (0, 0))
    have szw1 : w.heap.size < (w.alloc (.cells #[.slice a0_0 n0_0 c0_0] 51 (0, 0))).heap.size := by simp
    generalize w.alloc (.cells #[.slice a0_0 n0_0 c0_0] 51 (0, 0)) = w1 at hb hk szw1 ⊢
    replace F0 := Lib.hid (shModel.below F0.out hb (by omega))
    replace F1 := Lib.hid (F1.out.below hb (by omega))
    replace T := Lib.hid (T.out.trans (hb.mono (by omega)))
    have AB0 := Lib.hid hk
    clear hb hk
    have hc := szModel_c _ _ _ x0 (1048576) F0.out (by omega) (by omega) (by omega)
    rw [U0.out, szN_no (by omega)] at hc
    have HC := Lib.hid hc
    clear hc
    refine HC.out.mono ?_
    rintro e w2 ⟨rfl, hb⟩
    have szw2 := hb.size
    replace F0 := Lib.hid (shModel.below F0.out hb (by omega))
    replace F1 := Lib.hid (F1.out.below hb (by omega))
    replace AB0 := Lib.hid ((hb.block w.heap.size (by omega)).trans AB0.out)
    replace T := Lib.hid (T.out.trans (hb.mono (by omega)))
    clear hb
    clear HC
    go_wp2_with fail
    go_ret
    exact ⟨rfl, T.out⟩
set_option maxRecDepth 100000 in
theorem lawCutsOk_any (w : World) (es0 : List Value) (x0 : dModel) (h0 : shModel.reads (Under w.heap.size) w es0 x0) (a1 : Option Addr) (n1 c1 : Nat) (m1 : n1 ≤ 9223372036854775807) (k1 : CameIn w a1 n1) :
    Calls Try.prog 6 #[(.agg es0.toArray), (.slice a1 n1 c1)] w fun e w' => e = .returned (.bool true) ∧ Below w.heap.size w w' := by
  by_cases b0 : 1048576 < n1
  · obtain ⟨a0_0, n0_0, c0_0, rfl, -⟩ := shModel_reads.1 h0
    have t : decide ((n1 : Int) > 1048576) = true := decide_eq_true (by omega)
    have T := Lib.hid ((Below.refl w.heap.size w).alloc (Nat.le_refl _) (.cells #[.slice a0_0 n0_0 c0_0] 51 (0, 0)))
    clear k1 h0
    go_enter Try.func6, Try.ntmps6
    go_wp2_with fail
    go_ret
    exact ⟨rfl, T.out⟩
  · obtain ⟨xs, hl, hc⟩ := k1
    exact lawCutsOk_small w es0 x0 h0 a1 n1 c1 xs ⟨hl, by omega, hc⟩
set_option maxRecDepth 100000 in
set_option maxHeartbeats 6400000 in
theorem lawStageRange_small (w : World) (es0 : List Value) (x0 : dModel) (h0 : shModel.reads (Under w.heap.size) w es0 x0) (a1 : Option Addr) (n1 c1 : Nat) (x1 : List Int) (h1 : IntsIn w.heap.size w a1 n1 x1) (a2 : Int) :
    Calls Try.prog 7 #[(.agg es0.toArray), (.slice a1 n1 c1), (.int .i64 a2)] w fun e w' => e = .returned (.bool true) ∧ Below w.heap.size w w' := by
  obtain ⟨a0_0, n0_0, c0_0, rfl, -⟩ := shModel_reads.1 h0
  obtain ⟨u0, hu0⟩ : ∃ u, shModel.bulk x0 = u := ⟨_, rfl⟩
  have U0 := Lib.hid hu0
  have F0 := Lib.hid h0
  have rm := h1.room
  have F1 := Lib.hid h1
  have T := Lib.hid (Below.refl w.heap.size w)
  have t1 : decide ((n1 : Int) > 1048576) = false := decide_eq_false (by omega)
  clear hu0 h0 h1
  by_cases f0 : ((u0 : Nat) : Int) ≤ 1048576
  · go_enter Try.func7, Try.ntmps7
    go_wp2_with fail
    have hb := (Below.refl w.heap.size w).alloc (Nat.le_refl _) (.cells #[.slice a0_0 n0_0 c0_0] 51 (0, 0))
    have hk := heap_alloc_new w (.cells #[.slice a0_0 n0_0 c0_0] 51 (0, 0))
    have szw1 : w.heap.size < (w.alloc (.cells #[.slice a0_0 n0_0 c0_0] 51 (0, 0))).heap.size := by simp
    generalize w.alloc (.cells #[.slice a0_0 n0_0 c0_0] 51 (0, 0)) = w1 at hb hk szw1 ⊢
    replace F0 := Lib.hid (shModel.below F0.out hb (by omega))
    replace F1 := Lib.hid (F1.out.below hb (by omega))
    replace T := Lib.hid (T.out.trans (hb.mono (by omega)))
    have AB0 := Lib.hid hk
    clear hb hk
    have hc := szModel_c _ _ _ x0 (1048576) F0.out (by omega) (by omega) (by omega)
    rw [U0.out, szN_yes (by omega)] at hc
    obtain ⟨l0, hl0⟩ : ∃ l, 1048576 - (u0 : Int) = l := ⟨_, rfl⟩
    rw [hl0] at hc
    have t0 : decide (l0 < 0) = false := decide_eq_false (by omega)
    have HC := Lib.hid hc
    clear hc
    refine HC.out.mono ?_
    rintro e w2 ⟨rfl, hb⟩
    have szw2 := hb.size
    replace F0 := Lib.hid (shModel.below F0.out hb (by omega))
    replace F1 := Lib.hid (F1.out.below hb (by omega))
    replace AB0 := Lib.hid ((hb.block w.heap.size (by omega)).trans AB0.out)
    replace T := Lib.hid (T.out.trans (hb.mono (by omega)))
    clear hb
    clear HC
    have HC := Lib.hid (toModel_c _ _ _ x0 F0.out (by omega) (by rw [U0.out]; omega))
    have za := box1 AB0.out
    go_wp2_with fail
    clear za
    refine HC.out.mono ?_
    rintro e w3 ⟨eY0, rfl, hr, hb⟩
    have szw3 := hb.size
    replace F0 := Lib.hid (shModel.below F0.out hb (by omega))
    replace F1 := Lib.hid (F1.out.below hb (by omega))
    replace AB0 := Lib.hid ((hb.block w.heap.size (by omega)).trans AB0.out)
    replace T := Lib.hid (T.out.trans (hb.mono (by omega)))
    clear hb
    obtain ⟨aY0, nY0, cY0, rfl, gY01, gY02, hl⟩ := shModel_reads.1 (shModel.under hr)
    have Y0 := Lib.hid hl
    clear hr hl HC
    have HC := Lib.hid (toIntS_any _ _ a1 n1 c1 x1 F1.out (by omega))
    go_wp2_with fail
    refine HC.out.mono ?_
    rintro e w4 ⟨rfl, hr, hb⟩
    have szw4 := hb.size
    replace F0 := Lib.hid (shModel.below F0.out hb (by omega))
    replace F1 := Lib.hid (F1.out.below hb (by omega))
    replace AB0 := Lib.hid ((hb.block w.heap.size (by omega)).trans AB0.out)
    replace Y0 := Lib.hid (Y0.out.below hb (by omega))
    replace T := Lib.hid (T.out.trans (hb.mono (by omega)))
    clear hb
    have hi := row_ints hr F1.out.len rm
    have Y1 := Lib.hid hi
    clear hr hi HC
    obtain ⟨v0, hv0⟩ : ∃ v, fromC x0 x1 a2 = v := ⟨_, rfl⟩
    have V0 := Lib.hid hv0
    clear hv0
    obtain ⟨v1, hv1⟩ : ∃ v, toC x0 x1 a2 = v := ⟨_, rfl⟩
    have V1 := Lib.hid hv1
    clear hv1
    have hc := specStageRange_c _ _ _ _ x0 (Y0.out.le (by omega)) gY01 gY02 (by rw [← shModel_bulk, U0.out]; omega) _ n1 n1 x1 (Y1.out.le (by omega)) a2
    rw [V0.out, V1.out] at hc
    have HC := Lib.hid hc
    clear hc
    go_wp2_with fail
    refine HC.out.mono ?_
    clear Y0 Y1
    rintro e w5 ⟨rfl, hb⟩
    have szw5 := hb.size
    replace F0 := Lib.hid (shModel.below F0.out hb (by omega))
    replace F1 := Lib.hid (F1.out.below hb (by omega))
    replace AB0 := Lib.hid ((hb.block w.heap.size (by omega)).trans AB0.out)
    replace T := Lib.hid (T.out.trans (hb.mono (by omega)))
    clear hb
    clear HC
    have HC := Lib.hid (toModel_c _ _ _ x0 F0.out (by omega) (by rw [U0.out]; omega))
    have za := box1 AB0.out
    go_wp2_with fail
    clear za
    refine HC.out.mono ?_
    rintro e w6 ⟨eX0, rfl, hr, hb⟩
    have szw6 := hb.size
    replace F0 := Lib.hid (shModel.below F0.out hb (by omega))
    replace F1 := Lib.hid (F1.out.below hb (by omega))
    replace AB0 := Lib.hid ((hb.block w.heap.size (by omega)).trans AB0.out)
    replace T := Lib.hid (T.out.trans (hb.mono (by omega)))
    clear hb
    obtain ⟨aX0, nX0, cX0, rfl, gX01, gX02, hl⟩ := shModel_reads.1 (shModel.under hr)
    have X0 := Lib.hid hl
    clear hr hl HC
    go_wp2_with fail
    have hb := (Below.refl w6.heap.size w6).alloc (Nat.le_refl _) (.cells #[.slice aX0 nX0 cX0] 26 (0, 0))
    have hk := heap_alloc_new w6 (.cells #[.slice aX0 nX0 cX0] 26 (0, 0))
    have szw7 : w6.heap.size < (w6.alloc (.cells #[.slice aX0 nX0 cX0] 26 (0, 0))).heap.size := by simp
    generalize w6.alloc (.cells #[.slice aX0 nX0 cX0] 26 (0, 0)) = w7 at hb hk szw7 ⊢
    replace F0 := Lib.hid (shModel.below F0.out hb (by omega))
    replace F1 := Lib.hid (F1.out.below hb (by omega))
    replace AB0 := Lib.hid ((hb.block w.heap.size (by omega)).trans AB0.out)
    replace X0 := Lib.hid (X0.out.below hb (by omega))
    replace T := Lib.hid (T.out.trans (hb.mono (by omega)))
    have XB0 := Lib.hid hk
    clear hb hk
    have HC := Lib.hid (toIntS_any _ _ a1 n1 c1 x1 F1.out (by omega))
    try go_wp2_with fail
    refine HC.out.mono ?_
    rintro e w8 ⟨rfl, hr, hb⟩
    have szw8 := hb.size
    replace F0 := Lib.hid (shModel.below F0.out hb (by omega))
    replace F1 := Lib.hid (F1.out.below hb (by omega))
    replace AB0 := Lib.hid ((hb.block w.heap.size (by omega)).trans AB0.out)
    replace X0 := Lib.hid (X0.out.below hb (by omega))
    replace XB0 := Lib.hid ((hb.block w6.heap.size (by omega)).trans XB0.out)
    replace T := Lib.hid (T.out.trans (hb.mono (by omega)))
    clear hb
    have hi := row_ints hr F1.out.len rm
    have X1 := Lib.hid hi
    clear hr hi HC
    have hc := implStageRange_c _ _ _ _ x0 (X0.out.le (by omega)) gX01 gX02 (by rw [← shModel_bulk, U0.out]; omega) _ n1 n1 x1 (X1.out.le (by omega)) a2
    rw [V0.out, V1.out] at hc
    have HC := Lib.hid hc
    clear hc
    have zx := box1 XB0.out
    go_wp2_with fail
    clear zx
    refine HC.out.mono ?_
    rintro e w9 ⟨rfl, hb⟩
    have szw9 := hb.size
    replace F0 := Lib.hid (shModel.below F0.out hb (by omega))
    replace F1 := Lib.hid (F1.out.below hb (by omega))
    replace AB0 := Lib.hid ((hb.block w.heap.size (by omega)).trans AB0.out)
    replace X0 := Lib.hid (X0.out.below hb (by omega))
    replace XB0 := Lib.hid ((hb.block w6.heap.size (by omega)).trans XB0.out)
    replace X1 := Lib.hid (X1.out.below hb (by omega))
    replace T := Lib.hid (T.out.trans (hb.mono (by omega)))
    clear hb
    clear HC
    have zx := box1 XB0.out
    have za := box1 AB0.out
    go_upto_region 13 with fail
    go_cut [54] (fun t wx => t = .bool false ∧ Below w9.heap.size w9 wx)
    case first =>
      have hdr : Below w9.heap.size w9 w9.drew := (Below.refl _ _).drew
      have FD := Lib.hid (shModel.below F0.out hdr (by omega))
      have XD := Lib.hid (shModel_reads.2 ⟨aX0, nX0, cX0, rfl, gX01, gX02, X0.out.below hdr (by omega)⟩)
      have DR := Lib.hid hdr
      have szd : w9.heap.size ≤ w9.drew.heap.size := hdr.size
      have XBD : Hid (w9.drew.heap[w6.heap.size]? = _) := Lib.hid XB0.out
      clear hdr
      have HC1 := Lib.hid (toModel_c w9.drew _ _ x0 FD.out (by omega) (by rw [U0.out]; omega))
      have HC2 := Lib.hid fun (w1 : World) (es : List Value) (hb : Below w9.drew.heap.size w9.drew w1) (hr : shModel.reads (From w9.drew.heap.size w1.heap.size) w1 es x0) => eqModel_c w1 _ _ _ es x0 (shModel.below XD.out hb (by omega)) (shModel.under hr) (by have := hb.size; omega) (Nat.le_refl _) (by rw [U0.out]; omega)
      go_region_law (first
        | (go_simp; go_at_call 28; (with_reducible refine HC1.out.mono ?_); rintro e wt ⟨eg, rfl, hr, hb⟩; have hq := HC2.out wt eg hb hr; have zz := box1 ((hb.block w6.heap.size (by omega)).trans XBD.out); obtain ⟨ag_0, ng_0, cg_0, rfl, -⟩ := shModel_reads.1 hr; have HQ := Lib.hid hq; have HBT := Lib.hid hb; have szt := hb.size; clear hb hr hq)
        | (go_simp; go_at_call 30; (with_reducible refine HQ.out.mono ?_); rintro e wq ⟨rfl, hb⟩; have BQ := Lib.hid (DR.out.trans ((HBT.out.mono szd).trans (hb.mono (by omega)))); clear hb))
      all_goals
        go_wp2_with fail
        go_meet
        case rel => exact ⟨rfl, BQ.out⟩
    case rest =>
      obtain ⟨rfl, hb⟩ := hcut
      clear zx za
      obtain ⟨w10, rfl⟩ : ∃ x, x = wc := ⟨_, rfl⟩
      have szw10 := hb.size
      replace F0 := Lib.hid (shModel.below F0.out hb (by omega))
      replace F1 := Lib.hid (F1.out.below hb (by omega))
      replace AB0 := Lib.hid ((hb.block w.heap.size (by omega)).trans AB0.out)
      replace X0 := Lib.hid (X0.out.below hb (by omega))
      replace XB0 := Lib.hid ((hb.block w6.heap.size (by omega)).trans XB0.out)
      replace X1 := Lib.hid (X1.out.below hb (by omega))
      replace T := Lib.hid (T.out.trans (hb.mono (by omega)))
      clear hb
      have HC := Lib.hid (toIntS_any _ _ a1 n1 c1 x1 F1.out (by omega))
      go_wp2_with fail
      refine HC.out.mono ?_
      rintro e w11 ⟨rfl, hr, hb⟩
      have szw11 := hb.size
      replace F0 := Lib.hid (shModel.below F0.out hb (by omega))
      replace F1 := Lib.hid (F1.out.below hb (by omega))
      replace AB0 := Lib.hid ((hb.block w.heap.size (by omega)).trans AB0.out)
      replace X0 := Lib.hid (X0.out.below hb (by omega))
      replace XB0 := Lib.hid ((hb.block w6.heap.size (by omega)).trans XB0.out)
      replace X1 := Lib.hid (X1.out.below hb (by omega))
      replace T := Lib.hid (T.out.trans (hb.mono (by omega)))
      clear hb
      have hi := row_ints hr F1.out.len rm
      have Z1 := Lib.hid hi
      clear hr hi HC
      have HC := Lib.hid (eqIntS_same _ _ n1 n1 x1 _ n1 (X1.out.le (by omega)) (Z1.out.le (by omega)))
      go_wp2_with fail
      refine HC.out.mono ?_
      clear Z1
      rintro e w12 ⟨rfl, hb⟩
      have szw12 := hb.size
      replace F0 := Lib.hid (shModel.below F0.out hb (by omega))
      replace F1 := Lib.hid (F1.out.below hb (by omega))
      replace AB0 := Lib.hid ((hb.block w.heap.size (by omega)).trans AB0.out)
      replace X0 := Lib.hid (X0.out.below hb (by omega))
      replace XB0 := Lib.hid ((hb.block w6.heap.size (by omega)).trans XB0.out)
      replace X1 := Lib.hid (X1.out.below hb (by omega))
      replace T := Lib.hid (T.out.trans (hb.mono (by omega)))
      clear hb
      clear HC
      go_wp2_with fail
      go_ret
      exact ⟨rfl, T.out⟩
  · go_enter Try.func7, Try.ntmps7
    go_wp2_with fail
    have hb := (Below.refl w.heap.size w).alloc (Nat.le_refl _) (.cells #[.slice a0_0 n0_0 c0_0] 51 (0, 0))
    have hk := heap_alloc_new w (.cells #[.slice a0_0 n0_0 c0_0] 51 (0, 0))
    have szw1 : w.heap.size < (w.alloc (.cells #[.slice a0_0 n0_0 c0_0] 51 (0, 0))).heap.size := by simp
    generalize w.alloc (.cells #[.slice a0_0 n0_0 c0_0] 51 (0, 0)) = w1 at hb hk szw1 ⊢
    replace F0 := Lib.hid (shModel.below F0.out hb (by omega))
    replace F1 := Lib.hid (F1.out.below hb (by omega))
    replace T := Lib.hid (T.out.trans (hb.mono (by omega)))
    have AB0 := Lib.hid hk
    clear hb hk
    have hc := szModel_c _ _ _ x0 (1048576) F0.out (by omega) (by omega) (by omega)
    rw [U0.out, szN_no (by omega)] at hc
    have HC := Lib.hid hc
    clear hc
    refine HC.out.mono ?_
    rintro e w2 ⟨rfl, hb⟩
    have szw2 := hb.size
    replace F0 := Lib.hid (shModel.below F0.out hb (by omega))
    replace F1 := Lib.hid (F1.out.below hb (by omega))
    replace AB0 := Lib.hid ((hb.block w.heap.size (by omega)).trans AB0.out)
    replace T := Lib.hid (T.out.trans (hb.mono (by omega)))
    clear hb
    clear HC
    go_wp2_with fail
    go_ret
    exact ⟨rfl, T.out⟩
set_option maxRecDepth 100000 in
theorem lawStageRange_any (w : World) (es0 : List Value) (x0 : dModel) (h0 : shModel.reads (Under w.heap.size) w es0 x0) (a1 : Option Addr) (n1 c1 : Nat) (m1 : n1 ≤ 9223372036854775807) (k1 : CameIn w a1 n1) (a2 : Int) :
    Calls Try.prog 7 #[(.agg es0.toArray), (.slice a1 n1 c1), (.int .i64 a2)] w fun e w' => e = .returned (.bool true) ∧ Below w.heap.size w w' := by
  by_cases b0 : 1048576 < n1
  · obtain ⟨a0_0, n0_0, c0_0, rfl, -⟩ := shModel_reads.1 h0
    have t : decide ((n1 : Int) > 1048576) = true := decide_eq_true (by omega)
    have T := Lib.hid ((Below.refl w.heap.size w).alloc (Nat.le_refl _) (.cells #[.slice a0_0 n0_0 c0_0] 51 (0, 0)))
    clear k1 h0
    go_enter Try.func7, Try.ntmps7
    go_wp2_with fail
    go_ret
    exact ⟨rfl, T.out⟩
  · obtain ⟨xs, hl, hc⟩ := k1
    exact lawStageRange_small w es0 x0 h0 a1 n1 c1 xs ⟨hl, by omega, hc⟩ a2
set_option maxRecDepth 100000 in
set_option maxHeartbeats 6400000 in
theorem lawStageCost_small (w : World) (es0 : List Value) (x0 : dModel) (h0 : shModel.reads (Under w.heap.size) w es0 x0) (a1 : Option Addr) (n1 c1 : Nat) (x1 : List Int) (h1 : IntsIn w.heap.size w a1 n1 x1) (a2 : Int) :
    Calls Try.prog 8 #[(.agg es0.toArray), (.slice a1 n1 c1), (.int .i64 a2)] w fun e w' => e = .returned (.bool true) ∧ Below w.heap.size w w' := by
  obtain ⟨a0_0, n0_0, c0_0, rfl, -⟩ := shModel_reads.1 h0
  obtain ⟨u0, hu0⟩ : ∃ u, shModel.bulk x0 = u := ⟨_, rfl⟩
  have U0 := Lib.hid hu0
  have F0 := Lib.hid h0
  have rm := h1.room
  have F1 := Lib.hid h1
  have T := Lib.hid (Below.refl w.heap.size w)
  have t1 : decide ((n1 : Int) > 1048576) = false := decide_eq_false (by omega)
  clear hu0 h0 h1
  by_cases f0 : ((u0 : Nat) : Int) ≤ 1048576
  · go_enter Try.func8, Try.ntmps8
    go_wp2_with fail
    have hb := (Below.refl w.heap.size w).alloc (Nat.le_refl _) (.cells #[.slice a0_0 n0_0 c0_0] 51 (0, 0))
    have hk := heap_alloc_new w (.cells #[.slice a0_0 n0_0 c0_0] 51 (0, 0))
    have szw1 : w.heap.size < (w.alloc (.cells #[.slice a0_0 n0_0 c0_0] 51 (0, 0))).heap.size := by simp
    generalize w.alloc (.cells #[.slice a0_0 n0_0 c0_0] 51 (0, 0)) = w1 at hb hk szw1 ⊢
    replace F0 := Lib.hid (shModel.below F0.out hb (by omega))
    replace F1 := Lib.hid (F1.out.below hb (by omega))
    replace T := Lib.hid (T.out.trans (hb.mono (by omega)))
    have AB0 := Lib.hid hk
    clear hb hk
    have hc := szModel_c _ _ _ x0 (1048576) F0.out (by omega) (by omega) (by omega)
    rw [U0.out, szN_yes (by omega)] at hc
    obtain ⟨l0, hl0⟩ : ∃ l, 1048576 - (u0 : Int) = l := ⟨_, rfl⟩
    rw [hl0] at hc
    have t0 : decide (l0 < 0) = false := decide_eq_false (by omega)
    have HC := Lib.hid hc
    clear hc
    refine HC.out.mono ?_
    rintro e w2 ⟨rfl, hb⟩
    have szw2 := hb.size
    replace F0 := Lib.hid (shModel.below F0.out hb (by omega))
    replace F1 := Lib.hid (F1.out.below hb (by omega))
    replace AB0 := Lib.hid ((hb.block w.heap.size (by omega)).trans AB0.out)
    replace T := Lib.hid (T.out.trans (hb.mono (by omega)))
    clear hb
    clear HC
    have HC := Lib.hid (toModel_c _ _ _ x0 F0.out (by omega) (by rw [U0.out]; omega))
    have za := box1 AB0.out
    go_wp2_with fail
    clear za
    refine HC.out.mono ?_
    rintro e w3 ⟨eY0, rfl, hr, hb⟩
    have szw3 := hb.size
    replace F0 := Lib.hid (shModel.below F0.out hb (by omega))
    replace F1 := Lib.hid (F1.out.below hb (by omega))
    replace AB0 := Lib.hid ((hb.block w.heap.size (by omega)).trans AB0.out)
    replace T := Lib.hid (T.out.trans (hb.mono (by omega)))
    clear hb
    obtain ⟨aY0, nY0, cY0, rfl, gY01, gY02, hl⟩ := shModel_reads.1 (shModel.under hr)
    have Y0 := Lib.hid hl
    clear hr hl HC
    have HC := Lib.hid (toIntS_any _ _ a1 n1 c1 x1 F1.out (by omega))
    go_wp2_with fail
    refine HC.out.mono ?_
    rintro e w4 ⟨rfl, hr, hb⟩
    have szw4 := hb.size
    replace F0 := Lib.hid (shModel.below F0.out hb (by omega))
    replace F1 := Lib.hid (F1.out.below hb (by omega))
    replace AB0 := Lib.hid ((hb.block w.heap.size (by omega)).trans AB0.out)
    replace Y0 := Lib.hid (Y0.out.below hb (by omega))
    replace T := Lib.hid (T.out.trans (hb.mono (by omega)))
    clear hb
    have hi := row_ints hr F1.out.len rm
    have Y1 := Lib.hid hi
    clear hr hi HC
    obtain ⟨v0, hv0⟩ : ∃ v, costC x0 x1 a2 = v := ⟨_, rfl⟩
    have V0 := Lib.hid hv0
    clear hv0
    have hc := specStageCost_c _ _ _ _ x0 (Y0.out.le (by omega)) gY01 gY02 (by rw [← shModel_bulk, U0.out]; omega) _ n1 n1 x1 (Y1.out.le (by omega)) a2
    rw [V0.out] at hc
    have HC := Lib.hid hc
    clear hc
    go_wp2_with fail
    refine HC.out.mono ?_
    clear Y0 Y1
    rintro e w5 ⟨rfl, hb⟩
    have szw5 := hb.size
    replace F0 := Lib.hid (shModel.below F0.out hb (by omega))
    replace F1 := Lib.hid (F1.out.below hb (by omega))
    replace AB0 := Lib.hid ((hb.block w.heap.size (by omega)).trans AB0.out)
    replace T := Lib.hid (T.out.trans (hb.mono (by omega)))
    clear hb
    clear HC
    have HC := Lib.hid (toModel_c _ _ _ x0 F0.out (by omega) (by rw [U0.out]; omega))
    have za := box1 AB0.out
    go_wp2_with fail
    clear za
    refine HC.out.mono ?_
    rintro e w6 ⟨eX0, rfl, hr, hb⟩
    have szw6 := hb.size
    replace F0 := Lib.hid (shModel.below F0.out hb (by omega))
    replace F1 := Lib.hid (F1.out.below hb (by omega))
    replace AB0 := Lib.hid ((hb.block w.heap.size (by omega)).trans AB0.out)
    replace T := Lib.hid (T.out.trans (hb.mono (by omega)))
    clear hb
    obtain ⟨aX0, nX0, cX0, rfl, gX01, gX02, hl⟩ := shModel_reads.1 (shModel.under hr)
    have X0 := Lib.hid hl
    clear hr hl HC
    go_wp2_with fail
    have hb := (Below.refl w6.heap.size w6).alloc (Nat.le_refl _) (.cells #[.slice aX0 nX0 cX0] 26 (0, 0))
    have hk := heap_alloc_new w6 (.cells #[.slice aX0 nX0 cX0] 26 (0, 0))
    have szw7 : w6.heap.size < (w6.alloc (.cells #[.slice aX0 nX0 cX0] 26 (0, 0))).heap.size := by simp
    generalize w6.alloc (.cells #[.slice aX0 nX0 cX0] 26 (0, 0)) = w7 at hb hk szw7 ⊢
    replace F0 := Lib.hid (shModel.below F0.out hb (by omega))
    replace F1 := Lib.hid (F1.out.below hb (by omega))
    replace AB0 := Lib.hid ((hb.block w.heap.size (by omega)).trans AB0.out)
    replace X0 := Lib.hid (X0.out.below hb (by omega))
    replace T := Lib.hid (T.out.trans (hb.mono (by omega)))
    have XB0 := Lib.hid hk
    clear hb hk
    have HC := Lib.hid (toIntS_any _ _ a1 n1 c1 x1 F1.out (by omega))
    try go_wp2_with fail
    refine HC.out.mono ?_
    rintro e w8 ⟨rfl, hr, hb⟩
    have szw8 := hb.size
    replace F0 := Lib.hid (shModel.below F0.out hb (by omega))
    replace F1 := Lib.hid (F1.out.below hb (by omega))
    replace AB0 := Lib.hid ((hb.block w.heap.size (by omega)).trans AB0.out)
    replace X0 := Lib.hid (X0.out.below hb (by omega))
    replace XB0 := Lib.hid ((hb.block w6.heap.size (by omega)).trans XB0.out)
    replace T := Lib.hid (T.out.trans (hb.mono (by omega)))
    clear hb
    have hi := row_ints hr F1.out.len rm
    have X1 := Lib.hid hi
    clear hr hi HC
    have hc := implStageCost_c _ _ _ _ x0 (X0.out.le (by omega)) gX01 gX02 (by rw [← shModel_bulk, U0.out]; omega) _ n1 n1 x1 (X1.out.le (by omega)) a2
    rw [V0.out] at hc
    have HC := Lib.hid hc
    clear hc
    have zx := box1 XB0.out
    go_wp2_with fail
    clear zx
    refine HC.out.mono ?_
    rintro e w9 ⟨rfl, hb⟩
    have szw9 := hb.size
    replace F0 := Lib.hid (shModel.below F0.out hb (by omega))
    replace F1 := Lib.hid (F1.out.below hb (by omega))
    replace AB0 := Lib.hid ((hb.block w.heap.size (by omega)).trans AB0.out)
    replace X0 := Lib.hid (X0.out.below hb (by omega))
    replace XB0 := Lib.hid ((hb.block w6.heap.size (by omega)).trans XB0.out)
    replace X1 := Lib.hid (X1.out.below hb (by omega))
    replace T := Lib.hid (T.out.trans (hb.mono (by omega)))
    clear hb
    clear HC
    have zx := box1 XB0.out
    have za := box1 AB0.out
    go_upto_region 13 with fail
    go_cut [41] (fun t wx => t = .bool false ∧ Below w9.heap.size w9 wx)
    case first =>
      have hdr : Below w9.heap.size w9 w9.drew := (Below.refl _ _).drew
      have FD := Lib.hid (shModel.below F0.out hdr (by omega))
      have XD := Lib.hid (shModel_reads.2 ⟨aX0, nX0, cX0, rfl, gX01, gX02, X0.out.below hdr (by omega)⟩)
      have DR := Lib.hid hdr
      have szd : w9.heap.size ≤ w9.drew.heap.size := hdr.size
      have XBD : Hid (w9.drew.heap[w6.heap.size]? = _) := Lib.hid XB0.out
      clear hdr
      have HC1 := Lib.hid (toModel_c w9.drew _ _ x0 FD.out (by omega) (by rw [U0.out]; omega))
      have HC2 := Lib.hid fun (w1 : World) (es : List Value) (hb : Below w9.drew.heap.size w9.drew w1) (hr : shModel.reads (From w9.drew.heap.size w1.heap.size) w1 es x0) => eqModel_c w1 _ _ _ es x0 (shModel.below XD.out hb (by omega)) (shModel.under hr) (by have := hb.size; omega) (Nat.le_refl _) (by rw [U0.out]; omega)
      go_region_law (first
        | (go_simp; go_at_call 28; (with_reducible refine HC1.out.mono ?_); rintro e wt ⟨eg, rfl, hr, hb⟩; have hq := HC2.out wt eg hb hr; have zz := box1 ((hb.block w6.heap.size (by omega)).trans XBD.out); obtain ⟨ag_0, ng_0, cg_0, rfl, -⟩ := shModel_reads.1 hr; have HQ := Lib.hid hq; have HBT := Lib.hid hb; have szt := hb.size; clear hb hr hq)
        | (go_simp; go_at_call 30; (with_reducible refine HQ.out.mono ?_); rintro e wq ⟨rfl, hb⟩; have BQ := Lib.hid (DR.out.trans ((HBT.out.mono szd).trans (hb.mono (by omega)))); clear hb))
      all_goals
        go_wp2_with fail
        go_meet
        case rel => exact ⟨rfl, BQ.out⟩
    case rest =>
      obtain ⟨rfl, hb⟩ := hcut
      clear zx za
      obtain ⟨w10, rfl⟩ : ∃ x, x = wc := ⟨_, rfl⟩
      have szw10 := hb.size
      replace F0 := Lib.hid (shModel.below F0.out hb (by omega))
      replace F1 := Lib.hid (F1.out.below hb (by omega))
      replace AB0 := Lib.hid ((hb.block w.heap.size (by omega)).trans AB0.out)
      replace X0 := Lib.hid (X0.out.below hb (by omega))
      replace XB0 := Lib.hid ((hb.block w6.heap.size (by omega)).trans XB0.out)
      replace X1 := Lib.hid (X1.out.below hb (by omega))
      replace T := Lib.hid (T.out.trans (hb.mono (by omega)))
      clear hb
      have HC := Lib.hid (toIntS_any _ _ a1 n1 c1 x1 F1.out (by omega))
      go_wp2_with fail
      refine HC.out.mono ?_
      rintro e w11 ⟨rfl, hr, hb⟩
      have szw11 := hb.size
      replace F0 := Lib.hid (shModel.below F0.out hb (by omega))
      replace F1 := Lib.hid (F1.out.below hb (by omega))
      replace AB0 := Lib.hid ((hb.block w.heap.size (by omega)).trans AB0.out)
      replace X0 := Lib.hid (X0.out.below hb (by omega))
      replace XB0 := Lib.hid ((hb.block w6.heap.size (by omega)).trans XB0.out)
      replace X1 := Lib.hid (X1.out.below hb (by omega))
      replace T := Lib.hid (T.out.trans (hb.mono (by omega)))
      clear hb
      have hi := row_ints hr F1.out.len rm
      have Z1 := Lib.hid hi
      clear hr hi HC
      have HC := Lib.hid (eqIntS_same _ _ n1 n1 x1 _ n1 (X1.out.le (by omega)) (Z1.out.le (by omega)))
      go_wp2_with fail
      refine HC.out.mono ?_
      clear Z1
      rintro e w12 ⟨rfl, hb⟩
      have szw12 := hb.size
      replace F0 := Lib.hid (shModel.below F0.out hb (by omega))
      replace F1 := Lib.hid (F1.out.below hb (by omega))
      replace AB0 := Lib.hid ((hb.block w.heap.size (by omega)).trans AB0.out)
      replace X0 := Lib.hid (X0.out.below hb (by omega))
      replace XB0 := Lib.hid ((hb.block w6.heap.size (by omega)).trans XB0.out)
      replace X1 := Lib.hid (X1.out.below hb (by omega))
      replace T := Lib.hid (T.out.trans (hb.mono (by omega)))
      clear hb
      clear HC
      go_wp2_with fail
      go_ret
      exact ⟨rfl, T.out⟩
  · go_enter Try.func8, Try.ntmps8
    go_wp2_with fail
    have hb := (Below.refl w.heap.size w).alloc (Nat.le_refl _) (.cells #[.slice a0_0 n0_0 c0_0] 51 (0, 0))
    have hk := heap_alloc_new w (.cells #[.slice a0_0 n0_0 c0_0] 51 (0, 0))
    have szw1 : w.heap.size < (w.alloc (.cells #[.slice a0_0 n0_0 c0_0] 51 (0, 0))).heap.size := by simp
    generalize w.alloc (.cells #[.slice a0_0 n0_0 c0_0] 51 (0, 0)) = w1 at hb hk szw1 ⊢
    replace F0 := Lib.hid (shModel.below F0.out hb (by omega))
    replace F1 := Lib.hid (F1.out.below hb (by omega))
    replace T := Lib.hid (T.out.trans (hb.mono (by omega)))
    have AB0 := Lib.hid hk
    clear hb hk
    have hc := szModel_c _ _ _ x0 (1048576) F0.out (by omega) (by omega) (by omega)
    rw [U0.out, szN_no (by omega)] at hc
    have HC := Lib.hid hc
    clear hc
    refine HC.out.mono ?_
    rintro e w2 ⟨rfl, hb⟩
    have szw2 := hb.size
    replace F0 := Lib.hid (shModel.below F0.out hb (by omega))
    replace F1 := Lib.hid (F1.out.below hb (by omega))
    replace AB0 := Lib.hid ((hb.block w.heap.size (by omega)).trans AB0.out)
    replace T := Lib.hid (T.out.trans (hb.mono (by omega)))
    clear hb
    clear HC
    go_wp2_with fail
    go_ret
    exact ⟨rfl, T.out⟩
set_option maxRecDepth 100000 in
theorem lawStageCost_any (w : World) (es0 : List Value) (x0 : dModel) (h0 : shModel.reads (Under w.heap.size) w es0 x0) (a1 : Option Addr) (n1 c1 : Nat) (m1 : n1 ≤ 9223372036854775807) (k1 : CameIn w a1 n1) (a2 : Int) :
    Calls Try.prog 8 #[(.agg es0.toArray), (.slice a1 n1 c1), (.int .i64 a2)] w fun e w' => e = .returned (.bool true) ∧ Below w.heap.size w w' := by
  by_cases b0 : 1048576 < n1
  · obtain ⟨a0_0, n0_0, c0_0, rfl, -⟩ := shModel_reads.1 h0
    have t : decide ((n1 : Int) > 1048576) = true := decide_eq_true (by omega)
    have T := Lib.hid ((Below.refl w.heap.size w).alloc (Nat.le_refl _) (.cells #[.slice a0_0 n0_0 c0_0] 51 (0, 0)))
    clear k1 h0
    go_enter Try.func8, Try.ntmps8
    go_wp2_with fail
    go_ret
    exact ⟨rfl, T.out⟩
  · obtain ⟨xs, hl, hc⟩ := k1
    exact lawStageCost_small w es0 x0 h0 a1 n1 c1 xs ⟨hl, by omega, hc⟩ a2
set_option maxRecDepth 100000 in
set_option maxHeartbeats 6400000 in
theorem lawMaxCost_small (w : World) (es0 : List Value) (x0 : dModel) (h0 : shModel.reads (Under w.heap.size) w es0 x0) (a1 : Option Addr) (n1 c1 : Nat) (x1 : List Int) (h1 : IntsIn w.heap.size w a1 n1 x1) :
    Calls Try.prog 9 #[(.agg es0.toArray), (.slice a1 n1 c1)] w fun e w' => e = .returned (.bool true) ∧ Below w.heap.size w w' := by
  obtain ⟨a0_0, n0_0, c0_0, rfl, -⟩ := shModel_reads.1 h0
  obtain ⟨u0, hu0⟩ : ∃ u, shModel.bulk x0 = u := ⟨_, rfl⟩
  have U0 := Lib.hid hu0
  have F0 := Lib.hid h0
  have rm := h1.room
  have F1 := Lib.hid h1
  have T := Lib.hid (Below.refl w.heap.size w)
  have t1 : decide ((n1 : Int) > 1048576) = false := decide_eq_false (by omega)
  clear hu0 h0 h1
  by_cases f0 : ((u0 : Nat) : Int) ≤ 1048576
  · go_enter Try.func9, Try.ntmps9
    go_wp2_with fail
    have hb := (Below.refl w.heap.size w).alloc (Nat.le_refl _) (.cells #[.slice a0_0 n0_0 c0_0] 51 (0, 0))
    have hk := heap_alloc_new w (.cells #[.slice a0_0 n0_0 c0_0] 51 (0, 0))
    have szw1 : w.heap.size < (w.alloc (.cells #[.slice a0_0 n0_0 c0_0] 51 (0, 0))).heap.size := by simp
    generalize w.alloc (.cells #[.slice a0_0 n0_0 c0_0] 51 (0, 0)) = w1 at hb hk szw1 ⊢
    replace F0 := Lib.hid (shModel.below F0.out hb (by omega))
    replace F1 := Lib.hid (F1.out.below hb (by omega))
    replace T := Lib.hid (T.out.trans (hb.mono (by omega)))
    have AB0 := Lib.hid hk
    clear hb hk
    have hc := szModel_c _ _ _ x0 (1048576) F0.out (by omega) (by omega) (by omega)
    rw [U0.out, szN_yes (by omega)] at hc
    obtain ⟨l0, hl0⟩ : ∃ l, 1048576 - (u0 : Int) = l := ⟨_, rfl⟩
    rw [hl0] at hc
    have t0 : decide (l0 < 0) = false := decide_eq_false (by omega)
    have HC := Lib.hid hc
    clear hc
    refine HC.out.mono ?_
    rintro e w2 ⟨rfl, hb⟩
    have szw2 := hb.size
    replace F0 := Lib.hid (shModel.below F0.out hb (by omega))
    replace F1 := Lib.hid (F1.out.below hb (by omega))
    replace AB0 := Lib.hid ((hb.block w.heap.size (by omega)).trans AB0.out)
    replace T := Lib.hid (T.out.trans (hb.mono (by omega)))
    clear hb
    clear HC
    have HC := Lib.hid (toModel_c _ _ _ x0 F0.out (by omega) (by rw [U0.out]; omega))
    have za := box1 AB0.out
    go_wp2_with fail
    clear za
    refine HC.out.mono ?_
    rintro e w3 ⟨eY0, rfl, hr, hb⟩
    have szw3 := hb.size
    replace F0 := Lib.hid (shModel.below F0.out hb (by omega))
    replace F1 := Lib.hid (F1.out.below hb (by omega))
    replace AB0 := Lib.hid ((hb.block w.heap.size (by omega)).trans AB0.out)
    replace T := Lib.hid (T.out.trans (hb.mono (by omega)))
    clear hb
    obtain ⟨aY0, nY0, cY0, rfl, gY01, gY02, hl⟩ := shModel_reads.1 (shModel.under hr)
    have Y0 := Lib.hid hl
    clear hr hl HC
    have HC := Lib.hid (toIntS_any _ _ a1 n1 c1 x1 F1.out (by omega))
    go_wp2_with fail
    refine HC.out.mono ?_
    rintro e w4 ⟨rfl, hr, hb⟩
    have szw4 := hb.size
    replace F0 := Lib.hid (shModel.below F0.out hb (by omega))
    replace F1 := Lib.hid (F1.out.below hb (by omega))
    replace AB0 := Lib.hid ((hb.block w.heap.size (by omega)).trans AB0.out)
    replace Y0 := Lib.hid (Y0.out.below hb (by omega))
    replace T := Lib.hid (T.out.trans (hb.mono (by omega)))
    clear hb
    have hi := row_ints hr F1.out.len rm
    have Y1 := Lib.hid hi
    clear hr hi HC
    obtain ⟨v0, hv0⟩ : ∃ v, maxC x0 x1 = v := ⟨_, rfl⟩
    have V0 := Lib.hid hv0
    clear hv0
    have hc := specMaxCost_c _ _ _ _ x0 (Y0.out.le (by omega)) gY01 gY02 (by rw [← shModel_bulk, U0.out]; omega) _ n1 n1 x1 (Y1.out.le (by omega))
    rw [V0.out] at hc
    have HC := Lib.hid hc
    clear hc
    go_wp2_with fail
    refine HC.out.mono ?_
    clear Y0 Y1
    rintro e w5 ⟨rfl, hb⟩
    have szw5 := hb.size
    replace F0 := Lib.hid (shModel.below F0.out hb (by omega))
    replace F1 := Lib.hid (F1.out.below hb (by omega))
    replace AB0 := Lib.hid ((hb.block w.heap.size (by omega)).trans AB0.out)
    replace T := Lib.hid (T.out.trans (hb.mono (by omega)))
    clear hb
    clear HC
    have HC := Lib.hid (toModel_c _ _ _ x0 F0.out (by omega) (by rw [U0.out]; omega))
    have za := box1 AB0.out
    go_wp2_with fail
    clear za
    refine HC.out.mono ?_
    rintro e w6 ⟨eX0, rfl, hr, hb⟩
    have szw6 := hb.size
    replace F0 := Lib.hid (shModel.below F0.out hb (by omega))
    replace F1 := Lib.hid (F1.out.below hb (by omega))
    replace AB0 := Lib.hid ((hb.block w.heap.size (by omega)).trans AB0.out)
    replace T := Lib.hid (T.out.trans (hb.mono (by omega)))
    clear hb
    obtain ⟨aX0, nX0, cX0, rfl, gX01, gX02, hl⟩ := shModel_reads.1 (shModel.under hr)
    have X0 := Lib.hid hl
    clear hr hl HC
    go_wp2_with fail
    have hb := (Below.refl w6.heap.size w6).alloc (Nat.le_refl _) (.cells #[.slice aX0 nX0 cX0] 26 (0, 0))
    have hk := heap_alloc_new w6 (.cells #[.slice aX0 nX0 cX0] 26 (0, 0))
    have szw7 : w6.heap.size < (w6.alloc (.cells #[.slice aX0 nX0 cX0] 26 (0, 0))).heap.size := by simp
    generalize w6.alloc (.cells #[.slice aX0 nX0 cX0] 26 (0, 0)) = w7 at hb hk szw7 ⊢
    replace F0 := Lib.hid (shModel.below F0.out hb (by omega))
    replace F1 := Lib.hid (F1.out.below hb (by omega))
    replace AB0 := Lib.hid ((hb.block w.heap.size (by omega)).trans AB0.out)
    replace X0 := Lib.hid (X0.out.below hb (by omega))
    replace T := Lib.hid (T.out.trans (hb.mono (by omega)))
    have XB0 := Lib.hid hk
    clear hb hk
    have HC := Lib.hid (toIntS_any _ _ a1 n1 c1 x1 F1.out (by omega))
    try go_wp2_with fail
    refine HC.out.mono ?_
    rintro e w8 ⟨rfl, hr, hb⟩
    have szw8 := hb.size
    replace F0 := Lib.hid (shModel.below F0.out hb (by omega))
    replace F1 := Lib.hid (F1.out.below hb (by omega))
    replace AB0 := Lib.hid ((hb.block w.heap.size (by omega)).trans AB0.out)
    replace X0 := Lib.hid (X0.out.below hb (by omega))
    replace XB0 := Lib.hid ((hb.block w6.heap.size (by omega)).trans XB0.out)
    replace T := Lib.hid (T.out.trans (hb.mono (by omega)))
    clear hb
    have hi := row_ints hr F1.out.len rm
    have X1 := Lib.hid hi
    clear hr hi HC
    have hc := implMaxCost_c _ _ _ _ x0 (X0.out.le (by omega)) gX01 gX02 (by rw [← shModel_bulk, U0.out]; omega) _ n1 n1 x1 (X1.out.le (by omega))
    rw [V0.out] at hc
    have HC := Lib.hid hc
    clear hc
    have zx := box1 XB0.out
    go_wp2_with fail
    clear zx
    refine HC.out.mono ?_
    rintro e w9 ⟨rfl, hb⟩
    have szw9 := hb.size
    replace F0 := Lib.hid (shModel.below F0.out hb (by omega))
    replace F1 := Lib.hid (F1.out.below hb (by omega))
    replace AB0 := Lib.hid ((hb.block w.heap.size (by omega)).trans AB0.out)
    replace X0 := Lib.hid (X0.out.below hb (by omega))
    replace XB0 := Lib.hid ((hb.block w6.heap.size (by omega)).trans XB0.out)
    replace X1 := Lib.hid (X1.out.below hb (by omega))
    replace T := Lib.hid (T.out.trans (hb.mono (by omega)))
    clear hb
    clear HC
    have zx := box1 XB0.out
    have za := box1 AB0.out
    go_upto_region 13 with fail
    go_cut [37] (fun t wx => t = .bool false ∧ Below w9.heap.size w9 wx)
    case first =>
      have hdr : Below w9.heap.size w9 w9.drew := (Below.refl _ _).drew
      have FD := Lib.hid (shModel.below F0.out hdr (by omega))
      have XD := Lib.hid (shModel_reads.2 ⟨aX0, nX0, cX0, rfl, gX01, gX02, X0.out.below hdr (by omega)⟩)
      have DR := Lib.hid hdr
      have szd : w9.heap.size ≤ w9.drew.heap.size := hdr.size
      have XBD : Hid (w9.drew.heap[w6.heap.size]? = _) := Lib.hid XB0.out
      clear hdr
      have HC1 := Lib.hid (toModel_c w9.drew _ _ x0 FD.out (by omega) (by rw [U0.out]; omega))
      have HC2 := Lib.hid fun (w1 : World) (es : List Value) (hb : Below w9.drew.heap.size w9.drew w1) (hr : shModel.reads (From w9.drew.heap.size w1.heap.size) w1 es x0) => eqModel_c w1 _ _ _ es x0 (shModel.below XD.out hb (by omega)) (shModel.under hr) (by have := hb.size; omega) (Nat.le_refl _) (by rw [U0.out]; omega)
      go_region_law (first
        | (go_simp; go_at_call 28; (with_reducible refine HC1.out.mono ?_); rintro e wt ⟨eg, rfl, hr, hb⟩; have hq := HC2.out wt eg hb hr; have zz := box1 ((hb.block w6.heap.size (by omega)).trans XBD.out); obtain ⟨ag_0, ng_0, cg_0, rfl, -⟩ := shModel_reads.1 hr; have HQ := Lib.hid hq; have HBT := Lib.hid hb; have szt := hb.size; clear hb hr hq)
        | (go_simp; go_at_call 30; (with_reducible refine HQ.out.mono ?_); rintro e wq ⟨rfl, hb⟩; have BQ := Lib.hid (DR.out.trans ((HBT.out.mono szd).trans (hb.mono (by omega)))); clear hb))
      all_goals
        go_wp2_with fail
        go_meet
        case rel => exact ⟨rfl, BQ.out⟩
    case rest =>
      obtain ⟨rfl, hb⟩ := hcut
      clear zx za
      obtain ⟨w10, rfl⟩ : ∃ x, x = wc := ⟨_, rfl⟩
      have szw10 := hb.size
      replace F0 := Lib.hid (shModel.below F0.out hb (by omega))
      replace F1 := Lib.hid (F1.out.below hb (by omega))
      replace AB0 := Lib.hid ((hb.block w.heap.size (by omega)).trans AB0.out)
      replace X0 := Lib.hid (X0.out.below hb (by omega))
      replace XB0 := Lib.hid ((hb.block w6.heap.size (by omega)).trans XB0.out)
      replace X1 := Lib.hid (X1.out.below hb (by omega))
      replace T := Lib.hid (T.out.trans (hb.mono (by omega)))
      clear hb
      have HC := Lib.hid (toIntS_any _ _ a1 n1 c1 x1 F1.out (by omega))
      go_wp2_with fail
      refine HC.out.mono ?_
      rintro e w11 ⟨rfl, hr, hb⟩
      have szw11 := hb.size
      replace F0 := Lib.hid (shModel.below F0.out hb (by omega))
      replace F1 := Lib.hid (F1.out.below hb (by omega))
      replace AB0 := Lib.hid ((hb.block w.heap.size (by omega)).trans AB0.out)
      replace X0 := Lib.hid (X0.out.below hb (by omega))
      replace XB0 := Lib.hid ((hb.block w6.heap.size (by omega)).trans XB0.out)
      replace X1 := Lib.hid (X1.out.below hb (by omega))
      replace T := Lib.hid (T.out.trans (hb.mono (by omega)))
      clear hb
      have hi := row_ints hr F1.out.len rm
      have Z1 := Lib.hid hi
      clear hr hi HC
      have HC := Lib.hid (eqIntS_same _ _ n1 n1 x1 _ n1 (X1.out.le (by omega)) (Z1.out.le (by omega)))
      go_wp2_with fail
      refine HC.out.mono ?_
      clear Z1
      rintro e w12 ⟨rfl, hb⟩
      have szw12 := hb.size
      replace F0 := Lib.hid (shModel.below F0.out hb (by omega))
      replace F1 := Lib.hid (F1.out.below hb (by omega))
      replace AB0 := Lib.hid ((hb.block w.heap.size (by omega)).trans AB0.out)
      replace X0 := Lib.hid (X0.out.below hb (by omega))
      replace XB0 := Lib.hid ((hb.block w6.heap.size (by omega)).trans XB0.out)
      replace X1 := Lib.hid (X1.out.below hb (by omega))
      replace T := Lib.hid (T.out.trans (hb.mono (by omega)))
      clear hb
      clear HC
      go_wp2_with fail
      go_ret
      exact ⟨rfl, T.out⟩
  · go_enter Try.func9, Try.ntmps9
    go_wp2_with fail
    have hb := (Below.refl w.heap.size w).alloc (Nat.le_refl _) (.cells #[.slice a0_0 n0_0 c0_0] 51 (0, 0))
    have hk := heap_alloc_new w (.cells #[.slice a0_0 n0_0 c0_0] 51 (0, 0))
    have szw1 : w.heap.size < (w.alloc (.cells #[.slice a0_0 n0_0 c0_0] 51 (0, 0))).heap.size := by simp
    generalize w.alloc (.cells #[.slice a0_0 n0_0 c0_0] 51 (0, 0)) = w1 at hb hk szw1 ⊢
    replace F0 := Lib.hid (shModel.below F0.out hb (by omega))
    replace F1 := Lib.hid (F1.out.below hb (by omega))
    replace T := Lib.hid (T.out.trans (hb.mono (by omega)))
    have AB0 := Lib.hid hk
    clear hb hk
    have hc := szModel_c _ _ _ x0 (1048576) F0.out (by omega) (by omega) (by omega)
    rw [U0.out, szN_no (by omega)] at hc
    have HC := Lib.hid hc
    clear hc
    refine HC.out.mono ?_
    rintro e w2 ⟨rfl, hb⟩
    have szw2 := hb.size
    replace F0 := Lib.hid (shModel.below F0.out hb (by omega))
    replace F1 := Lib.hid (F1.out.below hb (by omega))
    replace AB0 := Lib.hid ((hb.block w.heap.size (by omega)).trans AB0.out)
    replace T := Lib.hid (T.out.trans (hb.mono (by omega)))
    clear hb
    clear HC
    go_wp2_with fail
    go_ret
    exact ⟨rfl, T.out⟩
set_option maxRecDepth 100000 in
theorem lawMaxCost_any (w : World) (es0 : List Value) (x0 : dModel) (h0 : shModel.reads (Under w.heap.size) w es0 x0) (a1 : Option Addr) (n1 c1 : Nat) (m1 : n1 ≤ 9223372036854775807) (k1 : CameIn w a1 n1) :
    Calls Try.prog 9 #[(.agg es0.toArray), (.slice a1 n1 c1)] w fun e w' => e = .returned (.bool true) ∧ Below w.heap.size w w' := by
  by_cases b0 : 1048576 < n1
  · obtain ⟨a0_0, n0_0, c0_0, rfl, -⟩ := shModel_reads.1 h0
    have t : decide ((n1 : Int) > 1048576) = true := decide_eq_true (by omega)
    have T := Lib.hid ((Below.refl w.heap.size w).alloc (Nat.le_refl _) (.cells #[.slice a0_0 n0_0 c0_0] 51 (0, 0)))
    clear k1 h0
    go_enter Try.func9, Try.ntmps9
    go_wp2_with fail
    go_ret
    exact ⟨rfl, T.out⟩
  · obtain ⟨xs, hl, hc⟩ := k1
    exact lawMaxCost_small w es0 x0 h0 a1 n1 c1 xs ⟨hl, by omega, hc⟩
end Go.Proofs.Ytkmcfbopilieeaa
