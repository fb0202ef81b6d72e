/-
  Exact laws whose answers are owned: the walks.
-/
import Derived.Test.YtgnjcfbfbpjndaaSeqJ
import Derived.Test.YtgnjcfbfbpjndaaBoxed
import Derived.Test.YtgnjcfbfbpjndaaOpen
import Derived.Deep.DeepCutAuto
import Derived.Deep.RegionLaw
namespace Go.Proofs.Ytgnjcfbfbpjndaa
open Go.RowKit
set_option linter.unusedVariables false
set_option linter.unusedSimpArgs false

set_option maxRecDepth 100000 in
set_option maxHeartbeats 12800000 in
theorem lawZeroGrads_any (w : World) (es0 : List Value) (x0 : dModel) (h0 : shModel.reads (Under w.heap.size) w es0 x0) :
    Calls Try.prog 3 #[(.agg es0.toArray)] w fun e w' => e = .returned (.bool true) ∧ Below w.heap.size w w' := by
  obtain ⟨a0_0, n0_0, c0_0, rfl, -⟩ := shModel_reads.1 h0
  obtain ⟨u0, hu0⟩ : ∃ u, shModel.bulk x0 = u := ⟨_, rfl⟩
  obtain ⟨k0, hk0⟩ : ∃ k, ownModel.ctT x0 = k := ⟨_, rfl⟩
  have K0 := Lib.hid hk0
  have fw0 : k0 ≤ 16 * u0 := by rw [← hk0, ← hu0]; exact ownModel_few x0
  have U0 := Lib.hid hu0
  have F0 := Lib.hid h0
  have T := Lib.hid (Below.refl w.heap.size w)
  clear hu0 hk0 h0
  by_cases f0 : ((u0 : Nat) : Int) ≤ 1048576
  · have hk0 : (w.alloc (.cells #[.slice a0_0 n0_0 c0_0] 24 (0, 0))).heap[w.heap.size]? = some (.cells #[.slice a0_0 n0_0 c0_0] 24 (0, 0)) := by
      have := heap_alloc_new w (.cells #[.slice a0_0 n0_0 c0_0] 24 (0, 0))
      simpa using this
    have hb := (Below.refl w.heap.size w).alloc (Nat.le_refl _) (.cells #[.slice a0_0 n0_0 c0_0] 24 (0, 0))
    have szw1 : w.heap.size + 1 = (w.alloc (.cells #[.slice a0_0 n0_0 c0_0] 24 (0, 0))).heap.size := by simp
    go_enter Try.func3, Try.ntmps3
    go_wp2_with fail
    generalize (w.alloc (.cells #[.slice a0_0 n0_0 c0_0] 24 (0, 0))) = w1 at hb szw1 hk0 ⊢
    replace F0 := Lib.hid (shModel.below F0.out hb (by omega))
    replace T := Lib.hid (T.out.trans (hb.mono (by omega)))
    have AB0 := Lib.hid hk0
    clear hb hk0
    have hc := szModel_c _ _ _ x0 (1048576) F0.out (by omega) (by omega) (by omega)
    rw [U0.out, szN_yes (by omega)] at hc
    obtain ⟨l0, hl0⟩ : ∃ l, 1048576 - (u0 : Int) = l := ⟨_, rfl⟩
    rw [hl0] at hc
    have t0 : decide (l0 < 0) = false := decide_eq_false (by omega)
    have HC := Lib.hid hc
    clear hc
    refine HC.out.mono ?_
    rintro e w2 ⟨rfl, hb⟩
    clear HC
    have szw2 := hb.size
    replace F0 := Lib.hid (shModel.below F0.out hb (by omega))
    replace AB0 := Lib.hid ((hb.block w.heap.size (by omega)).trans AB0.out)
    replace T := Lib.hid (T.out.trans (hb.mono (by omega)))
    clear hb
    have ub : u0 ≤ 1048576 := by omega
    obtain ⟨v, hv⟩ : ∃ v, zeroG x0 = v := ⟨_, rfl⟩
    have vb : shGrads.bulk v ≤ 1048576 := by
      rw [← hv]
      have e1 := zero_bulk x0; have e2 := U0.out; omega
    obtain ⟨kv, hkv⟩ : ∃ k, ownGrads.ctT v = k := ⟨_, rfl⟩
    have fwv : kv ≤ 16777216 := by rw [← hkv]; have := ownGrads_few v; omega
    have KV := Lib.hid hkv
    have HV := Lib.hid hv
    clear hv hkv
    have HC := Lib.hid (toModel_c _ _ _ x0 F0.out (by omega) (by rw [U0.out]; omega))
    have za_0 := cell_of_row _ w.heap.size 0 _ _ _ AB0.out
    simp only [List.getElem?_toArray, List.getElem?_cons_zero, List.getElem?_cons_succ] at za_0
    go_wp2_with fail
    clear za_0
    refine HC.out.mono ?_
    rintro e w3 ⟨eY0, rfl, hr, hb⟩
    clear HC
    have szw3 := hb.size
    replace F0 := Lib.hid (shModel.below F0.out hb (by omega))
    replace AB0 := Lib.hid ((hb.block w.heap.size (by omega)).trans AB0.out)
    replace T := Lib.hid (T.out.trans (hb.mono (by omega)))
    clear hb
    have hY0 := shModel.under hr
    obtain ⟨aY0_0, nY0_0, cY0_0, rfl, -⟩ := shModel_reads.1 hY0
    have Y0 := Lib.hid hY0
    clear hr hY0
    have hc := specZeroGrads_o _ _ x0 (shModel.le Y0.out (by omega)) (by rw [U0.out]; omega)
    rw [HV.out] at hc
    have HC := Lib.hid hc
    clear hc
    go_wp2_with fail
    refine HC.out.mono ?_
    rintro e w4 ⟨eW, rfl, hr, hb⟩
    clear HC
    have szw4 := hb.size
    replace F0 := Lib.hid (shModel.below F0.out hb (by omega))
    replace AB0 := Lib.hid ((hb.block w.heap.size (by omega)).trans AB0.out)
    replace T := Lib.hid (T.out.trans (hb.mono (by omega)))
    clear hb
    obtain ⟨aW_0, nW_0, cW_0, rfl, -⟩ := shGrads_reads.1 hr
    have W := Lib.hid (shGrads.under hr)
    clear hr
    clear Y0
    have hb := (Below.refl w4.heap.size w4).alloc (Nat.le_refl _) (.cells #[.slice aW_0 nW_0 cW_0, .int .i64 v.2.1, .bool v.2.2] 28 (0, 0))
    have hk := heap_alloc_new w4 (.cells #[.slice aW_0 nW_0 cW_0, .int .i64 v.2.1, .bool v.2.2] 28 (0, 0))
    have szw5 : w4.heap.size < (w4.alloc (.cells #[.slice aW_0 nW_0 cW_0, .int .i64 v.2.1, .bool v.2.2] 28 (0, 0))).heap.size := by simp
    obtain ⟨w5, hww5⟩ : ∃ W, w4.alloc (.cells #[.slice aW_0 nW_0 cW_0, .int .i64 v.2.1, .bool v.2.2] 28 (0, 0)) = W := ⟨_, rfl⟩
    rw [hww5] at hb hk szw5
    replace F0 := Lib.hid (shModel.below F0.out hb (by omega))
    replace AB0 := Lib.hid ((hb.block w.heap.size (by omega)).trans AB0.out)
    replace W := Lib.hid (shGrads.below W.out hb (by omega))
    replace T := Lib.hid (T.out.trans (hb.mono (by omega)))
    have BW := Lib.hid hk
    clear hb hk
    have HC := Lib.hid (toModel_o _ _ _ x0 F0.out (by omega) (by rw [U0.out]; omega))
    have za_0 := cell_of_row _ w.heap.size 0 _ _ _ AB0.out
    simp only [List.getElem?_toArray, List.getElem?_cons_zero, List.getElem?_cons_succ] at za_0
    go_wp2_with fail
    clear hww5
    clear za_0
    refine HC.out.mono ?_
    rintro e w6 ⟨eX0, rfl, hr, hb⟩
    clear HC
    have szw6 := hb.size
    replace F0 := Lib.hid (shModel.below F0.out hb (by omega))
    replace AB0 := Lib.hid ((hb.block w.heap.size (by omega)).trans AB0.out)
    replace W := Lib.hid (shGrads.below W.out hb (by omega))
    replace BW := Lib.hid ((hb.block w4.heap.size (by omega)).trans BW.out)
    replace T := Lib.hid (T.out.trans (hb.mono (by omega)))
    clear hb
    obtain ⟨aX0_0, nX0_0, cX0_0, rfl, -⟩ := ownModel_owns.1 hr
    have X0 := Lib.hid hr
    clear hr
    have hb := (Below.refl w6.heap.size w6).alloc (Nat.le_refl _) (.cells #[.slice aX0_0 nX0_0 cX0_0] 32 (0, 0))
    have hk := heap_alloc_new w6 (.cells #[.slice aX0_0 nX0_0 cX0_0] 32 (0, 0))
    have szw7 : w6.heap.size < (w6.alloc (.cells #[.slice aX0_0 nX0_0 cX0_0] 32 (0, 0))).heap.size := by simp
    obtain ⟨w7, hww7⟩ : ∃ W, w6.alloc (.cells #[.slice aX0_0 nX0_0 cX0_0] 32 (0, 0)) = W := ⟨_, rfl⟩
    rw [hww7] at hb hk szw7
    replace F0 := Lib.hid (shModel.below F0.out hb (by omega))
    replace AB0 := Lib.hid ((hb.block w.heap.size (by omega)).trans AB0.out)
    replace W := Lib.hid (shGrads.below W.out hb (by omega))
    replace BW := Lib.hid ((hb.block w4.heap.size (by omega)).trans BW.out)
    replace X0 := Lib.hid (ownModel.owns_keep X0.out (.of_below hb fun b o f => by have := f.2; omega))
    replace T := Lib.hid (T.out.trans (hb.mono (by omega)))
    have BX0 := Lib.hid hk
    clear hb hk
    have hc := implZeroGrads_o _ _ x0 (ownModel.owns_reads X0.out fun b o f => by have := f.2; exact Nat.lt_of_lt_of_le this (by omega)) (by rw [U0.out]; omega)
    rw [HV.out] at hc
    have HC := Lib.hid hc
    clear hc
    have zx0_0 := cell_of_row _ w6.heap.size 0 _ _ _ BX0.out
    simp only [List.getElem?_toArray, List.getElem?_cons_zero, List.getElem?_cons_succ] at zx0_0
    go_wp2_with fail
    clear hww7
    clear zx0_0
    refine HC.out.mono ?_
    rintro e w8 ⟨eG, rfl, hr, hb⟩
    clear HC
    have szw8 := hb.size
    replace F0 := Lib.hid (shModel.below F0.out hb (by omega))
    replace AB0 := Lib.hid ((hb.block w.heap.size (by omega)).trans AB0.out)
    replace W := Lib.hid (shGrads.below W.out hb (by omega))
    replace BW := Lib.hid ((hb.block w4.heap.size (by omega)).trans BW.out)
    replace X0 := Lib.hid (ownModel.owns_keep X0.out (.of_below hb fun b o f => by have := f.2; omega))
    replace BX0 := Lib.hid ((hb.block w6.heap.size (by omega)).trans BX0.out)
    replace T := Lib.hid (T.out.trans (hb.mono (by omega)))
    clear hb
    obtain ⟨aG_0, nG_0, cG_0, rfl, -⟩ := ownGrads_owns.1 hr
    have G := Lib.hid hr
    clear hr
    have hb := (Below.refl w8.heap.size w8).alloc (Nat.le_refl _) (.cells #[.slice aG_0 nG_0 cG_0, .int .i64 v.2.1, .bool v.2.2] 28 (0, 0))
    have hk := heap_alloc_new w8 (.cells #[.slice aG_0 nG_0 cG_0, .int .i64 v.2.1, .bool v.2.2] 28 (0, 0))
    have szw9 : w8.heap.size < (w8.alloc (.cells #[.slice aG_0 nG_0 cG_0, .int .i64 v.2.1, .bool v.2.2] 28 (0, 0))).heap.size := by simp
    obtain ⟨w9, hww9⟩ : ∃ W, w8.alloc (.cells #[.slice aG_0 nG_0 cG_0, .int .i64 v.2.1, .bool v.2.2] 28 (0, 0)) = W := ⟨_, rfl⟩
    rw [hww9] at hb hk szw9
    replace F0 := Lib.hid (shModel.below F0.out hb (by omega))
    replace AB0 := Lib.hid ((hb.block w.heap.size (by omega)).trans AB0.out)
    replace W := Lib.hid (shGrads.below W.out hb (by omega))
    replace BW := Lib.hid ((hb.block w4.heap.size (by omega)).trans BW.out)
    replace X0 := Lib.hid (ownModel.owns_keep X0.out (.of_below hb fun b o f => by have := f.2; omega))
    replace BX0 := Lib.hid ((hb.block w6.heap.size (by omega)).trans BX0.out)
    replace G := Lib.hid (ownGrads.owns_keep G.out (.of_below hb fun b o f => by have := f.2; omega))
    replace T := Lib.hid (T.out.trans (hb.mono (by omega)))
    have BG := Lib.hid hk
    clear hb hk
    have HC := Lib.hid (eqGrads_c _ _ _ _ _ v (ownGrads.owns_reads (I := Under w8.heap.size) G.out fun b o f => f.2) W.out (by omega) (by omega) vb)
    have zg_0 := cell_of_row _ w8.heap.size 0 _ _ _ BG.out
    have zg_1 := cell_of_row _ w8.heap.size 1 _ _ _ BG.out
    have zg_2 := cell_of_row _ w8.heap.size 2 _ _ _ BG.out
    simp only [List.getElem?_toArray, List.getElem?_cons_zero, List.getElem?_cons_succ] at zg_0 zg_1 zg_2
    have zw_0 := cell_of_row _ w4.heap.size 0 _ _ _ BW.out
    have zw_1 := cell_of_row _ w4.heap.size 1 _ _ _ BW.out
    have zw_2 := cell_of_row _ w4.heap.size 2 _ _ _ BW.out
    simp only [List.getElem?_toArray, List.getElem?_cons_zero, List.getElem?_cons_succ] at zw_0 zw_1 zw_2
    go_wp2_with fail
    clear hww9
    clear zg_0 zg_1 zg_2
    clear zw_0 zw_1 zw_2
    refine HC.out.mono ?_
    rintro e w10 ⟨rfl, hb⟩
    clear HC
    have szw10 := hb.size
    replace F0 := Lib.hid (shModel.below F0.out hb (by omega))
    replace AB0 := Lib.hid ((hb.block w.heap.size (by omega)).trans AB0.out)
    replace W := Lib.hid (shGrads.below W.out hb (by omega))
    replace BW := Lib.hid ((hb.block w4.heap.size (by omega)).trans BW.out)
    replace X0 := Lib.hid (ownModel.owns_keep X0.out (.of_below hb fun b o f => by have := f.2; omega))
    replace BX0 := Lib.hid ((hb.block w6.heap.size (by omega)).trans BX0.out)
    replace G := Lib.hid (ownGrads.owns_keep G.out (.of_below hb fun b o f => by have := f.2; omega))
    replace BG := Lib.hid ((hb.block w8.heap.size (by omega)).trans BG.out)
    replace T := Lib.hid (T.out.trans (hb.mono (by omega)))
    clear hb
    have zx_0 := cell_of_row _ w6.heap.size 0 _ _ _ BX0.out
    simp only [List.getElem?_toArray, List.getElem?_cons_zero, List.getElem?_cons_succ] at zx_0
    have za_0 := cell_of_row _ w.heap.size 0 _ _ _ AB0.out
    simp only [List.getElem?_toArray, List.getElem?_cons_zero, List.getElem?_cons_succ] at za_0
    go_upto_region 10 with fail
    go_cut [31] (fun t wx => t = .bool false ∧ Below w10.heap.size w10 wx)
    case first =>
      have hdr : Below w10.heap.size w10 w10.drew := (Below.refl _ _).drew
      have FD := Lib.hid (shModel.below F0.out hdr (by omega))
      have XD := Lib.hid (shModel.below (ownModel.owns_reads (I := Under w6.heap.size) X0.out fun b o f => f.2) hdr (by omega))
      have DR := Lib.hid hdr
      have szd : w10.heap.size ≤ w10.drew.heap.size := hdr.size
      have XBD : Hid (w10.drew.heap[w6.heap.size]? = _) := Lib.hid BX0.out
      clear hdr
      have HC1 := Lib.hid (toModel_c w10.drew _ _ x0 FD.out (by omega) (by rw [U0.out]; omega))
      have HC2 := Lib.hid fun (w1 : World) (es : List Value) (hb : Below w10.drew.heap.size w10.drew w1) (hr : shModel.reads (From w10.drew.heap.size w1.heap.size) w1 es x0) => eqModel_c w1 _ _ _ es x0 (shModel.below XD.out hb (by omega)) (shModel.under hr) (by have := hb.size; omega) (Nat.le_refl _) (by rw [U0.out]; omega)
      go_region_law (first
        | (go_simp; go_at_call 7; (with_reducible refine HC1.out.mono ?_); rintro e wt ⟨eg, rfl, hr, hb⟩; have hq := HC2.out wt eg hb hr; have zz_0 := cell_of_row _ w6.heap.size 0 _ _ _ ((hb.block w6.heap.size (by omega)).trans XBD.out); simp only [List.getElem?_toArray, List.getElem?_cons_zero, List.getElem?_cons_succ] at zz_0; obtain ⟨ag_0, ng_0, cg_0, rfl, -⟩ := shModel_reads.1 hr; have HQ := Lib.hid hq; have HBT := Lib.hid hb; have szt := hb.size; clear hb hr hq)
        | (go_simp; go_at_call 10; (with_reducible refine HQ.out.mono ?_); rintro e wq ⟨rfl, hb⟩; have BQ := Lib.hid (DR.out.trans ((HBT.out.mono szd).trans (hb.mono (by omega)))); clear hb))
      all_goals
        go_wp2_with fail
        go_meet
        case rel => exact ⟨rfl, BQ.out⟩
    case rest =>
      obtain ⟨rfl, hb⟩ := hcut
      clear zx_0
      clear za_0
      obtain ⟨w11, rfl⟩ : ∃ x, x = wc := ⟨_, rfl⟩
      have szw11 := hb.size
      replace F0 := Lib.hid (shModel.below F0.out hb (by omega))
      replace AB0 := Lib.hid ((hb.block w.heap.size (by omega)).trans AB0.out)
      replace W := Lib.hid (shGrads.below W.out hb (by omega))
      replace BW := Lib.hid ((hb.block w4.heap.size (by omega)).trans BW.out)
      replace X0 := Lib.hid (ownModel.owns_keep X0.out (.of_below hb fun b o f => by have := f.2; omega))
      replace BX0 := Lib.hid ((hb.block w6.heap.size (by omega)).trans BX0.out)
      replace G := Lib.hid (ownGrads.owns_keep G.out (.of_below hb fun b o f => by have := f.2; omega))
      replace BG := Lib.hid ((hb.block w8.heap.size (by omega)).trans BG.out)
      replace T := Lib.hid (T.out.trans (hb.mono (by omega)))
      clear hb
      have hc := markModel_o _ _ _ x0 (1) X0.out (fun b o f => Nat.lt_of_lt_of_le f.2 (by omega)) (by rw [U0.out]; omega) (by omega) (by rw [K0.out]; omega)
      have zx_0 := cell_of_row _ w6.heap.size 0 _ _ _ BX0.out
      simp only [List.getElem?_toArray, List.getElem?_cons_zero, List.getElem?_cons_succ] at zx_0
      rw [K0.out] at hc
      have HC := Lib.hid hc
      clear hc
      go_wp2_with fail
      clear zx_0
      refine HC.out.mono ?_
      rintro e w13 ⟨rfl, ho, w12, hb, ht⟩
      clear HC
      have szw12 := hb.size
      replace F0 := Lib.hid (shModel.below F0.out hb (by omega))
      replace AB0 := Lib.hid ((hb.block w.heap.size (by omega)).trans AB0.out)
      replace W := Lib.hid (shGrads.below W.out hb (by omega))
      replace BW := Lib.hid ((hb.block w4.heap.size (by omega)).trans BW.out)
      replace BX0 := Lib.hid ((hb.block w6.heap.size (by omega)).trans BX0.out)
      replace G := Lib.hid (ownGrads.owns_keep G.out (.of_below hb fun b o f => by have := f.2; omega))
      replace BG := Lib.hid ((hb.block w8.heap.size (by omega)).trans BG.out)
      replace T := Lib.hid (T.out.trans (hb.mono (by omega)))
      clear hb
      have hq := ht.below (B := w5.heap.size) fun b o f => f.1
      replace F0 := Lib.hid (shModel.below F0.out hq (by omega))
      replace AB0 := Lib.hid ((ht.block w.heap.size fun o f => by have h1 := f.1; have h2 := f.2; omega).trans AB0.out)
      replace W := Lib.hid (shGrads.below W.out hq (by omega))
      replace BW := Lib.hid ((ht.block w4.heap.size fun o f => by have h1 := f.1; have h2 := f.2; omega).trans BW.out)
      replace BX0 := Lib.hid ((ht.block w6.heap.size fun o f => by have h1 := f.1; have h2 := f.2; omega).trans BX0.out)
      replace G := Lib.hid (ownGrads.owns_keep G.out (ht.same fun b o f f' => by have h1 := f.1; have h2 := f.2; have h3 := f'.1; have h4 := f'.2; omega))
      replace BG := Lib.hid ((ht.block w8.heap.size fun o f => by have h1 := f.1; have h2 := f.2; omega).trans BG.out)
      replace T := Lib.hid (T.out.trans (hq.mono (by omega)))
      have szt := ht.size
      clear hq
      have szw13 : w12.heap.size ≤ w13.heap.size := Nat.le_of_eq szt.symm
      clear ht szt ho X0
      have tk : decide ((1 : Int) + (k0 : Int) < 0) = false := decide_eq_false (by omega)
      have HC := Lib.hid (eqGrads_c _ _ _ _ _ v (ownGrads.owns_reads (I := Under w8.heap.size) G.out fun b o f => f.2) W.out (by omega) (by omega) vb)
      have zg_0 := cell_of_row _ w8.heap.size 0 _ _ _ BG.out
      have zg_1 := cell_of_row _ w8.heap.size 1 _ _ _ BG.out
      have zg_2 := cell_of_row _ w8.heap.size 2 _ _ _ BG.out
      simp only [List.getElem?_toArray, List.getElem?_cons_zero, List.getElem?_cons_succ] at zg_0 zg_1 zg_2
      have zw_0 := cell_of_row _ w4.heap.size 0 _ _ _ BW.out
      have zw_1 := cell_of_row _ w4.heap.size 1 _ _ _ BW.out
      have zw_2 := cell_of_row _ w4.heap.size 2 _ _ _ BW.out
      simp only [List.getElem?_toArray, List.getElem?_cons_zero, List.getElem?_cons_succ] at zw_0 zw_1 zw_2
      go_wp2_with fail
      clear zg_0 zg_1 zg_2
      clear zw_0 zw_1 zw_2
      refine HC.out.mono ?_
      rintro e w14 ⟨rfl, hb⟩
      clear HC
      have szw14 := hb.size
      replace F0 := Lib.hid (shModel.below F0.out hb (by omega))
      replace AB0 := Lib.hid ((hb.block w.heap.size (by omega)).trans AB0.out)
      replace W := Lib.hid (shGrads.below W.out hb (by omega))
      replace BW := Lib.hid ((hb.block w4.heap.size (by omega)).trans BW.out)
      replace BX0 := Lib.hid ((hb.block w6.heap.size (by omega)).trans BX0.out)
      replace G := Lib.hid (ownGrads.owns_keep G.out (.of_below hb fun b o f => by have := f.2; omega))
      replace BG := Lib.hid ((hb.block w8.heap.size (by omega)).trans BG.out)
      replace T := Lib.hid (T.out.trans (hb.mono (by omega)))
      clear hb
      have hc := markGrads_o _ _ _ v 1 G.out (fun b o f => Nat.lt_of_lt_of_le f.2 (by omega)) vb (by omega) (by rw [KV.out]; omega)
      rw [KV.out] at hc
      have HC := Lib.hid hc
      clear hc
      have zg_0 := cell_of_row _ w8.heap.size 0 _ _ _ BG.out
      have zg_1 := cell_of_row _ w8.heap.size 1 _ _ _ BG.out
      have zg_2 := cell_of_row _ w8.heap.size 2 _ _ _ BG.out
      simp only [List.getElem?_toArray, List.getElem?_cons_zero, List.getElem?_cons_succ] at zg_0 zg_1 zg_2
      go_wp2_with fail
      clear zg_0 zg_1 zg_2
      refine HC.out.mono ?_
      rintro e w16 ⟨rfl, ho, w15, hb, ht⟩
      clear HC
      have szw15 := hb.size
      replace F0 := Lib.hid (shModel.below F0.out hb (by omega))
      replace AB0 := Lib.hid ((hb.block w.heap.size (by omega)).trans AB0.out)
      replace W := Lib.hid (shGrads.below W.out hb (by omega))
      replace BW := Lib.hid ((hb.block w4.heap.size (by omega)).trans BW.out)
      replace BX0 := Lib.hid ((hb.block w6.heap.size (by omega)).trans BX0.out)
      replace BG := Lib.hid ((hb.block w8.heap.size (by omega)).trans BG.out)
      replace T := Lib.hid (T.out.trans (hb.mono (by omega)))
      clear hb
      have hq := ht.below (B := w7.heap.size) fun b o f => f.1
      replace F0 := Lib.hid (shModel.below F0.out hq (by omega))
      replace AB0 := Lib.hid ((ht.block w.heap.size fun o f => by have h1 := f.1; have h2 := f.2; omega).trans AB0.out)
      replace W := Lib.hid (shGrads.below W.out hq (by omega))
      replace BW := Lib.hid ((ht.block w4.heap.size fun o f => by have h1 := f.1; have h2 := f.2; omega).trans BW.out)
      replace BX0 := Lib.hid ((ht.block w6.heap.size fun o f => by have h1 := f.1; have h2 := f.2; omega).trans BX0.out)
      replace BG := Lib.hid ((ht.block w8.heap.size fun o f => by have h1 := f.1; have h2 := f.2; omega).trans BG.out)
      replace T := Lib.hid (T.out.trans (hq.mono (by omega)))
      have szt := ht.size
      clear hq
      have szw16 : w15.heap.size ≤ w16.heap.size := Nat.le_of_eq szt.symm
      replace G := Lib.hid ho
      clear ht szt ho
      have tv : decide ((1 : Int) + (kv : Int) < 0) = false := decide_eq_false (by omega)
      have tn : ((1 : Int) + (kv : Int) != 1 + (kv : Int)) = false := by simp
      have hc := heldGrads_o _ w8.heap.size _ v 1 (ownGrads.owns_reads (I := Under w8.heap.size) G.out fun b o f => f.2) (by omega) vb (by omega) (by rw [KV.out]; omega)
      rw [KV.out] at hc
      have HC := Lib.hid hc
      clear hc
      have zg_0 := cell_of_row _ w8.heap.size 0 _ _ _ BG.out
      have zg_1 := cell_of_row _ w8.heap.size 1 _ _ _ BG.out
      have zg_2 := cell_of_row _ w8.heap.size 2 _ _ _ BG.out
      simp only [List.getElem?_toArray, List.getElem?_cons_zero, List.getElem?_cons_succ] at zg_0 zg_1 zg_2
      go_wp2_with fail
      clear zg_0 zg_1 zg_2
      refine HC.out.mono ?_
      rintro e w17 ⟨rfl, hb⟩
      clear HC
      have szw17 := hb.size
      replace F0 := Lib.hid (shModel.below F0.out hb (by omega))
      replace AB0 := Lib.hid ((hb.block w.heap.size (by omega)).trans AB0.out)
      replace W := Lib.hid (shGrads.below W.out hb (by omega))
      replace BW := Lib.hid ((hb.block w4.heap.size (by omega)).trans BW.out)
      replace BX0 := Lib.hid ((hb.block w6.heap.size (by omega)).trans BX0.out)
      replace BG := Lib.hid ((hb.block w8.heap.size (by omega)).trans BG.out)
      replace G := Lib.hid (ownGrads.owns_keep G.out (.of_below hb fun b o f => by have := f.2; omega))
      replace T := Lib.hid (T.out.trans (hb.mono (by omega)))
      clear hb
      have HC := Lib.hid (toModel_c _ _ _ x0 F0.out (by omega) (by rw [U0.out]; omega))
      have za_0 := cell_of_row _ w.heap.size 0 _ _ _ AB0.out
      simp only [List.getElem?_toArray, List.getElem?_cons_zero, List.getElem?_cons_succ] at za_0
      go_wp2_with fail
      clear za_0
      refine HC.out.mono ?_
      rintro e w18 ⟨eH0, rfl, hr, hb⟩
      clear HC
      have szw18 := hb.size
      replace F0 := Lib.hid (shModel.below F0.out hb (by omega))
      replace AB0 := Lib.hid ((hb.block w.heap.size (by omega)).trans AB0.out)
      replace W := Lib.hid (shGrads.below W.out hb (by omega))
      replace BW := Lib.hid ((hb.block w4.heap.size (by omega)).trans BW.out)
      replace BX0 := Lib.hid ((hb.block w6.heap.size (by omega)).trans BX0.out)
      replace BG := Lib.hid ((hb.block w8.heap.size (by omega)).trans BG.out)
      replace G := Lib.hid (ownGrads.owns_keep G.out (.of_below hb fun b o f => by have := f.2; omega))
      replace T := Lib.hid (T.out.trans (hb.mono (by omega)))
      clear hb
      have hH0 := shModel.under hr
      obtain ⟨aH0_0, nH0_0, cH0_0, rfl, -⟩ := shModel_reads.1 hH0
      have H0 := Lib.hid hH0
      clear hr hH0
      have hc := implZeroGrads_o _ _ x0 (shModel.le H0.out (by omega)) (by rw [U0.out]; omega)
      rw [HV.out] at hc
      have HC := Lib.hid hc
      clear hc
      go_wp2_with fail
      refine HC.out.mono ?_
      rintro e w19 ⟨eJ, rfl, hr, hb⟩
      clear HC
      have szw19 := hb.size
      replace F0 := Lib.hid (shModel.below F0.out hb (by omega))
      replace AB0 := Lib.hid ((hb.block w.heap.size (by omega)).trans AB0.out)
      replace W := Lib.hid (shGrads.below W.out hb (by omega))
      replace BW := Lib.hid ((hb.block w4.heap.size (by omega)).trans BW.out)
      replace BX0 := Lib.hid ((hb.block w6.heap.size (by omega)).trans BX0.out)
      replace BG := Lib.hid ((hb.block w8.heap.size (by omega)).trans BG.out)
      replace G := Lib.hid (ownGrads.owns_keep G.out (.of_below hb fun b o f => by have := f.2; omega))
      replace T := Lib.hid (T.out.trans (hb.mono (by omega)))
      clear hb
      obtain ⟨aJ_0, nJ_0, cJ_0, rfl, -⟩ := ownGrads_owns.1 hr
      have J := Lib.hid hr
      clear hr
      clear H0
      have hb := (Below.refl w19.heap.size w19).alloc (Nat.le_refl _) (.cells #[.slice aJ_0 nJ_0 cJ_0, .int .i64 v.2.1, .bool v.2.2] 28 (0, 0))
      have hk := heap_alloc_new w19 (.cells #[.slice aJ_0 nJ_0 cJ_0, .int .i64 v.2.1, .bool v.2.2] 28 (0, 0))
      have szw20 : w19.heap.size < (w19.alloc (.cells #[.slice aJ_0 nJ_0 cJ_0, .int .i64 v.2.1, .bool v.2.2] 28 (0, 0))).heap.size := by simp
      obtain ⟨w20, hww20⟩ : ∃ W, w19.alloc (.cells #[.slice aJ_0 nJ_0 cJ_0, .int .i64 v.2.1, .bool v.2.2] 28 (0, 0)) = W := ⟨_, rfl⟩
      rw [hww20] at hb hk szw20
      replace F0 := Lib.hid (shModel.below F0.out hb (by omega))
      replace AB0 := Lib.hid ((hb.block w.heap.size (by omega)).trans AB0.out)
      replace W := Lib.hid (shGrads.below W.out hb (by omega))
      replace BW := Lib.hid ((hb.block w4.heap.size (by omega)).trans BW.out)
      replace BX0 := Lib.hid ((hb.block w6.heap.size (by omega)).trans BX0.out)
      replace BG := Lib.hid ((hb.block w8.heap.size (by omega)).trans BG.out)
      replace G := Lib.hid (ownGrads.owns_keep G.out (.of_below hb fun b o f => by have := f.2; omega))
      replace J := Lib.hid (ownGrads.owns_keep J.out (.of_below hb fun b o f => by have := f.2; omega))
      replace T := Lib.hid (T.out.trans (hb.mono (by omega)))
      have BJ := Lib.hid hk
      clear hb hk
      have HC := Lib.hid (eqGrads_c _ _ _ _ _ v (ownGrads.owns_reads (I := Under w19.heap.size) J.out fun b o f => f.2) W.out (by omega) (by omega) vb)
      have zg_0 := cell_of_row _ w19.heap.size 0 _ _ _ BJ.out
      have zg_1 := cell_of_row _ w19.heap.size 1 _ _ _ BJ.out
      have zg_2 := cell_of_row _ w19.heap.size 2 _ _ _ BJ.out
      simp only [List.getElem?_toArray, List.getElem?_cons_zero, List.getElem?_cons_succ] at zg_0 zg_1 zg_2
      have zw_0 := cell_of_row _ w4.heap.size 0 _ _ _ BW.out
      have zw_1 := cell_of_row _ w4.heap.size 1 _ _ _ BW.out
      have zw_2 := cell_of_row _ w4.heap.size 2 _ _ _ BW.out
      simp only [List.getElem?_toArray, List.getElem?_cons_zero, List.getElem?_cons_succ] at zw_0 zw_1 zw_2
      go_wp2_with fail
      clear hww20
      clear zg_0 zg_1 zg_2
      clear zw_0 zw_1 zw_2
      refine HC.out.mono ?_
      rintro e w21 ⟨rfl, hb⟩
      clear HC
      have szw21 := hb.size
      replace F0 := Lib.hid (shModel.below F0.out hb (by omega))
      replace AB0 := Lib.hid ((hb.block w.heap.size (by omega)).trans AB0.out)
      replace W := Lib.hid (shGrads.below W.out hb (by omega))
      replace BW := Lib.hid ((hb.block w4.heap.size (by omega)).trans BW.out)
      replace BX0 := Lib.hid ((hb.block w6.heap.size (by omega)).trans BX0.out)
      replace BG := Lib.hid ((hb.block w8.heap.size (by omega)).trans BG.out)
      replace G := Lib.hid (ownGrads.owns_keep G.out (.of_below hb fun b o f => by have := f.2; omega))
      replace J := Lib.hid (ownGrads.owns_keep J.out (.of_below hb fun b o f => by have := f.2; omega))
      replace BJ := Lib.hid ((hb.block w19.heap.size (by omega)).trans BJ.out)
      replace T := Lib.hid (T.out.trans (hb.mono (by omega)))
      clear hb
      have hc := heldGrads_o _ w8.heap.size _ v 1 (ownGrads.owns_reads (I := Under w8.heap.size) G.out fun b o f => f.2) (by omega) vb (by omega) (by rw [KV.out]; omega)
      rw [KV.out] at hc
      have HC := Lib.hid hc
      clear hc
      have zg_0 := cell_of_row _ w8.heap.size 0 _ _ _ BG.out
      have zg_1 := cell_of_row _ w8.heap.size 1 _ _ _ BG.out
      have zg_2 := cell_of_row _ w8.heap.size 2 _ _ _ BG.out
      simp only [List.getElem?_toArray, List.getElem?_cons_zero, List.getElem?_cons_succ] at zg_0 zg_1 zg_2
      go_wp2_with fail
      clear zg_0 zg_1 zg_2
      refine HC.out.mono ?_
      rintro e w22 ⟨rfl, hb⟩
      clear HC
      have szw22 := hb.size
      replace F0 := Lib.hid (shModel.below F0.out hb (by omega))
      replace AB0 := Lib.hid ((hb.block w.heap.size (by omega)).trans AB0.out)
      replace W := Lib.hid (shGrads.below W.out hb (by omega))
      replace BW := Lib.hid ((hb.block w4.heap.size (by omega)).trans BW.out)
      replace BX0 := Lib.hid ((hb.block w6.heap.size (by omega)).trans BX0.out)
      replace BG := Lib.hid ((hb.block w8.heap.size (by omega)).trans BG.out)
      replace G := Lib.hid (ownGrads.owns_keep G.out (.of_below hb fun b o f => by have := f.2; omega))
      replace J := Lib.hid (ownGrads.owns_keep J.out (.of_below hb fun b o f => by have := f.2; omega))
      replace BJ := Lib.hid ((hb.block w19.heap.size (by omega)).trans BJ.out)
      replace T := Lib.hid (T.out.trans (hb.mono (by omega)))
      clear hb
      go_wp2_with fail
      go_ret
      exact ⟨rfl, T.out⟩
  · have hk0 : (w.alloc (.cells #[.slice a0_0 n0_0 c0_0] 24 (0, 0))).heap[w.heap.size]? = some (.cells #[.slice a0_0 n0_0 c0_0] 24 (0, 0)) := by
      have := heap_alloc_new w (.cells #[.slice a0_0 n0_0 c0_0] 24 (0, 0))
      simpa using this
    have hb := (Below.refl w.heap.size w).alloc (Nat.le_refl _) (.cells #[.slice a0_0 n0_0 c0_0] 24 (0, 0))
    have szw1 : w.heap.size + 1 = (w.alloc (.cells #[.slice a0_0 n0_0 c0_0] 24 (0, 0))).heap.size := by simp
    go_enter Try.func3, Try.ntmps3
    go_wp2_with fail
    generalize (w.alloc (.cells #[.slice a0_0 n0_0 c0_0] 24 (0, 0))) = w1 at hb szw1 hk0 ⊢
    replace F0 := Lib.hid (shModel.below F0.out hb (by omega))
    replace T := Lib.hid (T.out.trans (hb.mono (by omega)))
    have AB0 := Lib.hid hk0
    clear hb hk0
    have hc := szModel_c _ _ _ x0 (1048576) F0.out (by omega) (by omega) (by omega)
    rw [U0.out, szN_no (by omega)] at hc
    have HC := Lib.hid hc
    clear hc
    refine HC.out.mono ?_
    rintro e w2 ⟨rfl, hb⟩
    clear HC
    have szw2 := hb.size
    replace F0 := Lib.hid (shModel.below F0.out hb (by omega))
    replace AB0 := Lib.hid ((hb.block w.heap.size (by omega)).trans AB0.out)
    replace T := Lib.hid (T.out.trans (hb.mono (by omega)))
    clear hb
    go_wp2_with fail
    go_ret
    exact ⟨rfl, T.out⟩
end Go.Proofs.Ytgnjcfbfbpjndaa
