/-
  Exact laws whose answers are owned: the walks.
-/
import Derived.Test.YtgnjcfbfbpjndaaGreatDoorJoin33
import Derived.Test.YtgnjcfbfbpjndaaGreatDoorJoin30
import Derived.Deep.DeepCutAuto
import Derived.Deep.RegionLaw
namespace Go.Proofs.YtgnjcfbfbpjndaaGreatDoor
open Go.RowKit
set_option linter.unusedVariables false
set_option linter.unusedSimpArgs false

set_option maxRecDepth 100000 in
set_option maxHeartbeats 12800000 in
theorem lawSequential_any (w : World) (es0 : List Value) (x0 : dModel) (h0 : shModel.reads (Under w.heap.size) w es0 x0) (a1 : Option Addr) (n1 c1 : Nat) (x1 : List dPair) (h1 : ListAt shPair (Under w.heap.size) w a1 n1 x1) (m1 : n1 ≤ 9223372036854775807) (hg : LaidE w) :
    Calls Tryz.prog 6 #[(.agg es0.toArray), (.slice a1 n1 c1)] w fun e w' => e = .returned (.bool true) ∧ Below w.heap.size w w' := by
  obtain ⟨a0_0, n0_0, c0_0, rfl, -⟩ := shModel_reads.1 h0
  obtain ⟨u0, hu0⟩ : ∃ u, shModel.bulk x0 = u := ⟨_, rfl⟩
  obtain ⟨k0, hk0⟩ : ∃ k, ownModel.ctT x0 = k := ⟨_, rfl⟩
  have K0 := Lib.hid hk0
  have fw0 : k0 ≤ 16 * u0 := by rw [← hk0, ← hu0]; exact ownModel_few x0
  have U0 := Lib.hid hu0
  have F0 := Lib.hid h0
  obtain ⟨u1, hu1⟩ : ∃ u, (Shape.list shPair).bulk x1 = u := ⟨_, rfl⟩
  obtain ⟨k1, hk1⟩ : ∃ k, (Shape.sum ownPair.ct x1) = k := ⟨_, rfl⟩
  have K1 := Lib.hid hk1
  have fw1 : k1 ≤ 16 * u1 := by rw [← hk1, ← hu1]; exact few_PairS x1
  have U1 := Lib.hid hu1
  have F1 := Lib.hid h1
  have T := Lib.hid (Below.refl w.heap.size w)
  have hlt := hg.lt
  have HG := Lib.hid hg
  clear hu0 hk0 h0 hu1 hk1 h1 hg
  by_cases f0 : ((u0 : Nat) : Int) ≤ 1048576
  · skip
    by_cases f1 : ((u0 + u1 : Nat) : Int) ≤ 1048576
    · have hk0 : (w.alloc (.cells #[.slice a0_0 n0_0 c0_0] 52 (0, 0))).heap[w.heap.size]? = some (.cells #[.slice a0_0 n0_0 c0_0] 52 (0, 0)) := by
        have := heap_alloc_new w (.cells #[.slice a0_0 n0_0 c0_0] 52 (0, 0))
        simpa using this
      have hb := (Below.refl w.heap.size w).alloc (Nat.le_refl _) (.cells #[.slice a0_0 n0_0 c0_0] 52 (0, 0))
      have szw1 : w.heap.size + 1 = (w.alloc (.cells #[.slice a0_0 n0_0 c0_0] 52 (0, 0))).heap.size := by simp
      go_enter Tryz.func6, Tryz.ntmps6
      go_wp2_with fail
      generalize (w.alloc (.cells #[.slice a0_0 n0_0 c0_0] 52 (0, 0))) = w1 at hb szw1 hk0 ⊢
      replace F0 := Lib.hid (shModel.below F0.out hb (by omega))
      replace F1 := Lib.hid (F1.out.below hb (by omega))
      replace T := Lib.hid (T.out.trans (hb.mono (by omega)))
      have AB0 := Lib.hid hk0
      clear hb hk0
      have hc := szModel_c _ _ _ x0 (1048576) F0.out (by omega) (by omega) (by omega)
      rw [U0.out, szN_yes (by omega)] at hc
      obtain ⟨l0, hl0⟩ : ∃ l, 1048576 - (u0 : Int) = l := ⟨_, rfl⟩
      rw [hl0] at hc
      have t0 : decide (l0 < 0) = false := decide_eq_false (by omega)
      have HC := Lib.hid hc
      clear hc
      refine HC.out.mono ?_
      rintro e w2 ⟨rfl, hb⟩
      clear HC
      have szw2 := hb.size
      replace F0 := Lib.hid (shModel.below F0.out hb (by omega))
      replace F1 := Lib.hid (F1.out.below hb (by omega))
      replace AB0 := Lib.hid ((hb.block w.heap.size (by omega)).trans AB0.out)
      replace T := Lib.hid (T.out.trans (hb.mono (by omega)))
      clear hb
      have hc := szPairS_c _ _ a1 n1 c1 x1 (l0) F1.out (by omega) m1 (by omega) (by omega)
      rw [U1.out, szN_yes (by omega)] at hc
      obtain ⟨l1, hl1⟩ : ∃ l, l0 - (u1 : Int) = l := ⟨_, rfl⟩
      rw [hl1] at hc
      have t1 : decide (l1 < 0) = false := decide_eq_false (by omega)
      have HC := Lib.hid hc
      clear hc
      go_wp2_with fail
      refine HC.out.mono ?_
      rintro e w3 ⟨rfl, hb⟩
      clear HC
      have szw3 := hb.size
      replace F0 := Lib.hid (shModel.below F0.out hb (by omega))
      replace F1 := Lib.hid (F1.out.below hb (by omega))
      replace AB0 := Lib.hid ((hb.block w.heap.size (by omega)).trans AB0.out)
      replace T := Lib.hid (T.out.trans (hb.mono (by omega)))
      clear hb
      have ub : u0 + u1 ≤ 1048576 := by omega
      have ln1 : n1 ≤ 1048576 := by have e1 := bulk_list shPair F1.out; have e2 := U1.out; omega
      obtain ⟨v, hv⟩ : ∃ v, seqG x0 x1 = v := ⟨_, rfl⟩
      have vb : shGrads.bulk v ≤ 1048576 := by
        rw [← hv]
        exact seq_small x0 x1
      obtain ⟨kv, hkv⟩ : ∃ k, ownGrads.ctT v = k := ⟨_, rfl⟩
      have fwv : kv ≤ 16777216 := by rw [← hkv]; have := ownGrads_few v; omega
      have KV := Lib.hid hkv
      have HV := Lib.hid hv
      clear hv hkv
      have HC := Lib.hid (toModel_c _ _ _ x0 F0.out (by omega) (by rw [U0.out]; omega))
      have za_0 := cell_of_row _ w.heap.size 0 _ _ _ AB0.out
      simp only [List.getElem?_toArray, List.getElem?_cons_zero, List.getElem?_cons_succ] at za_0
      go_wp2_with fail
      clear za_0
      refine HC.out.mono ?_
      rintro e w4 ⟨eY0, rfl, hr, hb⟩
      clear HC
      have szw4 := hb.size
      replace F0 := Lib.hid (shModel.below F0.out hb (by omega))
      replace F1 := Lib.hid (F1.out.below hb (by omega))
      replace AB0 := Lib.hid ((hb.block w.heap.size (by omega)).trans AB0.out)
      replace T := Lib.hid (T.out.trans (hb.mono (by omega)))
      clear hb
      have hY0 := shModel.under hr
      obtain ⟨aY0_0, nY0_0, cY0_0, rfl, -⟩ := shModel_reads.1 hY0
      have Y0 := Lib.hid hY0
      clear hr hY0
      have HC := Lib.hid (toPairS_c _ _ a1 n1 c1 x1 F1.out (by omega) (by rw [U1.out]; omega))
      go_wp2_with fail
      refine HC.out.mono ?_
      rintro e w5 ⟨rfl, hr, hb⟩
      clear HC
      have szw5 := hb.size
      replace F0 := Lib.hid (shModel.below F0.out hb (by omega))
      replace F1 := Lib.hid (F1.out.below hb (by omega))
      replace AB0 := Lib.hid ((hb.block w.heap.size (by omega)).trans AB0.out)
      replace Y0 := Lib.hid (shModel.below Y0.out hb (by omega))
      replace T := Lib.hid (T.out.trans (hb.mono (by omega)))
      clear hb
      have Y1 := Lib.hid hr.under
      clear hr
      have hc := specSequential_o _ _ x0 (shModel.le Y0.out (by omega)) (by rw [U0.out]; omega) _ n1 n1 x1 (Y1.out.le (by omega)) (Nat.le_refl _) (by omega) (by rw [U1.out]; omega)
      rw [HV.out] at hc
      have HC := Lib.hid hc
      clear hc
      go_wp2_with fail
      refine HC.out.mono ?_
      rintro e w6 ⟨eW, rfl, hr, hb⟩
      clear HC
      have szw6 := hb.size
      replace F0 := Lib.hid (shModel.below F0.out hb (by omega))
      replace F1 := Lib.hid (F1.out.below hb (by omega))
      replace AB0 := Lib.hid ((hb.block w.heap.size (by omega)).trans AB0.out)
      replace T := Lib.hid (T.out.trans (hb.mono (by omega)))
      clear hb
      obtain ⟨aW_0, nW_0, cW_0, rfl, -⟩ := shGrads_reads.1 hr
      have W := Lib.hid (shGrads.under hr)
      clear hr
      clear Y0 Y1
      have hb := (Below.refl w6.heap.size w6).alloc (Nat.le_refl _) (.cells #[.slice aW_0 nW_0 cW_0, .int .i64 v.2.1, .bool v.2.2] 32 (0, 0))
      have hk := heap_alloc_new w6 (.cells #[.slice aW_0 nW_0 cW_0, .int .i64 v.2.1, .bool v.2.2] 32 (0, 0))
      have szw7 : w6.heap.size < (w6.alloc (.cells #[.slice aW_0 nW_0 cW_0, .int .i64 v.2.1, .bool v.2.2] 32 (0, 0))).heap.size := by simp
      obtain ⟨w7, hww7⟩ : ∃ W, w6.alloc (.cells #[.slice aW_0 nW_0 cW_0, .int .i64 v.2.1, .bool v.2.2] 32 (0, 0)) = W := ⟨_, rfl⟩
      rw [hww7] at hb hk szw7
      replace F0 := Lib.hid (shModel.below F0.out hb (by omega))
      replace F1 := Lib.hid (F1.out.below hb (by omega))
      replace AB0 := Lib.hid ((hb.block w.heap.size (by omega)).trans AB0.out)
      replace W := Lib.hid (shGrads.below W.out hb (by omega))
      replace T := Lib.hid (T.out.trans (hb.mono (by omega)))
      have BW := Lib.hid hk
      clear hb hk
      have HC := Lib.hid (toModel_o _ _ _ x0 F0.out (by omega) (by rw [U0.out]; omega))
      have za_0 := cell_of_row _ w.heap.size 0 _ _ _ AB0.out
      simp only [List.getElem?_toArray, List.getElem?_cons_zero, List.getElem?_cons_succ] at za_0
      go_wp2_with fail
      clear hww7
      clear za_0
      refine HC.out.mono ?_
      rintro e w8 ⟨eX0, rfl, hr, hb⟩
      clear HC
      have szw8 := hb.size
      replace F0 := Lib.hid (shModel.below F0.out hb (by omega))
      replace F1 := Lib.hid (F1.out.below hb (by omega))
      replace AB0 := Lib.hid ((hb.block w.heap.size (by omega)).trans AB0.out)
      replace W := Lib.hid (shGrads.below W.out hb (by omega))
      replace BW := Lib.hid ((hb.block w6.heap.size (by omega)).trans BW.out)
      replace T := Lib.hid (T.out.trans (hb.mono (by omega)))
      clear hb
      obtain ⟨aX0_0, nX0_0, cX0_0, rfl, -⟩ := ownModel_owns.1 hr
      have X0 := Lib.hid hr
      clear hr
      have hb := (Below.refl w8.heap.size w8).alloc (Nat.le_refl _) (.cells #[.slice aX0_0 nX0_0 cX0_0] 26 (0, 0))
      have hk := heap_alloc_new w8 (.cells #[.slice aX0_0 nX0_0 cX0_0] 26 (0, 0))
      have szw9 : w8.heap.size < (w8.alloc (.cells #[.slice aX0_0 nX0_0 cX0_0] 26 (0, 0))).heap.size := by simp
      obtain ⟨w9, hww9⟩ : ∃ W, w8.alloc (.cells #[.slice aX0_0 nX0_0 cX0_0] 26 (0, 0)) = W := ⟨_, rfl⟩
      rw [hww9] at hb hk szw9
      replace F0 := Lib.hid (shModel.below F0.out hb (by omega))
      replace F1 := Lib.hid (F1.out.below hb (by omega))
      replace AB0 := Lib.hid ((hb.block w.heap.size (by omega)).trans AB0.out)
      replace W := Lib.hid (shGrads.below W.out hb (by omega))
      replace BW := Lib.hid ((hb.block w6.heap.size (by omega)).trans BW.out)
      replace X0 := Lib.hid (ownModel.owns_keep X0.out (.of_below hb fun b o f => by have := f.2; omega))
      replace T := Lib.hid (T.out.trans (hb.mono (by omega)))
      have BX0 := Lib.hid hk
      clear hb hk
      have HC := Lib.hid (toPairS_o _ _ a1 n1 c1 x1 F1.out (by omega) (by rw [U1.out]; omega))
      go_wp2_with fail
      clear hww9
      refine HC.out.mono ?_
      rintro e w10 ⟨rfl, hr, hb⟩
      clear HC
      have szw10 := hb.size
      replace F0 := Lib.hid (shModel.below F0.out hb (by omega))
      replace F1 := Lib.hid (F1.out.below hb (by omega))
      replace AB0 := Lib.hid ((hb.block w.heap.size (by omega)).trans AB0.out)
      replace W := Lib.hid (shGrads.below W.out hb (by omega))
      replace BW := Lib.hid ((hb.block w6.heap.size (by omega)).trans BW.out)
      replace X0 := Lib.hid (ownModel.owns_keep X0.out (.of_below hb fun b o f => by have := f.2; omega))
      replace BX0 := Lib.hid ((hb.block w8.heap.size (by omega)).trans BX0.out)
      replace T := Lib.hid (T.out.trans (hb.mono (by omega)))
      clear hb
      have X1 := Lib.hid hr
      clear hr
      have hc := implSequential_o _ _ x0 (ownModel.owns_reads X0.out fun b o f => by have := f.2; exact Nat.lt_of_lt_of_le this (by omega)) (by rw [U0.out]; omega) _ n1 n1 x1 (X1.out.listAt (fun b o f => by have := f.2; exact Nat.lt_of_lt_of_le this (by omega)) (by decide)) (Nat.le_refl _) (by omega) (by rw [U1.out]; omega) (HG.out.below hlt T.out)
      rw [HV.out] at hc
      have HC := Lib.hid hc
      clear hc
      have zx0_0 := cell_of_row _ w8.heap.size 0 _ _ _ BX0.out
      simp only [List.getElem?_toArray, List.getElem?_cons_zero, List.getElem?_cons_succ] at zx0_0
      go_wp2_with fail
      clear zx0_0
      refine HC.out.mono ?_
      rintro e w11 ⟨eG, rfl, hr, hb⟩
      clear HC
      have szw11 := hb.size
      replace F0 := Lib.hid (shModel.below F0.out hb (by omega))
      replace F1 := Lib.hid (F1.out.below hb (by omega))
      replace AB0 := Lib.hid ((hb.block w.heap.size (by omega)).trans AB0.out)
      replace W := Lib.hid (shGrads.below W.out hb (by omega))
      replace BW := Lib.hid ((hb.block w6.heap.size (by omega)).trans BW.out)
      replace X0 := Lib.hid (ownModel.owns_keep X0.out (.of_below hb fun b o f => by have := f.2; omega))
      replace BX0 := Lib.hid ((hb.block w8.heap.size (by omega)).trans BX0.out)
      replace X1 := Lib.hid (X1.out.keep (.of_below hb fun b o f => by have := f.2; omega))
      replace T := Lib.hid (T.out.trans (hb.mono (by omega)))
      clear hb
      obtain ⟨aG_0, nG_0, cG_0, rfl, -⟩ := ownGrads_owns.1 hr
      have G := Lib.hid hr
      clear hr
      have hb := (Below.refl w11.heap.size w11).alloc (Nat.le_refl _) (.cells #[.slice aG_0 nG_0 cG_0, .int .i64 v.2.1, .bool v.2.2] 32 (0, 0))
      have hk := heap_alloc_new w11 (.cells #[.slice aG_0 nG_0 cG_0, .int .i64 v.2.1, .bool v.2.2] 32 (0, 0))
      have szw12 : w11.heap.size < (w11.alloc (.cells #[.slice aG_0 nG_0 cG_0, .int .i64 v.2.1, .bool v.2.2] 32 (0, 0))).heap.size := by simp
      obtain ⟨w12, hww12⟩ : ∃ W, w11.alloc (.cells #[.slice aG_0 nG_0 cG_0, .int .i64 v.2.1, .bool v.2.2] 32 (0, 0)) = W := ⟨_, rfl⟩
      rw [hww12] at hb hk szw12
      replace F0 := Lib.hid (shModel.below F0.out hb (by omega))
      replace F1 := Lib.hid (F1.out.below hb (by omega))
      replace AB0 := Lib.hid ((hb.block w.heap.size (by omega)).trans AB0.out)
      replace W := Lib.hid (shGrads.below W.out hb (by omega))
      replace BW := Lib.hid ((hb.block w6.heap.size (by omega)).trans BW.out)
      replace X0 := Lib.hid (ownModel.owns_keep X0.out (.of_below hb fun b o f => by have := f.2; omega))
      replace BX0 := Lib.hid ((hb.block w8.heap.size (by omega)).trans BX0.out)
      replace X1 := Lib.hid (X1.out.keep (.of_below hb fun b o f => by have := f.2; omega))
      replace G := Lib.hid (ownGrads.owns_keep G.out (.of_below hb fun b o f => by have := f.2; omega))
      replace T := Lib.hid (T.out.trans (hb.mono (by omega)))
      have BG := Lib.hid hk
      clear hb hk
      have HC := Lib.hid (eqGrads_c _ _ _ _ _ v (ownGrads.owns_reads (I := Under w11.heap.size) G.out fun b o f => f.2) W.out (by omega) (by omega) vb)
      have zg_0 := cell_of_row _ w11.heap.size 0 _ _ _ BG.out
      have zg_1 := cell_of_row _ w11.heap.size 1 _ _ _ BG.out
      have zg_2 := cell_of_row _ w11.heap.size 2 _ _ _ BG.out
      simp only [List.getElem?_toArray, List.getElem?_cons_zero, List.getElem?_cons_succ] at zg_0 zg_1 zg_2
      have zw_0 := cell_of_row _ w6.heap.size 0 _ _ _ BW.out
      have zw_1 := cell_of_row _ w6.heap.size 1 _ _ _ BW.out
      have zw_2 := cell_of_row _ w6.heap.size 2 _ _ _ BW.out
      simp only [List.getElem?_toArray, List.getElem?_cons_zero, List.getElem?_cons_succ] at zw_0 zw_1 zw_2
      go_wp2_with fail
      clear hww12
      clear zg_0 zg_1 zg_2
      clear zw_0 zw_1 zw_2
      refine HC.out.mono ?_
      rintro e w13 ⟨rfl, hb⟩
      clear HC
      have szw13 := hb.size
      replace F0 := Lib.hid (shModel.below F0.out hb (by omega))
      replace F1 := Lib.hid (F1.out.below hb (by omega))
      replace AB0 := Lib.hid ((hb.block w.heap.size (by omega)).trans AB0.out)
      replace W := Lib.hid (shGrads.below W.out hb (by omega))
      replace BW := Lib.hid ((hb.block w6.heap.size (by omega)).trans BW.out)
      replace X0 := Lib.hid (ownModel.owns_keep X0.out (.of_below hb fun b o f => by have := f.2; omega))
      replace BX0 := Lib.hid ((hb.block w8.heap.size (by omega)).trans BX0.out)
      replace X1 := Lib.hid (X1.out.keep (.of_below hb fun b o f => by have := f.2; omega))
      replace G := Lib.hid (ownGrads.owns_keep G.out (.of_below hb fun b o f => by have := f.2; omega))
      replace BG := Lib.hid ((hb.block w11.heap.size (by omega)).trans BG.out)
      replace T := Lib.hid (T.out.trans (hb.mono (by omega)))
      clear hb
      have zx_0 := cell_of_row _ w8.heap.size 0 _ _ _ BX0.out
      simp only [List.getElem?_toArray, List.getElem?_cons_zero, List.getElem?_cons_succ] at zx_0
      have za_0 := cell_of_row _ w.heap.size 0 _ _ _ AB0.out
      simp only [List.getElem?_toArray, List.getElem?_cons_zero, List.getElem?_cons_succ] at za_0
      go_upto_region 14 with fail
      go_cut [44] (fun t wx => t = .bool false ∧ Below w13.heap.size w13 wx)
      case first =>
        have hdr : Below w13.heap.size w13 w13.drew := (Below.refl _ _).drew
        have FD := Lib.hid (shModel.below F0.out hdr (by omega))
        have XD := Lib.hid (shModel.below (ownModel.owns_reads (I := Under w8.heap.size) X0.out fun b o f => f.2) hdr (by omega))
        have DR := Lib.hid hdr
        have szd : w13.heap.size ≤ w13.drew.heap.size := hdr.size
        have XBD : Hid (w13.drew.heap[w8.heap.size]? = _) := Lib.hid BX0.out
        clear hdr
        have HC1 := Lib.hid (toModel_c w13.drew _ _ x0 FD.out (by omega) (by rw [U0.out]; omega))
        have HC2 := Lib.hid fun (w1 : World) (es : List Value) (hb : Below w13.drew.heap.size w13.drew w1) (hr : shModel.reads (From w13.drew.heap.size w1.heap.size) w1 es x0) => eqModel_c w1 _ _ _ es x0 (shModel.below XD.out hb (by omega)) (shModel.under hr) (by have := hb.size; omega) (Nat.le_refl _) (by rw [U0.out]; omega)
        go_region_law (first
          | (go_simp; go_at_call 26; (with_reducible refine HC1.out.mono ?_); rintro e wt ⟨eg, rfl, hr, hb⟩; have hq := HC2.out wt eg hb hr; have zz_0 := cell_of_row _ w8.heap.size 0 _ _ _ ((hb.block w8.heap.size (by omega)).trans XBD.out); simp only [List.getElem?_toArray, List.getElem?_cons_zero, List.getElem?_cons_succ] at zz_0; obtain ⟨ag_0, ng_0, cg_0, rfl, -⟩ := shModel_reads.1 hr; have HQ := Lib.hid hq; have HBT := Lib.hid hb; have szt := hb.size; clear hb hr hq)
          | (go_simp; go_at_call 29; (with_reducible refine HQ.out.mono ?_); rintro e wq ⟨rfl, hb⟩; have BQ := Lib.hid (DR.out.trans ((HBT.out.mono szd).trans (hb.mono (by omega)))); clear hb))
        all_goals
          go_wp2_with fail
          go_meet
          case rel => exact ⟨rfl, BQ.out⟩
      case rest =>
        obtain ⟨rfl, hb⟩ := hcut
        clear zx_0
        clear za_0
        obtain ⟨w14, rfl⟩ : ∃ x, x = wc := ⟨_, rfl⟩
        have szw14 := hb.size
        replace F0 := Lib.hid (shModel.below F0.out hb (by omega))
        replace F1 := Lib.hid (F1.out.below hb (by omega))
        replace AB0 := Lib.hid ((hb.block w.heap.size (by omega)).trans AB0.out)
        replace W := Lib.hid (shGrads.below W.out hb (by omega))
        replace BW := Lib.hid ((hb.block w6.heap.size (by omega)).trans BW.out)
        replace X0 := Lib.hid (ownModel.owns_keep X0.out (.of_below hb fun b o f => by have := f.2; omega))
        replace BX0 := Lib.hid ((hb.block w8.heap.size (by omega)).trans BX0.out)
        replace X1 := Lib.hid (X1.out.keep (.of_below hb fun b o f => by have := f.2; omega))
        replace G := Lib.hid (ownGrads.owns_keep G.out (.of_below hb fun b o f => by have := f.2; omega))
        replace BG := Lib.hid ((hb.block w11.heap.size (by omega)).trans BG.out)
        replace T := Lib.hid (T.out.trans (hb.mono (by omega)))
        clear hb
        have HC := Lib.hid (toPairS_c _ _ a1 n1 c1 x1 F1.out (by omega) (by rw [U1.out]; omega))
        go_wp2_with fail
        refine HC.out.mono ?_
        rintro e w15 ⟨rfl, hr, hb⟩
        clear HC
        have szw15 := hb.size
        replace F0 := Lib.hid (shModel.below F0.out hb (by omega))
        replace F1 := Lib.hid (F1.out.below hb (by omega))
        replace AB0 := Lib.hid ((hb.block w.heap.size (by omega)).trans AB0.out)
        replace W := Lib.hid (shGrads.below W.out hb (by omega))
        replace BW := Lib.hid ((hb.block w6.heap.size (by omega)).trans BW.out)
        replace X0 := Lib.hid (ownModel.owns_keep X0.out (.of_below hb fun b o f => by have := f.2; omega))
        replace BX0 := Lib.hid ((hb.block w8.heap.size (by omega)).trans BX0.out)
        replace X1 := Lib.hid (X1.out.keep (.of_below hb fun b o f => by have := f.2; omega))
        replace G := Lib.hid (ownGrads.owns_keep G.out (.of_below hb fun b o f => by have := f.2; omega))
        replace BG := Lib.hid ((hb.block w11.heap.size (by omega)).trans BG.out)
        replace T := Lib.hid (T.out.trans (hb.mono (by omega)))
        clear hb
        have Z1 := Lib.hid hr.under
        clear hr
        have HC := Lib.hid (eqPairS_c _ _ _ _ _ n1 n1 n1 x1 (X1.out.listAt (I := Under w10.heap.size) (fun b o f => f.2) (by decide)) Z1.out (by omega) (by omega) (by rw [U1.out]; omega))
        go_wp2_with fail
        refine HC.out.mono ?_
        rintro e w16 ⟨rfl, hb⟩
        clear HC Z1
        have szw16 := hb.size
        replace F0 := Lib.hid (shModel.below F0.out hb (by omega))
        replace F1 := Lib.hid (F1.out.below hb (by omega))
        replace AB0 := Lib.hid ((hb.block w.heap.size (by omega)).trans AB0.out)
        replace W := Lib.hid (shGrads.below W.out hb (by omega))
        replace BW := Lib.hid ((hb.block w6.heap.size (by omega)).trans BW.out)
        replace X0 := Lib.hid (ownModel.owns_keep X0.out (.of_below hb fun b o f => by have := f.2; omega))
        replace BX0 := Lib.hid ((hb.block w8.heap.size (by omega)).trans BX0.out)
        replace X1 := Lib.hid (X1.out.keep (.of_below hb fun b o f => by have := f.2; omega))
        replace G := Lib.hid (ownGrads.owns_keep G.out (.of_below hb fun b o f => by have := f.2; omega))
        replace BG := Lib.hid ((hb.block w11.heap.size (by omega)).trans BG.out)
        replace T := Lib.hid (T.out.trans (hb.mono (by omega)))
        clear hb
        have hc := markModel_o _ _ _ x0 (1) X0.out (fun b o f => Nat.lt_of_lt_of_le f.2 (by omega)) (by rw [U0.out]; omega) (by omega) (by rw [K0.out]; omega)
        have zx_0 := cell_of_row _ w8.heap.size 0 _ _ _ BX0.out
        simp only [List.getElem?_toArray, List.getElem?_cons_zero, List.getElem?_cons_succ] at zx_0
        rw [K0.out] at hc
        have HC := Lib.hid hc
        clear hc
        go_wp2_with fail
        clear zx_0
        refine HC.out.mono ?_
        rintro e w18 ⟨rfl, ho, w17, hb, ht⟩
        clear HC
        have szw17 := hb.size
        replace F0 := Lib.hid (shModel.below F0.out hb (by omega))
        replace F1 := Lib.hid (F1.out.below hb (by omega))
        replace AB0 := Lib.hid ((hb.block w.heap.size (by omega)).trans AB0.out)
        replace W := Lib.hid (shGrads.below W.out hb (by omega))
        replace BW := Lib.hid ((hb.block w6.heap.size (by omega)).trans BW.out)
        replace BX0 := Lib.hid ((hb.block w8.heap.size (by omega)).trans BX0.out)
        replace X1 := Lib.hid (X1.out.keep (.of_below hb fun b o f => by have := f.2; omega))
        replace G := Lib.hid (ownGrads.owns_keep G.out (.of_below hb fun b o f => by have := f.2; omega))
        replace BG := Lib.hid ((hb.block w11.heap.size (by omega)).trans BG.out)
        replace T := Lib.hid (T.out.trans (hb.mono (by omega)))
        clear hb
        have hq := ht.below (B := w7.heap.size) fun b o f => f.1
        replace F0 := Lib.hid (shModel.below F0.out hq (by omega))
        replace F1 := Lib.hid (F1.out.below hq (by omega))
        replace AB0 := Lib.hid ((ht.block w.heap.size fun o f => by have h1 := f.1; have h2 := f.2; omega).trans AB0.out)
        replace W := Lib.hid (shGrads.below W.out hq (by omega))
        replace BW := Lib.hid ((ht.block w6.heap.size fun o f => by have h1 := f.1; have h2 := f.2; omega).trans BW.out)
        replace BX0 := Lib.hid ((ht.block w8.heap.size fun o f => by have h1 := f.1; have h2 := f.2; omega).trans BX0.out)
        replace X1 := Lib.hid (X1.out.keep (ht.same fun b o f f' => by have h1 := f.1; have h2 := f.2; have h3 := f'.1; have h4 := f'.2; omega))
        replace G := Lib.hid (ownGrads.owns_keep G.out (ht.same fun b o f f' => by have h1 := f.1; have h2 := f.2; have h3 := f'.1; have h4 := f'.2; omega))
        replace BG := Lib.hid ((ht.block w11.heap.size fun o f => by have h1 := f.1; have h2 := f.2; omega).trans BG.out)
        replace T := Lib.hid (T.out.trans (hq.mono (by omega)))
        have szt := ht.size
        clear hq
        have szw18 : w17.heap.size ≤ w18.heap.size := Nat.le_of_eq szt.symm
        clear ht szt ho X0
        have hc := markPairS_o _ _ (some ⟨w9.heap.size, 0, none⟩) n1 n1 x1 (1 + (k0 : Nat)) X1.out (by rw [U1.out]; omega) (by omega) (by rw [K1.out]; omega)
        rw [K1.out] at hc
        have HC := Lib.hid hc
        clear hc
        go_wp2_with fail
        refine HC.out.mono ?_
        rintro e w19 ⟨rfl, ho, ht⟩
        clear HC
        have hq := ht.below (B := w9.heap.size) fun b o f => f.1
        replace F0 := Lib.hid (shModel.below F0.out hq (by omega))
        replace F1 := Lib.hid (F1.out.below hq (by omega))
        replace AB0 := Lib.hid ((ht.block w.heap.size fun o f => by have h1 := f.1; have h2 := f.2; omega).trans AB0.out)
        replace W := Lib.hid (shGrads.below W.out hq (by omega))
        replace BW := Lib.hid ((ht.block w6.heap.size fun o f => by have h1 := f.1; have h2 := f.2; omega).trans BW.out)
        replace BX0 := Lib.hid ((ht.block w8.heap.size fun o f => by have h1 := f.1; have h2 := f.2; omega).trans BX0.out)
        replace G := Lib.hid (ownGrads.owns_keep G.out (ht.same fun b o f f' => by have h1 := f.1; have h2 := f.2; have h3 := f'.1; have h4 := f'.2; omega))
        replace BG := Lib.hid ((ht.block w11.heap.size fun o f => by have h1 := f.1; have h2 := f.2; omega).trans BG.out)
        replace T := Lib.hid (T.out.trans (hq.mono (by omega)))
        have szt := ht.size
        clear hq
        have szw19 : w18.heap.size ≤ w19.heap.size := Nat.le_of_eq szt.symm
        clear ht szt ho X1
        have tk : decide ((1 : Int) + (k0 : Int) + (k1 : Int) < 0) = false := decide_eq_false (by omega)
        have HC := Lib.hid (eqGrads_c _ _ _ _ _ v (ownGrads.owns_reads (I := Under w11.heap.size) G.out fun b o f => f.2) W.out (by omega) (by omega) vb)
        have zg_0 := cell_of_row _ w11.heap.size 0 _ _ _ BG.out
        have zg_1 := cell_of_row _ w11.heap.size 1 _ _ _ BG.out
        have zg_2 := cell_of_row _ w11.heap.size 2 _ _ _ BG.out
        simp only [List.getElem?_toArray, List.getElem?_cons_zero, List.getElem?_cons_succ] at zg_0 zg_1 zg_2
        have zw_0 := cell_of_row _ w6.heap.size 0 _ _ _ BW.out
        have zw_1 := cell_of_row _ w6.heap.size 1 _ _ _ BW.out
        have zw_2 := cell_of_row _ w6.heap.size 2 _ _ _ BW.out
        simp only [List.getElem?_toArray, List.getElem?_cons_zero, List.getElem?_cons_succ] at zw_0 zw_1 zw_2
        go_wp2_with fail
        clear zg_0 zg_1 zg_2
        clear zw_0 zw_1 zw_2
        refine HC.out.mono ?_
        rintro e w20 ⟨rfl, hb⟩
        clear HC
        have szw20 := hb.size
        replace F0 := Lib.hid (shModel.below F0.out hb (by omega))
        replace F1 := Lib.hid (F1.out.below hb (by omega))
        replace AB0 := Lib.hid ((hb.block w.heap.size (by omega)).trans AB0.out)
        replace W := Lib.hid (shGrads.below W.out hb (by omega))
        replace BW := Lib.hid ((hb.block w6.heap.size (by omega)).trans BW.out)
        replace BX0 := Lib.hid ((hb.block w8.heap.size (by omega)).trans BX0.out)
        replace G := Lib.hid (ownGrads.owns_keep G.out (.of_below hb fun b o f => by have := f.2; omega))
        replace BG := Lib.hid ((hb.block w11.heap.size (by omega)).trans BG.out)
        replace T := Lib.hid (T.out.trans (hb.mono (by omega)))
        clear hb
        have hc := markGrads_o _ _ _ v 1 G.out (fun b o f => Nat.lt_of_lt_of_le f.2 (by omega)) vb (by omega) (by rw [KV.out]; omega)
        rw [KV.out] at hc
        have HC := Lib.hid hc
        clear hc
        have zg_0 := cell_of_row _ w11.heap.size 0 _ _ _ BG.out
        have zg_1 := cell_of_row _ w11.heap.size 1 _ _ _ BG.out
        have zg_2 := cell_of_row _ w11.heap.size 2 _ _ _ BG.out
        simp only [List.getElem?_toArray, List.getElem?_cons_zero, List.getElem?_cons_succ] at zg_0 zg_1 zg_2
        go_wp2_with fail
        clear zg_0 zg_1 zg_2
        refine HC.out.mono ?_
        rintro e w22 ⟨rfl, ho, w21, hb, ht⟩
        clear HC
        have szw21 := hb.size
        replace F0 := Lib.hid (shModel.below F0.out hb (by omega))
        replace F1 := Lib.hid (F1.out.below hb (by omega))
        replace AB0 := Lib.hid ((hb.block w.heap.size (by omega)).trans AB0.out)
        replace W := Lib.hid (shGrads.below W.out hb (by omega))
        replace BW := Lib.hid ((hb.block w6.heap.size (by omega)).trans BW.out)
        replace BX0 := Lib.hid ((hb.block w8.heap.size (by omega)).trans BX0.out)
        replace BG := Lib.hid ((hb.block w11.heap.size (by omega)).trans BG.out)
        replace T := Lib.hid (T.out.trans (hb.mono (by omega)))
        clear hb
        have hq := ht.below (B := w10.heap.size) fun b o f => f.1
        replace F0 := Lib.hid (shModel.below F0.out hq (by omega))
        replace F1 := Lib.hid (F1.out.below hq (by omega))
        replace AB0 := Lib.hid ((ht.block w.heap.size fun o f => by have h1 := f.1; have h2 := f.2; omega).trans AB0.out)
        replace W := Lib.hid (shGrads.below W.out hq (by omega))
        replace BW := Lib.hid ((ht.block w6.heap.size fun o f => by have h1 := f.1; have h2 := f.2; omega).trans BW.out)
        replace BX0 := Lib.hid ((ht.block w8.heap.size fun o f => by have h1 := f.1; have h2 := f.2; omega).trans BX0.out)
        replace BG := Lib.hid ((ht.block w11.heap.size fun o f => by have h1 := f.1; have h2 := f.2; omega).trans BG.out)
        replace T := Lib.hid (T.out.trans (hq.mono (by omega)))
        have szt := ht.size
        clear hq
        have szw22 : w21.heap.size ≤ w22.heap.size := Nat.le_of_eq szt.symm
        replace G := Lib.hid ho
        clear ht szt ho
        have tv : decide ((1 : Int) + (kv : Int) < 0) = false := decide_eq_false (by omega)
        have tn : ((1 : Int) + (kv : Int) != 1 + (kv : Int)) = false := by simp
        have hc := heldGrads_o _ w11.heap.size _ v 1 (ownGrads.owns_reads (I := Under w11.heap.size) G.out fun b o f => f.2) (by omega) vb (by omega) (by rw [KV.out]; omega)
        rw [KV.out] at hc
        have HC := Lib.hid hc
        clear hc
        have zg_0 := cell_of_row _ w11.heap.size 0 _ _ _ BG.out
        have zg_1 := cell_of_row _ w11.heap.size 1 _ _ _ BG.out
        have zg_2 := cell_of_row _ w11.heap.size 2 _ _ _ BG.out
        simp only [List.getElem?_toArray, List.getElem?_cons_zero, List.getElem?_cons_succ] at zg_0 zg_1 zg_2
        go_wp2_with fail
        clear zg_0 zg_1 zg_2
        refine HC.out.mono ?_
        rintro e w23 ⟨rfl, hb⟩
        clear HC
        have szw23 := hb.size
        replace F0 := Lib.hid (shModel.below F0.out hb (by omega))
        replace F1 := Lib.hid (F1.out.below hb (by omega))
        replace AB0 := Lib.hid ((hb.block w.heap.size (by omega)).trans AB0.out)
        replace W := Lib.hid (shGrads.below W.out hb (by omega))
        replace BW := Lib.hid ((hb.block w6.heap.size (by omega)).trans BW.out)
        replace BX0 := Lib.hid ((hb.block w8.heap.size (by omega)).trans BX0.out)
        replace BG := Lib.hid ((hb.block w11.heap.size (by omega)).trans BG.out)
        replace G := Lib.hid (ownGrads.owns_keep G.out (.of_below hb fun b o f => by have := f.2; omega))
        replace T := Lib.hid (T.out.trans (hb.mono (by omega)))
        clear hb
        have HC := Lib.hid (toModel_c _ _ _ x0 F0.out (by omega) (by rw [U0.out]; omega))
        have za_0 := cell_of_row _ w.heap.size 0 _ _ _ AB0.out
        simp only [List.getElem?_toArray, List.getElem?_cons_zero, List.getElem?_cons_succ] at za_0
        go_wp2_with fail
        clear za_0
        refine HC.out.mono ?_
        rintro e w24 ⟨eH0, rfl, hr, hb⟩
        clear HC
        have szw24 := hb.size
        replace F0 := Lib.hid (shModel.below F0.out hb (by omega))
        replace F1 := Lib.hid (F1.out.below hb (by omega))
        replace AB0 := Lib.hid ((hb.block w.heap.size (by omega)).trans AB0.out)
        replace W := Lib.hid (shGrads.below W.out hb (by omega))
        replace BW := Lib.hid ((hb.block w6.heap.size (by omega)).trans BW.out)
        replace BX0 := Lib.hid ((hb.block w8.heap.size (by omega)).trans BX0.out)
        replace BG := Lib.hid ((hb.block w11.heap.size (by omega)).trans BG.out)
        replace G := Lib.hid (ownGrads.owns_keep G.out (.of_below hb fun b o f => by have := f.2; omega))
        replace T := Lib.hid (T.out.trans (hb.mono (by omega)))
        clear hb
        have hH0 := shModel.under hr
        obtain ⟨aH0_0, nH0_0, cH0_0, rfl, -⟩ := shModel_reads.1 hH0
        have H0 := Lib.hid hH0
        clear hr hH0
        have HC := Lib.hid (toPairS_c _ _ a1 n1 c1 x1 F1.out (by omega) (by rw [U1.out]; omega))
        go_wp2_with fail
        refine HC.out.mono ?_
        rintro e w25 ⟨rfl, hr, hb⟩
        clear HC
        have szw25 := hb.size
        replace F0 := Lib.hid (shModel.below F0.out hb (by omega))
        replace F1 := Lib.hid (F1.out.below hb (by omega))
        replace AB0 := Lib.hid ((hb.block w.heap.size (by omega)).trans AB0.out)
        replace W := Lib.hid (shGrads.below W.out hb (by omega))
        replace BW := Lib.hid ((hb.block w6.heap.size (by omega)).trans BW.out)
        replace BX0 := Lib.hid ((hb.block w8.heap.size (by omega)).trans BX0.out)
        replace BG := Lib.hid ((hb.block w11.heap.size (by omega)).trans BG.out)
        replace G := Lib.hid (ownGrads.owns_keep G.out (.of_below hb fun b o f => by have := f.2; omega))
        replace H0 := Lib.hid (shModel.below H0.out hb (by omega))
        replace T := Lib.hid (T.out.trans (hb.mono (by omega)))
        clear hb
        have H1 := Lib.hid hr.under
        clear hr
        have hc := implSequential_o _ _ x0 (shModel.le H0.out (by omega)) (by rw [U0.out]; omega) _ n1 n1 x1 (H1.out.le (by omega)) (Nat.le_refl _) (by omega) (by rw [U1.out]; omega) (HG.out.below hlt T.out)
        rw [HV.out] at hc
        have HC := Lib.hid hc
        clear hc
        go_wp2_with fail
        refine HC.out.mono ?_
        rintro e w26 ⟨eJ, rfl, hr, hb⟩
        clear HC
        have szw26 := hb.size
        replace F0 := Lib.hid (shModel.below F0.out hb (by omega))
        replace F1 := Lib.hid (F1.out.below hb (by omega))
        replace AB0 := Lib.hid ((hb.block w.heap.size (by omega)).trans AB0.out)
        replace W := Lib.hid (shGrads.below W.out hb (by omega))
        replace BW := Lib.hid ((hb.block w6.heap.size (by omega)).trans BW.out)
        replace BX0 := Lib.hid ((hb.block w8.heap.size (by omega)).trans BX0.out)
        replace BG := Lib.hid ((hb.block w11.heap.size (by omega)).trans BG.out)
        replace G := Lib.hid (ownGrads.owns_keep G.out (.of_below hb fun b o f => by have := f.2; omega))
        replace T := Lib.hid (T.out.trans (hb.mono (by omega)))
        clear hb
        obtain ⟨aJ_0, nJ_0, cJ_0, rfl, -⟩ := ownGrads_owns.1 hr
        have J := Lib.hid hr
        clear hr
        clear H0 H1
        have hb := (Below.refl w26.heap.size w26).alloc (Nat.le_refl _) (.cells #[.slice aJ_0 nJ_0 cJ_0, .int .i64 v.2.1, .bool v.2.2] 32 (0, 0))
        have hk := heap_alloc_new w26 (.cells #[.slice aJ_0 nJ_0 cJ_0, .int .i64 v.2.1, .bool v.2.2] 32 (0, 0))
        have szw27 : w26.heap.size < (w26.alloc (.cells #[.slice aJ_0 nJ_0 cJ_0, .int .i64 v.2.1, .bool v.2.2] 32 (0, 0))).heap.size := by simp
        obtain ⟨w27, hww27⟩ : ∃ W, w26.alloc (.cells #[.slice aJ_0 nJ_0 cJ_0, .int .i64 v.2.1, .bool v.2.2] 32 (0, 0)) = W := ⟨_, rfl⟩
        rw [hww27] at hb hk szw27
        replace F0 := Lib.hid (shModel.below F0.out hb (by omega))
        replace F1 := Lib.hid (F1.out.below hb (by omega))
        replace AB0 := Lib.hid ((hb.block w.heap.size (by omega)).trans AB0.out)
        replace W := Lib.hid (shGrads.below W.out hb (by omega))
        replace BW := Lib.hid ((hb.block w6.heap.size (by omega)).trans BW.out)
        replace BX0 := Lib.hid ((hb.block w8.heap.size (by omega)).trans BX0.out)
        replace BG := Lib.hid ((hb.block w11.heap.size (by omega)).trans BG.out)
        replace G := Lib.hid (ownGrads.owns_keep G.out (.of_below hb fun b o f => by have := f.2; omega))
        replace J := Lib.hid (ownGrads.owns_keep J.out (.of_below hb fun b o f => by have := f.2; omega))
        replace T := Lib.hid (T.out.trans (hb.mono (by omega)))
        have BJ := Lib.hid hk
        clear hb hk
        have HC := Lib.hid (eqGrads_c _ _ _ _ _ v (ownGrads.owns_reads (I := Under w26.heap.size) J.out fun b o f => f.2) W.out (by omega) (by omega) vb)
        have zg_0 := cell_of_row _ w26.heap.size 0 _ _ _ BJ.out
        have zg_1 := cell_of_row _ w26.heap.size 1 _ _ _ BJ.out
        have zg_2 := cell_of_row _ w26.heap.size 2 _ _ _ BJ.out
        simp only [List.getElem?_toArray, List.getElem?_cons_zero, List.getElem?_cons_succ] at zg_0 zg_1 zg_2
        have zw_0 := cell_of_row _ w6.heap.size 0 _ _ _ BW.out
        have zw_1 := cell_of_row _ w6.heap.size 1 _ _ _ BW.out
        have zw_2 := cell_of_row _ w6.heap.size 2 _ _ _ BW.out
        simp only [List.getElem?_toArray, List.getElem?_cons_zero, List.getElem?_cons_succ] at zw_0 zw_1 zw_2
        go_wp2_with fail
        clear hww27
        clear zg_0 zg_1 zg_2
        clear zw_0 zw_1 zw_2
        refine HC.out.mono ?_
        rintro e w28 ⟨rfl, hb⟩
        clear HC
        have szw28 := hb.size
        replace F0 := Lib.hid (shModel.below F0.out hb (by omega))
        replace F1 := Lib.hid (F1.out.below hb (by omega))
        replace AB0 := Lib.hid ((hb.block w.heap.size (by omega)).trans AB0.out)
        replace W := Lib.hid (shGrads.below W.out hb (by omega))
        replace BW := Lib.hid ((hb.block w6.heap.size (by omega)).trans BW.out)
        replace BX0 := Lib.hid ((hb.block w8.heap.size (by omega)).trans BX0.out)
        replace BG := Lib.hid ((hb.block w11.heap.size (by omega)).trans BG.out)
        replace G := Lib.hid (ownGrads.owns_keep G.out (.of_below hb fun b o f => by have := f.2; omega))
        replace J := Lib.hid (ownGrads.owns_keep J.out (.of_below hb fun b o f => by have := f.2; omega))
        replace BJ := Lib.hid ((hb.block w26.heap.size (by omega)).trans BJ.out)
        replace T := Lib.hid (T.out.trans (hb.mono (by omega)))
        clear hb
        have hc := heldGrads_o _ w11.heap.size _ v 1 (ownGrads.owns_reads (I := Under w11.heap.size) G.out fun b o f => f.2) (by omega) vb (by omega) (by rw [KV.out]; omega)
        rw [KV.out] at hc
        have HC := Lib.hid hc
        clear hc
        have zg_0 := cell_of_row _ w11.heap.size 0 _ _ _ BG.out
        have zg_1 := cell_of_row _ w11.heap.size 1 _ _ _ BG.out
        have zg_2 := cell_of_row _ w11.heap.size 2 _ _ _ BG.out
        simp only [List.getElem?_toArray, List.getElem?_cons_zero, List.getElem?_cons_succ] at zg_0 zg_1 zg_2
        go_wp2_with fail
        clear zg_0 zg_1 zg_2
        refine HC.out.mono ?_
        rintro e w29 ⟨rfl, hb⟩
        clear HC
        have szw29 := hb.size
        replace F0 := Lib.hid (shModel.below F0.out hb (by omega))
        replace F1 := Lib.hid (F1.out.below hb (by omega))
        replace AB0 := Lib.hid ((hb.block w.heap.size (by omega)).trans AB0.out)
        replace W := Lib.hid (shGrads.below W.out hb (by omega))
        replace BW := Lib.hid ((hb.block w6.heap.size (by omega)).trans BW.out)
        replace BX0 := Lib.hid ((hb.block w8.heap.size (by omega)).trans BX0.out)
        replace BG := Lib.hid ((hb.block w11.heap.size (by omega)).trans BG.out)
        replace G := Lib.hid (ownGrads.owns_keep G.out (.of_below hb fun b o f => by have := f.2; omega))
        replace J := Lib.hid (ownGrads.owns_keep J.out (.of_below hb fun b o f => by have := f.2; omega))
        replace BJ := Lib.hid ((hb.block w26.heap.size (by omega)).trans BJ.out)
        replace T := Lib.hid (T.out.trans (hb.mono (by omega)))
        clear hb
        go_wp2_with fail
        go_ret
        exact ⟨rfl, T.out⟩
    · have hk0 : (w.alloc (.cells #[.slice a0_0 n0_0 c0_0] 52 (0, 0))).heap[w.heap.size]? = some (.cells #[.slice a0_0 n0_0 c0_0] 52 (0, 0)) := by
        have := heap_alloc_new w (.cells #[.slice a0_0 n0_0 c0_0] 52 (0, 0))
        simpa using this
      have hb := (Below.refl w.heap.size w).alloc (Nat.le_refl _) (.cells #[.slice a0_0 n0_0 c0_0] 52 (0, 0))
      have szw1 : w.heap.size + 1 = (w.alloc (.cells #[.slice a0_0 n0_0 c0_0] 52 (0, 0))).heap.size := by simp
      go_enter Tryz.func6, Tryz.ntmps6
      go_wp2_with fail
      generalize (w.alloc (.cells #[.slice a0_0 n0_0 c0_0] 52 (0, 0))) = w1 at hb szw1 hk0 ⊢
      replace F0 := Lib.hid (shModel.below F0.out hb (by omega))
      replace F1 := Lib.hid (F1.out.below hb (by omega))
      replace T := Lib.hid (T.out.trans (hb.mono (by omega)))
      have AB0 := Lib.hid hk0
      clear hb hk0
      have hc := szModel_c _ _ _ x0 (1048576) F0.out (by omega) (by omega) (by omega)
      rw [U0.out, szN_yes (by omega)] at hc
      obtain ⟨l0, hl0⟩ : ∃ l, 1048576 - (u0 : Int) = l := ⟨_, rfl⟩
      rw [hl0] at hc
      have t0 : decide (l0 < 0) = false := decide_eq_false (by omega)
      have HC := Lib.hid hc
      clear hc
      refine HC.out.mono ?_
      rintro e w2 ⟨rfl, hb⟩
      clear HC
      have szw2 := hb.size
      replace F0 := Lib.hid (shModel.below F0.out hb (by omega))
      replace F1 := Lib.hid (F1.out.below hb (by omega))
      replace AB0 := Lib.hid ((hb.block w.heap.size (by omega)).trans AB0.out)
      replace T := Lib.hid (T.out.trans (hb.mono (by omega)))
      clear hb
      have hc := szPairS_c _ _ a1 n1 c1 x1 (l0) F1.out (by omega) m1 (by omega) (by omega)
      rw [U1.out, szN_no (by omega)] at hc
      have HC := Lib.hid hc
      clear hc
      go_wp2_with fail
      refine HC.out.mono ?_
      rintro e w3 ⟨rfl, hb⟩
      clear HC
      have szw3 := hb.size
      replace F0 := Lib.hid (shModel.below F0.out hb (by omega))
      replace F1 := Lib.hid (F1.out.below hb (by omega))
      replace AB0 := Lib.hid ((hb.block w.heap.size (by omega)).trans AB0.out)
      replace T := Lib.hid (T.out.trans (hb.mono (by omega)))
      clear hb
      go_wp2_with fail
      go_ret
      exact ⟨rfl, T.out⟩
  · have hk0 : (w.alloc (.cells #[.slice a0_0 n0_0 c0_0] 52 (0, 0))).heap[w.heap.size]? = some (.cells #[.slice a0_0 n0_0 c0_0] 52 (0, 0)) := by
      have := heap_alloc_new w (.cells #[.slice a0_0 n0_0 c0_0] 52 (0, 0))
      simpa using this
    have hb := (Below.refl w.heap.size w).alloc (Nat.le_refl _) (.cells #[.slice a0_0 n0_0 c0_0] 52 (0, 0))
    have szw1 : w.heap.size + 1 = (w.alloc (.cells #[.slice a0_0 n0_0 c0_0] 52 (0, 0))).heap.size := by simp
    go_enter Tryz.func6, Tryz.ntmps6
    go_wp2_with fail
    generalize (w.alloc (.cells #[.slice a0_0 n0_0 c0_0] 52 (0, 0))) = w1 at hb szw1 hk0 ⊢
    replace F0 := Lib.hid (shModel.below F0.out hb (by omega))
    replace F1 := Lib.hid (F1.out.below hb (by omega))
    replace T := Lib.hid (T.out.trans (hb.mono (by omega)))
    have AB0 := Lib.hid hk0
    clear hb hk0
    have hc := szModel_c _ _ _ x0 (1048576) F0.out (by omega) (by omega) (by omega)
    rw [U0.out, szN_no (by omega)] at hc
    have HC := Lib.hid hc
    clear hc
    refine HC.out.mono ?_
    rintro e w2 ⟨rfl, hb⟩
    clear HC
    have szw2 := hb.size
    replace F0 := Lib.hid (shModel.below F0.out hb (by omega))
    replace F1 := Lib.hid (F1.out.below hb (by omega))
    replace AB0 := Lib.hid ((hb.block w.heap.size (by omega)).trans AB0.out)
    replace T := Lib.hid (T.out.trans (hb.mono (by omega)))
    clear hb
    go_wp2_with fail
    go_ret
    exact ⟨rfl, T.out⟩
end Go.Proofs.YtgnjcfbfbpjndaaGreatDoor
