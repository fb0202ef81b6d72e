/-
  Exact laws that answer several values: the walks.
-/
import Derived.Test.YtdoofapjhgahgaaQueR
import Derived.Test.YtdoofapjhgahgaaQueN
import Derived.Test.YtdoofapjhgahgaaFewQ
import Derived.Test.YtdoofapjhgahgaaQueW
import Derived.Test.YtdoofapjhgahgaaOpen
import Derived.Deep.DeepCutAuto
import Derived.Deep.RegionLaw
namespace Go.Proofs.Ytdoofapjhgahgaa
open Go.RowKit
set_option linter.unusedVariables false
set_option linter.unusedSimpArgs false

set_option maxRecDepth 100000 in
set_option maxHeartbeats 12800000 in
theorem lawPop_any (w : World) (es0 : List Value) (x0 : dQueue) (h0 : shQueue.reads (Under w.heap.size) w es0 x0) :
    Calls Try.prog 6 #[(.agg es0.toArray)] w fun e w' => e = .returned (.bool true) ∧ Below w.heap.size w w' := by
  obtain ⟨a0_0, n0_0, c0_0, rfl, -⟩ := shQueue_reads.1 h0
  obtain ⟨u0, hu0⟩ : ∃ u, shQueue.bulk x0 = u := ⟨_, rfl⟩
  obtain ⟨k0, hk0⟩ : ∃ k, ownQueue.ctT x0 = k := ⟨_, rfl⟩
  have K0 := Lib.hid hk0
  have fw0 : k0 ≤ 16 * u0 := by rw [← hk0, ← hu0]; exact ownQueue_few x0
  have U0 := Lib.hid hu0
  have F0 := Lib.hid h0
  have T := Lib.hid (Below.refl w.heap.size w)
  clear hu0 hk0 h0
  by_cases f0 : ((u0 : Nat) : Int) ≤ 1048576
  · have hk0 : (w.alloc (.cells #[.int .i64 x0.1, .slice a0_0 n0_0 c0_0] 42 (0, 0))).heap[w.heap.size]? = some (.cells #[.int .i64 x0.1, .slice a0_0 n0_0 c0_0] 42 (0, 0)) := by
      have := heap_alloc_new w (.cells #[.int .i64 x0.1, .slice a0_0 n0_0 c0_0] 42 (0, 0))
      simpa using this
    have hb := (Below.refl w.heap.size w).alloc (Nat.le_refl _) (.cells #[.int .i64 x0.1, .slice a0_0 n0_0 c0_0] 42 (0, 0))
    have szw1 : w.heap.size + 1 = (w.alloc (.cells #[.int .i64 x0.1, .slice a0_0 n0_0 c0_0] 42 (0, 0))).heap.size := by simp
    go_enter Try.func6, Try.ntmps6
    go_wp2_with fail
    generalize (w.alloc (.cells #[.int .i64 x0.1, .slice a0_0 n0_0 c0_0] 42 (0, 0))) = w1 at hb szw1 hk0 ⊢
    replace F0 := Lib.hid (shQueue.below F0.out hb (by omega))
    replace T := Lib.hid (T.out.trans (hb.mono (by omega)))
    have AB0 := Lib.hid hk0
    clear hb hk0
    have hc := szQueue_c _ _ _ x0 (1048576) F0.out (by omega) (by omega) (by omega)
    rw [U0.out, szN_yes (by omega)] at hc
    obtain ⟨l0, hl0⟩ : ∃ l, 1048576 - (u0 : Int) = l := ⟨_, rfl⟩
    rw [hl0] at hc
    have t0 : decide (l0 < 0) = false := decide_eq_false (by omega)
    have HC := Lib.hid hc
    clear hc
    refine HC.out.mono ?_
    rintro e w2 ⟨rfl, hb⟩
    clear HC
    have szw2 := hb.size
    replace F0 := Lib.hid (shQueue.below F0.out hb (by omega))
    replace AB0 := Lib.hid ((hb.block w.heap.size (by omega)).trans AB0.out)
    replace T := Lib.hid (T.out.trans (hb.mono (by omega)))
    clear hb
    have ub : u0 ≤ 1048576 := by omega
    obtain ⟨v0, hv0⟩ : ∃ v, popN x0 = v := ⟨_, rfl⟩
    have vb0 : shQueue.bulk v0 ≤ 1048576 := by
      rw [← hv0]
      exact pop_bulk x0 (by rw [U0.out]; omega)
    obtain ⟨kv0, hkv0⟩ : ∃ k, ownQueue.ctT v0 = k := ⟨_, rfl⟩
    have fwv0 : kv0 ≤ 16777216 := by rw [← hkv0]; have := ownQueue_few v0; omega
    have KV0 := Lib.hid hkv0
    have HV0 := Lib.hid hv0
    clear hv0 hkv0
    obtain ⟨v1, hv1⟩ : ∃ v, popX x0 = v := ⟨_, rfl⟩
    have vb1 : shItem.bulk v1 ≤ 1048576 := by
      rw [← hv1]
      exact popX_bulk x0 (by rw [U0.out]; omega)
    obtain ⟨kv1, hkv1⟩ : ∃ k, ownItem.ctT v1 = k := ⟨_, rfl⟩
    have fwv1 : kv1 ≤ 16777216 := by rw [← hkv1]; have := ownItem_few v1; omega
    have KV1 := Lib.hid hkv1
    have HV1 := Lib.hid hv1
    clear hv1 hkv1
    obtain ⟨v2, hv2⟩ : ∃ v, popB x0 = v := ⟨_, rfl⟩
    have hd2 : (v2 != v2) = false := by simp
    have hx2 : (v2 ^^ v2) = false := by simp
    have HV2 := Lib.hid hv2
    clear hv2
    have HC := Lib.hid (toQueue_c _ _ _ x0 F0.out (by omega) (by rw [U0.out]; omega))
    have za_0 := cell_of_row _ w.heap.size 0 _ _ _ AB0.out
    have za_1 := cell_of_row _ w.heap.size 1 _ _ _ AB0.out
    simp only [List.getElem?_toArray, List.getElem?_cons_zero, List.getElem?_cons_succ] at za_0 za_1
    go_wp2_with fail
    clear za_0 za_1
    refine HC.out.mono ?_
    rintro e w3 ⟨eY0, rfl, hr, hb⟩
    clear HC
    have szw3 := hb.size
    replace F0 := Lib.hid (shQueue.below F0.out hb (by omega))
    replace AB0 := Lib.hid ((hb.block w.heap.size (by omega)).trans AB0.out)
    replace T := Lib.hid (T.out.trans (hb.mono (by omega)))
    clear hb
    have hY0 := shQueue.under hr
    obtain ⟨aY0_0, nY0_0, cY0_0, rfl, -⟩ := shQueue_reads.1 hY0
    have Y0 := Lib.hid hY0
    clear hr hY0
    have hc := specPop_o _ _ x0 (shQueue.le Y0.out (by omega)) (by rw [U0.out]; omega)
    simp only [HV0.out, HV1.out, HV2.out] at hc
    have HC := Lib.hid hc
    clear hc
    go_wp2_with fail
    refine HC.out.mono ?_
    rintro e w4 ⟨eW0, eW1, rfl, hr0, hr1, hb⟩
    clear HC
    have szw4 := hb.size
    replace F0 := Lib.hid (shQueue.below F0.out hb (by omega))
    replace AB0 := Lib.hid ((hb.block w.heap.size (by omega)).trans AB0.out)
    replace T := Lib.hid (T.out.trans (hb.mono (by omega)))
    clear hb
    obtain ⟨aW0_0, nW0_0, cW0_0, rfl, -⟩ := shQueue_reads.1 hr0
    have W0 := Lib.hid (shQueue.under hr0)
    clear hr0
    obtain ⟨aW1_0, nW1_0, cW1_0, rfl, -⟩ := shItem_reads.1 hr1
    have W1 := Lib.hid (shItem.under hr1)
    clear hr1
    clear Y0
    have hb := ((Below.refl w4.heap.size w4).alloc (Nat.le_refl _) (.cells #[.int .i64 v0.1, .slice aW0_0 nW0_0 cW0_0] 26 (0, 0))).alloc (by simp) (.cells #[.int .i64 v1.1, .slice aW1_0 nW1_0 cW1_0] 29 (0, 0))
    have hk0 : ((w4.alloc (.cells #[.int .i64 v0.1, .slice aW0_0 nW0_0 cW0_0] 26 (0, 0))).alloc (.cells #[.int .i64 v1.1, .slice aW1_0 nW1_0 cW1_0] 29 (0, 0))).heap[w4.heap.size]? = some (.cells #[.int .i64 v0.1, .slice aW0_0 nW0_0 cW0_0] 26 (0, 0)) := by
      rw [Below.heap_alloc _ _ _ (by simp)]
      have := heap_alloc_new w4 (.cells #[.int .i64 v0.1, .slice aW0_0 nW0_0 cW0_0] 26 (0, 0))
      simpa using this
    have hk1 : ((w4.alloc (.cells #[.int .i64 v0.1, .slice aW0_0 nW0_0 cW0_0] 26 (0, 0))).alloc (.cells #[.int .i64 v1.1, .slice aW1_0 nW1_0 cW1_0] 29 (0, 0))).heap[w4.heap.size + 1]? = some (.cells #[.int .i64 v1.1, .slice aW1_0 nW1_0 cW1_0] 29 (0, 0)) := by
      have := heap_alloc_new (w4.alloc (.cells #[.int .i64 v0.1, .slice aW0_0 nW0_0 cW0_0] 26 (0, 0))) (.cells #[.int .i64 v1.1, .slice aW1_0 nW1_0 cW1_0] 29 (0, 0))
      simpa using this
    have szw5 : w4.heap.size + 2 = ((w4.alloc (.cells #[.int .i64 v0.1, .slice aW0_0 nW0_0 cW0_0] 26 (0, 0))).alloc (.cells #[.int .i64 v1.1, .slice aW1_0 nW1_0 cW1_0] 29 (0, 0))).heap.size := by simp
    obtain ⟨w5, hww5⟩ : ∃ W, ((w4.alloc (.cells #[.int .i64 v0.1, .slice aW0_0 nW0_0 cW0_0] 26 (0, 0))).alloc (.cells #[.int .i64 v1.1, .slice aW1_0 nW1_0 cW1_0] 29 (0, 0))) = W := ⟨_, rfl⟩
    rw [hww5] at hb szw5 hk0 hk1
    replace F0 := Lib.hid (shQueue.below F0.out hb (by omega))
    replace AB0 := Lib.hid ((hb.block w.heap.size (by omega)).trans AB0.out)
    replace W0 := Lib.hid (shQueue.below W0.out hb (by omega))
    replace W1 := Lib.hid (shItem.below W1.out hb (by omega))
    replace T := Lib.hid (T.out.trans (hb.mono (by omega)))
    have BW0 := Lib.hid hk0
    have BW1 := Lib.hid hk1
    clear hb hk0 hk1
    have HC := Lib.hid (toQueue_o _ _ _ x0 F0.out (by omega) (by rw [U0.out]; omega))
    have za_0 := cell_of_row _ w.heap.size 0 _ _ _ AB0.out
    have za_1 := cell_of_row _ w.heap.size 1 _ _ _ AB0.out
    simp only [List.getElem?_toArray, List.getElem?_cons_zero, List.getElem?_cons_succ] at za_0 za_1
    go_wp2_with fail
    clear za_0 za_1
    clear hww5
    refine HC.out.mono ?_
    rintro e w6 ⟨eX0, rfl, hr, hb⟩
    clear HC
    have szw6 := hb.size
    replace F0 := Lib.hid (shQueue.below F0.out hb (by omega))
    replace AB0 := Lib.hid ((hb.block w.heap.size (by omega)).trans AB0.out)
    replace W0 := Lib.hid (shQueue.below W0.out hb (by omega))
    replace W1 := Lib.hid (shItem.below W1.out hb (by omega))
    replace BW0 := Lib.hid ((hb.block w4.heap.size (by omega)).trans BW0.out)
    replace BW1 := Lib.hid ((hb.block (w4.heap.size + 1) (by omega)).trans BW1.out)
    replace T := Lib.hid (T.out.trans (hb.mono (by omega)))
    clear hb
    obtain ⟨aX0_0, nX0_0, cX0_0, rfl, -⟩ := ownQueue_owns.1 hr
    have X0 := Lib.hid hr
    have HFX0 : Hid (∀ b o, FromB w5.heap.size w6.heap.size b o → w5.heap.size ≤ b ∧ b < w6.heap.size) := Lib.hid fun b o f => f
    clear hr
    have hb := (Below.refl w6.heap.size w6).alloc (Nat.le_refl _) (.cells #[.int .i64 x0.1, .slice aX0_0 nX0_0 cX0_0] 26 (0, 0))
    have hk := heap_alloc_new w6 (.cells #[.int .i64 x0.1, .slice aX0_0 nX0_0 cX0_0] 26 (0, 0))
    have szw7 : w6.heap.size < (w6.alloc (.cells #[.int .i64 x0.1, .slice aX0_0 nX0_0 cX0_0] 26 (0, 0))).heap.size := by simp
    obtain ⟨w7, hww7⟩ : ∃ W, w6.alloc (.cells #[.int .i64 x0.1, .slice aX0_0 nX0_0 cX0_0] 26 (0, 0)) = W := ⟨_, rfl⟩
    rw [hww7] at hb hk szw7
    replace F0 := Lib.hid (shQueue.below F0.out hb (by omega))
    replace AB0 := Lib.hid ((hb.block w.heap.size (by omega)).trans AB0.out)
    replace W0 := Lib.hid (shQueue.below W0.out hb (by omega))
    replace W1 := Lib.hid (shItem.below W1.out hb (by omega))
    replace BW0 := Lib.hid ((hb.block w4.heap.size (by omega)).trans BW0.out)
    replace BW1 := Lib.hid ((hb.block (w4.heap.size + 1) (by omega)).trans BW1.out)
    replace X0 := Lib.hid (ownQueue.owns_keep X0.out (.of_below hb fun b o f => by have := (HFX0.out b o f).2; omega))
    replace T := Lib.hid (T.out.trans (hb.mono (by omega)))
    have BX0 := Lib.hid hk
    clear hb hk
    have hc := implPop_o _ _ x0 (ownQueue.owns_reads X0.out fun b o f => by have := (HFX0.out b o f).2; exact Nat.lt_of_lt_of_le this (by omega)) (by rw [U0.out]; omega)
    simp only [HV0.out, HV1.out, HV2.out] at hc
    have HC := Lib.hid hc
    clear hc
    have zx0_0 := cell_of_row _ w6.heap.size 0 _ _ _ BX0.out
    have zx0_1 := cell_of_row _ w6.heap.size 1 _ _ _ BX0.out
    simp only [List.getElem?_toArray, List.getElem?_cons_zero, List.getElem?_cons_succ] at zx0_0 zx0_1
    go_wp2_with fail
    clear hww7
    clear zx0_0 zx0_1
    refine HC.out.mono ?_
    rintro e w8 ⟨eG0, eG1, FtG0, FtG1, rfl, hr0, hr1, hf0, hf1, hp0_1, hb⟩
    clear HC
    have szw8 := hb.size
    replace F0 := Lib.hid (shQueue.below F0.out hb (by omega))
    replace AB0 := Lib.hid ((hb.block w.heap.size (by omega)).trans AB0.out)
    replace W0 := Lib.hid (shQueue.below W0.out hb (by omega))
    replace W1 := Lib.hid (shItem.below W1.out hb (by omega))
    replace BW0 := Lib.hid ((hb.block w4.heap.size (by omega)).trans BW0.out)
    replace BW1 := Lib.hid ((hb.block (w4.heap.size + 1) (by omega)).trans BW1.out)
    replace X0 := Lib.hid (ownQueue.owns_keep X0.out (.of_below hb fun b o f => by have := (HFX0.out b o f).2; omega))
    replace BX0 := Lib.hid ((hb.block w6.heap.size (by omega)).trans BX0.out)
    replace T := Lib.hid (T.out.trans (hb.mono (by omega)))
    clear hb
    obtain ⟨aG0_0, nG0_0, cG0_0, rfl, -⟩ := ownQueue_owns.1 hr0
    have G0 := Lib.hid hr0
    have HFG0 : Hid (∀ b o, FtG0 b o → w7.heap.size ≤ b ∧ b < w8.heap.size) := Lib.hid hf0
    clear hr0 hf0
    obtain ⟨aG1_0, nG1_0, cG1_0, rfl, -⟩ := ownItem_owns.1 hr1
    have G1 := Lib.hid hr1
    have HFG1 : Hid (∀ b o, FtG1 b o → w7.heap.size ≤ b ∧ b < w8.heap.size) := Lib.hid hf1
    clear hr1 hf1
    have APG0_1 := Lib.hid hp0_1
    clear hp0_1
    have hb := ((Below.refl w8.heap.size w8).alloc (Nat.le_refl _) (.cells #[.int .i64 v0.1, .slice aG0_0 nG0_0 cG0_0] 26 (0, 0))).alloc (by simp) (.cells #[.int .i64 v1.1, .slice aG1_0 nG1_0 cG1_0] 29 (0, 0))
    have hk0 : ((w8.alloc (.cells #[.int .i64 v0.1, .slice aG0_0 nG0_0 cG0_0] 26 (0, 0))).alloc (.cells #[.int .i64 v1.1, .slice aG1_0 nG1_0 cG1_0] 29 (0, 0))).heap[w8.heap.size]? = some (.cells #[.int .i64 v0.1, .slice aG0_0 nG0_0 cG0_0] 26 (0, 0)) := by
      rw [Below.heap_alloc _ _ _ (by simp)]
      have := heap_alloc_new w8 (.cells #[.int .i64 v0.1, .slice aG0_0 nG0_0 cG0_0] 26 (0, 0))
      simpa using this
    have hk1 : ((w8.alloc (.cells #[.int .i64 v0.1, .slice aG0_0 nG0_0 cG0_0] 26 (0, 0))).alloc (.cells #[.int .i64 v1.1, .slice aG1_0 nG1_0 cG1_0] 29 (0, 0))).heap[w8.heap.size + 1]? = some (.cells #[.int .i64 v1.1, .slice aG1_0 nG1_0 cG1_0] 29 (0, 0)) := by
      have := heap_alloc_new (w8.alloc (.cells #[.int .i64 v0.1, .slice aG0_0 nG0_0 cG0_0] 26 (0, 0))) (.cells #[.int .i64 v1.1, .slice aG1_0 nG1_0 cG1_0] 29 (0, 0))
      simpa using this
    have szw9 : w8.heap.size + 2 = ((w8.alloc (.cells #[.int .i64 v0.1, .slice aG0_0 nG0_0 cG0_0] 26 (0, 0))).alloc (.cells #[.int .i64 v1.1, .slice aG1_0 nG1_0 cG1_0] 29 (0, 0))).heap.size := by simp
    obtain ⟨w9, hww9⟩ : ∃ W, ((w8.alloc (.cells #[.int .i64 v0.1, .slice aG0_0 nG0_0 cG0_0] 26 (0, 0))).alloc (.cells #[.int .i64 v1.1, .slice aG1_0 nG1_0 cG1_0] 29 (0, 0))) = W := ⟨_, rfl⟩
    rw [hww9] at hb szw9 hk0 hk1
    replace F0 := Lib.hid (shQueue.below F0.out hb (by omega))
    replace AB0 := Lib.hid ((hb.block w.heap.size (by omega)).trans AB0.out)
    replace W0 := Lib.hid (shQueue.below W0.out hb (by omega))
    replace W1 := Lib.hid (shItem.below W1.out hb (by omega))
    replace BW0 := Lib.hid ((hb.block w4.heap.size (by omega)).trans BW0.out)
    replace BW1 := Lib.hid ((hb.block (w4.heap.size + 1) (by omega)).trans BW1.out)
    replace X0 := Lib.hid (ownQueue.owns_keep X0.out (.of_below hb fun b o f => by have := (HFX0.out b o f).2; omega))
    replace BX0 := Lib.hid ((hb.block w6.heap.size (by omega)).trans BX0.out)
    replace G0 := Lib.hid (ownQueue.owns_keep G0.out (.of_below hb fun b o f => by have := (HFG0.out b o f).2; omega))
    replace G1 := Lib.hid (ownItem.owns_keep G1.out (.of_below hb fun b o f => by have := (HFG1.out b o f).2; omega))
    replace T := Lib.hid (T.out.trans (hb.mono (by omega)))
    have BG0 := Lib.hid hk0
    have BG1 := Lib.hid hk1
    clear hb hk0 hk1
    have HC := Lib.hid (eqQueue_c _ _ _ _ _ v0 (ownQueue.owns_reads (I := Under w8.heap.size) G0.out fun b o f => (HFG0.out b o f).2) W0.out (by omega) (by omega) vb0)
    have zg_0 := cell_of_row _ w8.heap.size 0 _ _ _ BG0.out
    have zg_1 := cell_of_row _ w8.heap.size 1 _ _ _ BG0.out
    simp only [List.getElem?_toArray, List.getElem?_cons_zero, List.getElem?_cons_succ] at zg_0 zg_1
    have zw_0 := cell_of_row _ w4.heap.size 0 _ _ _ BW0.out
    have zw_1 := cell_of_row _ w4.heap.size 1 _ _ _ BW0.out
    simp only [List.getElem?_toArray, List.getElem?_cons_zero, List.getElem?_cons_succ] at zw_0 zw_1
    go_wp2_with fail
    clear hww9
    clear zg_0 zg_1
    clear zw_0 zw_1
    refine HC.out.mono ?_
    rintro e w10 ⟨rfl, hb⟩
    clear HC
    have szw10 := hb.size
    replace F0 := Lib.hid (shQueue.below F0.out hb (by omega))
    replace AB0 := Lib.hid ((hb.block w.heap.size (by omega)).trans AB0.out)
    replace W0 := Lib.hid (shQueue.below W0.out hb (by omega))
    replace W1 := Lib.hid (shItem.below W1.out hb (by omega))
    replace BW0 := Lib.hid ((hb.block w4.heap.size (by omega)).trans BW0.out)
    replace BW1 := Lib.hid ((hb.block (w4.heap.size + 1) (by omega)).trans BW1.out)
    replace X0 := Lib.hid (ownQueue.owns_keep X0.out (.of_below hb fun b o f => by have := (HFX0.out b o f).2; omega))
    replace BX0 := Lib.hid ((hb.block w6.heap.size (by omega)).trans BX0.out)
    replace G0 := Lib.hid (ownQueue.owns_keep G0.out (.of_below hb fun b o f => by have := (HFG0.out b o f).2; omega))
    replace G1 := Lib.hid (ownItem.owns_keep G1.out (.of_below hb fun b o f => by have := (HFG1.out b o f).2; omega))
    replace BG0 := Lib.hid ((hb.block w8.heap.size (by omega)).trans BG0.out)
    replace BG1 := Lib.hid ((hb.block (w8.heap.size + 1) (by omega)).trans BG1.out)
    replace T := Lib.hid (T.out.trans (hb.mono (by omega)))
    clear hb
    have HC := Lib.hid (eqItem_c _ _ _ _ _ v1 (ownItem.owns_reads (I := Under w8.heap.size) G1.out fun b o f => (HFG1.out b o f).2) W1.out (by omega) (by omega) vb1)
    have zg_0 := cell_of_row _ (w8.heap.size + 1) 0 _ _ _ BG1.out
    have zg_1 := cell_of_row _ (w8.heap.size + 1) 1 _ _ _ BG1.out
    simp only [List.getElem?_toArray, List.getElem?_cons_zero, List.getElem?_cons_succ] at zg_0 zg_1
    have zw_0 := cell_of_row _ (w4.heap.size + 1) 0 _ _ _ BW1.out
    have zw_1 := cell_of_row _ (w4.heap.size + 1) 1 _ _ _ BW1.out
    simp only [List.getElem?_toArray, List.getElem?_cons_zero, List.getElem?_cons_succ] at zw_0 zw_1
    go_wp2_with fail
    clear zg_0 zg_1
    clear zw_0 zw_1
    refine HC.out.mono ?_
    rintro e w11 ⟨rfl, hb⟩
    clear HC
    have szw11 := hb.size
    replace F0 := Lib.hid (shQueue.below F0.out hb (by omega))
    replace AB0 := Lib.hid ((hb.block w.heap.size (by omega)).trans AB0.out)
    replace W0 := Lib.hid (shQueue.below W0.out hb (by omega))
    replace W1 := Lib.hid (shItem.below W1.out hb (by omega))
    replace BW0 := Lib.hid ((hb.block w4.heap.size (by omega)).trans BW0.out)
    replace BW1 := Lib.hid ((hb.block (w4.heap.size + 1) (by omega)).trans BW1.out)
    replace X0 := Lib.hid (ownQueue.owns_keep X0.out (.of_below hb fun b o f => by have := (HFX0.out b o f).2; omega))
    replace BX0 := Lib.hid ((hb.block w6.heap.size (by omega)).trans BX0.out)
    replace G0 := Lib.hid (ownQueue.owns_keep G0.out (.of_below hb fun b o f => by have := (HFG0.out b o f).2; omega))
    replace G1 := Lib.hid (ownItem.owns_keep G1.out (.of_below hb fun b o f => by have := (HFG1.out b o f).2; omega))
    replace BG0 := Lib.hid ((hb.block w8.heap.size (by omega)).trans BG0.out)
    replace BG1 := Lib.hid ((hb.block (w8.heap.size + 1) (by omega)).trans BG1.out)
    replace T := Lib.hid (T.out.trans (hb.mono (by omega)))
    clear hb
    have zx_0 := cell_of_row _ w6.heap.size 0 _ _ _ BX0.out
    have zx_1 := cell_of_row _ w6.heap.size 1 _ _ _ BX0.out
    simp only [List.getElem?_toArray, List.getElem?_cons_zero, List.getElem?_cons_succ] at zx_0 zx_1
    have za_0 := cell_of_row _ w.heap.size 0 _ _ _ AB0.out
    have za_1 := cell_of_row _ w.heap.size 1 _ _ _ AB0.out
    simp only [List.getElem?_toArray, List.getElem?_cons_zero, List.getElem?_cons_succ] at za_0 za_1
    go_upto_region 10 with fail
    go_cut [56] (fun t wx => t = .bool false ∧ Below w11.heap.size w11 wx)
    case first =>
      have hdr : Below w11.heap.size w11 w11.drew := (Below.refl _ _).drew
      have FD := Lib.hid (shQueue.below F0.out hdr (by omega))
      have XD := Lib.hid (shQueue.below (ownQueue.owns_reads (I := Under w6.heap.size) X0.out fun b o f => (HFX0.out b o f).2) hdr (by omega))
      have DR := Lib.hid hdr
      have szd : w11.heap.size ≤ w11.drew.heap.size := hdr.size
      have XBD : Hid (w11.drew.heap[w6.heap.size]? = _) := Lib.hid BX0.out
      clear hdr
      have HC1 := Lib.hid (toQueue_c w11.drew _ _ x0 FD.out (by omega) (by rw [U0.out]; omega))
      have HC2 := Lib.hid fun (w1 : World) (es : List Value) (hb : Below w11.drew.heap.size w11.drew w1) (hr : shQueue.reads (From w11.drew.heap.size w1.heap.size) w1 es x0) => eqQueue_c w1 _ _ _ es x0 (shQueue.below XD.out hb (by omega)) (shQueue.under hr) (by have := hb.size; omega) (Nat.le_refl _) (by rw [U0.out]; omega)
      go_region_law (first
        | (go_simp; go_at_call 17; (with_reducible refine HC1.out.mono ?_); rintro e wt ⟨eg, rfl, hr, hb⟩; have hq := HC2.out wt eg hb hr; have zz_0 := cell_of_row _ w6.heap.size 0 _ _ _ ((hb.block w6.heap.size (by omega)).trans XBD.out); have zz_1 := cell_of_row _ w6.heap.size 1 _ _ _ ((hb.block w6.heap.size (by omega)).trans XBD.out); simp only [List.getElem?_toArray, List.getElem?_cons_zero, List.getElem?_cons_succ] at zz_0 zz_1; obtain ⟨ag_0, ng_0, cg_0, rfl, -⟩ := shQueue_reads.1 hr; have HQ := Lib.hid hq; have HBT := Lib.hid hb; have szt := hb.size; clear hb hr hq)
        | (go_simp; go_at_call 19; (with_reducible refine HQ.out.mono ?_); rintro e wq ⟨rfl, hb⟩; have BQ := Lib.hid (DR.out.trans ((HBT.out.mono szd).trans (hb.mono (by omega)))); clear hb))
      all_goals
        go_wp2_with fail
        go_meet
        case rel => exact ⟨rfl, BQ.out⟩
    case rest =>
      obtain ⟨rfl, hb⟩ := hcut
      clear zx_0 zx_1
      clear za_0 za_1
      obtain ⟨w12, rfl⟩ : ∃ x, x = wc := ⟨_, rfl⟩
      have szw12 := hb.size
      replace F0 := Lib.hid (shQueue.below F0.out hb (by omega))
      replace AB0 := Lib.hid ((hb.block w.heap.size (by omega)).trans AB0.out)
      replace W0 := Lib.hid (shQueue.below W0.out hb (by omega))
      replace W1 := Lib.hid (shItem.below W1.out hb (by omega))
      replace BW0 := Lib.hid ((hb.block w4.heap.size (by omega)).trans BW0.out)
      replace BW1 := Lib.hid ((hb.block (w4.heap.size + 1) (by omega)).trans BW1.out)
      replace X0 := Lib.hid (ownQueue.owns_keep X0.out (.of_below hb fun b o f => by have := (HFX0.out b o f).2; omega))
      replace BX0 := Lib.hid ((hb.block w6.heap.size (by omega)).trans BX0.out)
      replace G0 := Lib.hid (ownQueue.owns_keep G0.out (.of_below hb fun b o f => by have := (HFG0.out b o f).2; omega))
      replace G1 := Lib.hid (ownItem.owns_keep G1.out (.of_below hb fun b o f => by have := (HFG1.out b o f).2; omega))
      replace BG0 := Lib.hid ((hb.block w8.heap.size (by omega)).trans BG0.out)
      replace BG1 := Lib.hid ((hb.block (w8.heap.size + 1) (by omega)).trans BG1.out)
      replace T := Lib.hid (T.out.trans (hb.mono (by omega)))
      clear hb
      have hc := markQueue_o _ _ _ x0 (1) X0.out (fun b o f => Nat.lt_of_lt_of_le (HFX0.out b o f).2 (by omega)) (by rw [U0.out]; omega) (by omega) (by rw [K0.out]; omega)
      have zx_0 := cell_of_row _ w6.heap.size 0 _ _ _ BX0.out
      have zx_1 := cell_of_row _ w6.heap.size 1 _ _ _ BX0.out
      simp only [List.getElem?_toArray, List.getElem?_cons_zero, List.getElem?_cons_succ] at zx_0 zx_1
      rw [K0.out] at hc
      have HC := Lib.hid hc
      clear hc
      go_wp2_with fail
      clear zx_0 zx_1
      refine HC.out.mono ?_
      rintro e w14 ⟨rfl, ho, w13, hb, ht⟩
      clear HC
      have szw13 := hb.size
      replace F0 := Lib.hid (shQueue.below F0.out hb (by omega))
      replace AB0 := Lib.hid ((hb.block w.heap.size (by omega)).trans AB0.out)
      replace W0 := Lib.hid (shQueue.below W0.out hb (by omega))
      replace W1 := Lib.hid (shItem.below W1.out hb (by omega))
      replace BW0 := Lib.hid ((hb.block w4.heap.size (by omega)).trans BW0.out)
      replace BW1 := Lib.hid ((hb.block (w4.heap.size + 1) (by omega)).trans BW1.out)
      replace BX0 := Lib.hid ((hb.block w6.heap.size (by omega)).trans BX0.out)
      replace G0 := Lib.hid (ownQueue.owns_keep G0.out (.of_below hb fun b o f => by have := (HFG0.out b o f).2; omega))
      replace G1 := Lib.hid (ownItem.owns_keep G1.out (.of_below hb fun b o f => by have := (HFG1.out b o f).2; omega))
      replace BG0 := Lib.hid ((hb.block w8.heap.size (by omega)).trans BG0.out)
      replace BG1 := Lib.hid ((hb.block (w8.heap.size + 1) (by omega)).trans BG1.out)
      replace T := Lib.hid (T.out.trans (hb.mono (by omega)))
      clear hb
      have hq := ht.below (B := w5.heap.size) fun b o f => (HFX0.out b o f).1
      replace F0 := Lib.hid (shQueue.below F0.out hq (by omega))
      replace AB0 := Lib.hid ((ht.block w.heap.size fun o f => by have h1 := (HFX0.out _ o f).1; have h2 := (HFX0.out _ o f).2; omega).trans AB0.out)
      replace W0 := Lib.hid (shQueue.below W0.out hq (by omega))
      replace W1 := Lib.hid (shItem.below W1.out hq (by omega))
      replace BW0 := Lib.hid ((ht.block w4.heap.size fun o f => by have h1 := (HFX0.out _ o f).1; have h2 := (HFX0.out _ o f).2; omega).trans BW0.out)
      replace BW1 := Lib.hid ((ht.block (w4.heap.size + 1) fun o f => by have h1 := (HFX0.out _ o f).1; have h2 := (HFX0.out _ o f).2; omega).trans BW1.out)
      replace BX0 := Lib.hid ((ht.block w6.heap.size fun o f => by have h1 := (HFX0.out _ o f).1; have h2 := (HFX0.out _ o f).2; omega).trans BX0.out)
      replace G0 := Lib.hid (ownQueue.owns_keep G0.out (ht.same fun b o f f' => by have h1 := (HFX0.out b o f).1; have h2 := (HFX0.out b o f).2; have h3 := (HFG0.out b o f').1; have h4 := (HFG0.out b o f').2; omega))
      replace G1 := Lib.hid (ownItem.owns_keep G1.out (ht.same fun b o f f' => by have h1 := (HFX0.out b o f).1; have h2 := (HFX0.out b o f).2; have h3 := (HFG1.out b o f').1; have h4 := (HFG1.out b o f').2; omega))
      replace BG0 := Lib.hid ((ht.block w8.heap.size fun o f => by have h1 := (HFX0.out _ o f).1; have h2 := (HFX0.out _ o f).2; omega).trans BG0.out)
      replace BG1 := Lib.hid ((ht.block (w8.heap.size + 1) fun o f => by have h1 := (HFX0.out _ o f).1; have h2 := (HFX0.out _ o f).2; omega).trans BG1.out)
      replace T := Lib.hid (T.out.trans (hq.mono (by omega)))
      have szt := ht.size
      clear hq
      have szw14 : w13.heap.size ≤ w14.heap.size := Nat.le_of_eq szt.symm
      clear ht szt ho X0
      have tk : decide ((1 : Int) + (k0 : Int) < 0) = false := decide_eq_false (by omega)
      have HC := Lib.hid (eqQueue_c _ _ _ _ _ v0 (ownQueue.owns_reads (I := Under w8.heap.size) G0.out fun b o f => (HFG0.out b o f).2) W0.out (by omega) (by omega) vb0)
      have zg_0 := cell_of_row _ w8.heap.size 0 _ _ _ BG0.out
      have zg_1 := cell_of_row _ w8.heap.size 1 _ _ _ BG0.out
      simp only [List.getElem?_toArray, List.getElem?_cons_zero, List.getElem?_cons_succ] at zg_0 zg_1
      have zw_0 := cell_of_row _ w4.heap.size 0 _ _ _ BW0.out
      have zw_1 := cell_of_row _ w4.heap.size 1 _ _ _ BW0.out
      simp only [List.getElem?_toArray, List.getElem?_cons_zero, List.getElem?_cons_succ] at zw_0 zw_1
      go_wp2_with fail
      clear zg_0 zg_1
      clear zw_0 zw_1
      refine HC.out.mono ?_
      rintro e w15 ⟨rfl, hb⟩
      clear HC
      have szw15 := hb.size
      replace F0 := Lib.hid (shQueue.below F0.out hb (by omega))
      replace AB0 := Lib.hid ((hb.block w.heap.size (by omega)).trans AB0.out)
      replace W0 := Lib.hid (shQueue.below W0.out hb (by omega))
      replace W1 := Lib.hid (shItem.below W1.out hb (by omega))
      replace BW0 := Lib.hid ((hb.block w4.heap.size (by omega)).trans BW0.out)
      replace BW1 := Lib.hid ((hb.block (w4.heap.size + 1) (by omega)).trans BW1.out)
      replace BX0 := Lib.hid ((hb.block w6.heap.size (by omega)).trans BX0.out)
      replace G0 := Lib.hid (ownQueue.owns_keep G0.out (.of_below hb fun b o f => by have := (HFG0.out b o f).2; omega))
      replace G1 := Lib.hid (ownItem.owns_keep G1.out (.of_below hb fun b o f => by have := (HFG1.out b o f).2; omega))
      replace BG0 := Lib.hid ((hb.block w8.heap.size (by omega)).trans BG0.out)
      replace BG1 := Lib.hid ((hb.block (w8.heap.size + 1) (by omega)).trans BG1.out)
      replace T := Lib.hid (T.out.trans (hb.mono (by omega)))
      clear hb
      have HC := Lib.hid (eqItem_c _ _ _ _ _ v1 (ownItem.owns_reads (I := Under w8.heap.size) G1.out fun b o f => (HFG1.out b o f).2) W1.out (by omega) (by omega) vb1)
      have zg_0 := cell_of_row _ (w8.heap.size + 1) 0 _ _ _ BG1.out
      have zg_1 := cell_of_row _ (w8.heap.size + 1) 1 _ _ _ BG1.out
      simp only [List.getElem?_toArray, List.getElem?_cons_zero, List.getElem?_cons_succ] at zg_0 zg_1
      have zw_0 := cell_of_row _ (w4.heap.size + 1) 0 _ _ _ BW1.out
      have zw_1 := cell_of_row _ (w4.heap.size + 1) 1 _ _ _ BW1.out
      simp only [List.getElem?_toArray, List.getElem?_cons_zero, List.getElem?_cons_succ] at zw_0 zw_1
      go_wp2_with fail
      clear zg_0 zg_1
      clear zw_0 zw_1
      refine HC.out.mono ?_
      rintro e w16 ⟨rfl, hb⟩
      clear HC
      have szw16 := hb.size
      replace F0 := Lib.hid (shQueue.below F0.out hb (by omega))
      replace AB0 := Lib.hid ((hb.block w.heap.size (by omega)).trans AB0.out)
      replace W0 := Lib.hid (shQueue.below W0.out hb (by omega))
      replace W1 := Lib.hid (shItem.below W1.out hb (by omega))
      replace BW0 := Lib.hid ((hb.block w4.heap.size (by omega)).trans BW0.out)
      replace BW1 := Lib.hid ((hb.block (w4.heap.size + 1) (by omega)).trans BW1.out)
      replace BX0 := Lib.hid ((hb.block w6.heap.size (by omega)).trans BX0.out)
      replace G0 := Lib.hid (ownQueue.owns_keep G0.out (.of_below hb fun b o f => by have := (HFG0.out b o f).2; omega))
      replace G1 := Lib.hid (ownItem.owns_keep G1.out (.of_below hb fun b o f => by have := (HFG1.out b o f).2; omega))
      replace BG0 := Lib.hid ((hb.block w8.heap.size (by omega)).trans BG0.out)
      replace BG1 := Lib.hid ((hb.block (w8.heap.size + 1) (by omega)).trans BG1.out)
      replace T := Lib.hid (T.out.trans (hb.mono (by omega)))
      clear hb
      have hc := markQueue_o _ _ _ v0 (1) G0.out (fun b o f => Nat.lt_of_lt_of_le (HFG0.out b o f).2 (by omega)) vb0 (by omega) (by rw [KV0.out]; omega)
      have zx_0 := cell_of_row _ w8.heap.size 0 _ _ _ BG0.out
      have zx_1 := cell_of_row _ w8.heap.size 1 _ _ _ BG0.out
      simp only [List.getElem?_toArray, List.getElem?_cons_zero, List.getElem?_cons_succ] at zx_0 zx_1
      rw [KV0.out] at hc
      have HC := Lib.hid hc
      clear hc
      go_wp2_with fail
      clear zx_0 zx_1
      refine HC.out.mono ?_
      rintro e w18 ⟨rfl, ho, w17, hb, ht⟩
      clear HC
      have szw17 := hb.size
      replace F0 := Lib.hid (shQueue.below F0.out hb (by omega))
      replace AB0 := Lib.hid ((hb.block w.heap.size (by omega)).trans AB0.out)
      replace W0 := Lib.hid (shQueue.below W0.out hb (by omega))
      replace W1 := Lib.hid (shItem.below W1.out hb (by omega))
      replace BW0 := Lib.hid ((hb.block w4.heap.size (by omega)).trans BW0.out)
      replace BW1 := Lib.hid ((hb.block (w4.heap.size + 1) (by omega)).trans BW1.out)
      replace BX0 := Lib.hid ((hb.block w6.heap.size (by omega)).trans BX0.out)
      replace G1 := Lib.hid (ownItem.owns_keep G1.out (.of_below hb fun b o f => by have := (HFG1.out b o f).2; omega))
      replace BG0 := Lib.hid ((hb.block w8.heap.size (by omega)).trans BG0.out)
      replace BG1 := Lib.hid ((hb.block (w8.heap.size + 1) (by omega)).trans BG1.out)
      replace T := Lib.hid (T.out.trans (hb.mono (by omega)))
      clear hb
      have hq := ht.below (B := w7.heap.size) fun b o f => (HFG0.out b o f).1
      replace F0 := Lib.hid (shQueue.below F0.out hq (by omega))
      replace AB0 := Lib.hid ((ht.block w.heap.size fun o f => by have h1 := (HFG0.out _ o f).1; have h2 := (HFG0.out _ o f).2; omega).trans AB0.out)
      replace W0 := Lib.hid (shQueue.below W0.out hq (by omega))
      replace W1 := Lib.hid (shItem.below W1.out hq (by omega))
      replace BW0 := Lib.hid ((ht.block w4.heap.size fun o f => by have h1 := (HFG0.out _ o f).1; have h2 := (HFG0.out _ o f).2; omega).trans BW0.out)
      replace BW1 := Lib.hid ((ht.block (w4.heap.size + 1) fun o f => by have h1 := (HFG0.out _ o f).1; have h2 := (HFG0.out _ o f).2; omega).trans BW1.out)
      replace BX0 := Lib.hid ((ht.block w6.heap.size fun o f => by have h1 := (HFG0.out _ o f).1; have h2 := (HFG0.out _ o f).2; omega).trans BX0.out)
      replace G1 := Lib.hid (ownItem.owns_keep G1.out (ht.same APG0_1.out))
      replace BG0 := Lib.hid ((ht.block w8.heap.size fun o f => by have h1 := (HFG0.out _ o f).1; have h2 := (HFG0.out _ o f).2; omega).trans BG0.out)
      replace BG1 := Lib.hid ((ht.block (w8.heap.size + 1) fun o f => by have h1 := (HFG0.out _ o f).1; have h2 := (HFG0.out _ o f).2; omega).trans BG1.out)
      replace T := Lib.hid (T.out.trans (hq.mono (by omega)))
      have szt := ht.size
      clear hq
      have szw18 : w17.heap.size ≤ w18.heap.size := Nat.le_of_eq szt.symm
      replace G0 := Lib.hid ho
      clear ht szt ho
      have tv0 : decide ((1 : Int) + (kv0 : Int) < 0) = false := decide_eq_false (by omega)
      have hc := markItem_o _ _ _ v1 (1 + (kv0 : Int)) G1.out (fun b o f => Nat.lt_of_lt_of_le (HFG1.out b o f).2 (by omega)) vb1 (by omega) (by rw [KV1.out]; omega)
      have zx_0 := cell_of_row _ (w8.heap.size + 1) 0 _ _ _ BG1.out
      have zx_1 := cell_of_row _ (w8.heap.size + 1) 1 _ _ _ BG1.out
      simp only [List.getElem?_toArray, List.getElem?_cons_zero, List.getElem?_cons_succ] at zx_0 zx_1
      rw [KV1.out] at hc
      have HC := Lib.hid hc
      clear hc
      go_wp2_with fail
      clear zx_0 zx_1
      refine HC.out.mono ?_
      rintro e w20 ⟨rfl, ho, w19, hb, ht⟩
      clear HC
      have szw19 := hb.size
      replace F0 := Lib.hid (shQueue.below F0.out hb (by omega))
      replace AB0 := Lib.hid ((hb.block w.heap.size (by omega)).trans AB0.out)
      replace W0 := Lib.hid (shQueue.below W0.out hb (by omega))
      replace W1 := Lib.hid (shItem.below W1.out hb (by omega))
      replace BW0 := Lib.hid ((hb.block w4.heap.size (by omega)).trans BW0.out)
      replace BW1 := Lib.hid ((hb.block (w4.heap.size + 1) (by omega)).trans BW1.out)
      replace BX0 := Lib.hid ((hb.block w6.heap.size (by omega)).trans BX0.out)
      replace BG0 := Lib.hid ((hb.block w8.heap.size (by omega)).trans BG0.out)
      replace BG1 := Lib.hid ((hb.block (w8.heap.size + 1) (by omega)).trans BG1.out)
      replace G0 := Lib.hid (ownQueue.owns_keep G0.out (.of_below hb fun b o f => by have := (HFG0.out b o f).2; omega))
      replace T := Lib.hid (T.out.trans (hb.mono (by omega)))
      clear hb
      have hq := ht.below (B := w7.heap.size) fun b o f => (HFG1.out b o f).1
      replace F0 := Lib.hid (shQueue.below F0.out hq (by omega))
      replace AB0 := Lib.hid ((ht.block w.heap.size fun o f => by have h1 := (HFG1.out _ o f).1; have h2 := (HFG1.out _ o f).2; omega).trans AB0.out)
      replace W0 := Lib.hid (shQueue.below W0.out hq (by omega))
      replace W1 := Lib.hid (shItem.below W1.out hq (by omega))
      replace BW0 := Lib.hid ((ht.block w4.heap.size fun o f => by have h1 := (HFG1.out _ o f).1; have h2 := (HFG1.out _ o f).2; omega).trans BW0.out)
      replace BW1 := Lib.hid ((ht.block (w4.heap.size + 1) fun o f => by have h1 := (HFG1.out _ o f).1; have h2 := (HFG1.out _ o f).2; omega).trans BW1.out)
      replace BX0 := Lib.hid ((ht.block w6.heap.size fun o f => by have h1 := (HFG1.out _ o f).1; have h2 := (HFG1.out _ o f).2; omega).trans BX0.out)
      replace BG0 := Lib.hid ((ht.block w8.heap.size fun o f => by have h1 := (HFG1.out _ o f).1; have h2 := (HFG1.out _ o f).2; omega).trans BG0.out)
      replace BG1 := Lib.hid ((ht.block (w8.heap.size + 1) fun o f => by have h1 := (HFG1.out _ o f).1; have h2 := (HFG1.out _ o f).2; omega).trans BG1.out)
      replace G0 := Lib.hid (ownQueue.owns_keep G0.out (ht.same APG0_1.out.symm))
      replace T := Lib.hid (T.out.trans (hq.mono (by omega)))
      have szt := ht.size
      clear hq
      have szw20 : w19.heap.size ≤ w20.heap.size := Nat.le_of_eq szt.symm
      replace G1 := Lib.hid ho
      clear ht szt ho
      have tv1 : decide ((1 : Int) + (kv0 : Int) + (kv1 : Int) < 0) = false := decide_eq_false (by omega)
      have tn : ((1 : Int) + (kv0 : Int) + (kv1 : Int) != (1 : Int) + (kv0 : Int) + (kv1 : Int)) = false := by simp
      have hc := heldQueue_o _ w8.heap.size _ v0 (1) (ownQueue.owns_reads (I := Under w8.heap.size) G0.out fun b o f => (HFG0.out b o f).2) (by omega) vb0 (by omega) (by rw [KV0.out]; omega)
      rw [KV0.out] at hc
      have HC := Lib.hid hc
      clear hc
      have zg_0 := cell_of_row _ w8.heap.size 0 _ _ _ BG0.out
      have zg_1 := cell_of_row _ w8.heap.size 1 _ _ _ BG0.out
      simp only [List.getElem?_toArray, List.getElem?_cons_zero, List.getElem?_cons_succ] at zg_0 zg_1
      go_wp2_with fail
      clear zg_0 zg_1
      refine HC.out.mono ?_
      rintro e w21 ⟨rfl, hb⟩
      clear HC
      have szw21 := hb.size
      replace F0 := Lib.hid (shQueue.below F0.out hb (by omega))
      replace AB0 := Lib.hid ((hb.block w.heap.size (by omega)).trans AB0.out)
      replace W0 := Lib.hid (shQueue.below W0.out hb (by omega))
      replace W1 := Lib.hid (shItem.below W1.out hb (by omega))
      replace BW0 := Lib.hid ((hb.block w4.heap.size (by omega)).trans BW0.out)
      replace BW1 := Lib.hid ((hb.block (w4.heap.size + 1) (by omega)).trans BW1.out)
      replace BX0 := Lib.hid ((hb.block w6.heap.size (by omega)).trans BX0.out)
      replace BG0 := Lib.hid ((hb.block w8.heap.size (by omega)).trans BG0.out)
      replace BG1 := Lib.hid ((hb.block (w8.heap.size + 1) (by omega)).trans BG1.out)
      replace G0 := Lib.hid (ownQueue.owns_keep G0.out (.of_below hb fun b o f => by have := (HFG0.out b o f).2; omega))
      replace G1 := Lib.hid (ownItem.owns_keep G1.out (.of_below hb fun b o f => by have := (HFG1.out b o f).2; omega))
      replace T := Lib.hid (T.out.trans (hb.mono (by omega)))
      clear hb
      have hc := heldItem_o _ w8.heap.size _ v1 (1 + (kv0 : Int)) (ownItem.owns_reads (I := Under w8.heap.size) G1.out fun b o f => (HFG1.out b o f).2) (by omega) vb1 (by omega) (by rw [KV1.out]; omega)
      rw [KV1.out] at hc
      have HC := Lib.hid hc
      clear hc
      have zg_0 := cell_of_row _ (w8.heap.size + 1) 0 _ _ _ BG1.out
      have zg_1 := cell_of_row _ (w8.heap.size + 1) 1 _ _ _ BG1.out
      simp only [List.getElem?_toArray, List.getElem?_cons_zero, List.getElem?_cons_succ] at zg_0 zg_1
      go_wp2_with fail
      clear zg_0 zg_1
      refine HC.out.mono ?_
      rintro e w22 ⟨rfl, hb⟩
      clear HC
      have szw22 := hb.size
      replace F0 := Lib.hid (shQueue.below F0.out hb (by omega))
      replace AB0 := Lib.hid ((hb.block w.heap.size (by omega)).trans AB0.out)
      replace W0 := Lib.hid (shQueue.below W0.out hb (by omega))
      replace W1 := Lib.hid (shItem.below W1.out hb (by omega))
      replace BW0 := Lib.hid ((hb.block w4.heap.size (by omega)).trans BW0.out)
      replace BW1 := Lib.hid ((hb.block (w4.heap.size + 1) (by omega)).trans BW1.out)
      replace BX0 := Lib.hid ((hb.block w6.heap.size (by omega)).trans BX0.out)
      replace BG0 := Lib.hid ((hb.block w8.heap.size (by omega)).trans BG0.out)
      replace BG1 := Lib.hid ((hb.block (w8.heap.size + 1) (by omega)).trans BG1.out)
      replace G0 := Lib.hid (ownQueue.owns_keep G0.out (.of_below hb fun b o f => by have := (HFG0.out b o f).2; omega))
      replace G1 := Lib.hid (ownItem.owns_keep G1.out (.of_below hb fun b o f => by have := (HFG1.out b o f).2; omega))
      replace T := Lib.hid (T.out.trans (hb.mono (by omega)))
      clear hb
      have HC := Lib.hid (toQueue_c _ _ _ x0 F0.out (by omega) (by rw [U0.out]; omega))
      have za_0 := cell_of_row _ w.heap.size 0 _ _ _ AB0.out
      have za_1 := cell_of_row _ w.heap.size 1 _ _ _ AB0.out
      simp only [List.getElem?_toArray, List.getElem?_cons_zero, List.getElem?_cons_succ] at za_0 za_1
      go_wp2_with fail
      clear za_0 za_1
      refine HC.out.mono ?_
      rintro e w23 ⟨eH0, rfl, hr, hb⟩
      clear HC
      have szw23 := hb.size
      replace F0 := Lib.hid (shQueue.below F0.out hb (by omega))
      replace AB0 := Lib.hid ((hb.block w.heap.size (by omega)).trans AB0.out)
      replace W0 := Lib.hid (shQueue.below W0.out hb (by omega))
      replace W1 := Lib.hid (shItem.below W1.out hb (by omega))
      replace BW0 := Lib.hid ((hb.block w4.heap.size (by omega)).trans BW0.out)
      replace BW1 := Lib.hid ((hb.block (w4.heap.size + 1) (by omega)).trans BW1.out)
      replace BX0 := Lib.hid ((hb.block w6.heap.size (by omega)).trans BX0.out)
      replace BG0 := Lib.hid ((hb.block w8.heap.size (by omega)).trans BG0.out)
      replace BG1 := Lib.hid ((hb.block (w8.heap.size + 1) (by omega)).trans BG1.out)
      replace G0 := Lib.hid (ownQueue.owns_keep G0.out (.of_below hb fun b o f => by have := (HFG0.out b o f).2; omega))
      replace G1 := Lib.hid (ownItem.owns_keep G1.out (.of_below hb fun b o f => by have := (HFG1.out b o f).2; omega))
      replace T := Lib.hid (T.out.trans (hb.mono (by omega)))
      clear hb
      have hH0 := shQueue.under hr
      obtain ⟨aH0_0, nH0_0, cH0_0, rfl, -⟩ := shQueue_reads.1 hH0
      have H0 := Lib.hid hH0
      clear hr hH0
      have hc := implPop_o _ _ x0 (shQueue.le H0.out (by omega)) (by rw [U0.out]; omega)
      simp only [HV0.out, HV1.out, HV2.out] at hc
      have HC := Lib.hid hc
      clear hc
      go_wp2_with fail
      refine HC.out.mono ?_
      rintro e w24 ⟨eJ0, eJ1, FtJ0, FtJ1, rfl, hr0, hr1, hf0, hf1, hp0_1, hb⟩
      clear HC
      have szw24 := hb.size
      replace F0 := Lib.hid (shQueue.below F0.out hb (by omega))
      replace AB0 := Lib.hid ((hb.block w.heap.size (by omega)).trans AB0.out)
      replace W0 := Lib.hid (shQueue.below W0.out hb (by omega))
      replace W1 := Lib.hid (shItem.below W1.out hb (by omega))
      replace BW0 := Lib.hid ((hb.block w4.heap.size (by omega)).trans BW0.out)
      replace BW1 := Lib.hid ((hb.block (w4.heap.size + 1) (by omega)).trans BW1.out)
      replace BX0 := Lib.hid ((hb.block w6.heap.size (by omega)).trans BX0.out)
      replace BG0 := Lib.hid ((hb.block w8.heap.size (by omega)).trans BG0.out)
      replace BG1 := Lib.hid ((hb.block (w8.heap.size + 1) (by omega)).trans BG1.out)
      replace G0 := Lib.hid (ownQueue.owns_keep G0.out (.of_below hb fun b o f => by have := (HFG0.out b o f).2; omega))
      replace G1 := Lib.hid (ownItem.owns_keep G1.out (.of_below hb fun b o f => by have := (HFG1.out b o f).2; omega))
      replace T := Lib.hid (T.out.trans (hb.mono (by omega)))
      clear hb
      obtain ⟨aJ0_0, nJ0_0, cJ0_0, rfl, -⟩ := ownQueue_owns.1 hr0
      have J0 := Lib.hid hr0
      have HFJ0 : Hid (∀ b o, FtJ0 b o → w23.heap.size ≤ b ∧ b < w24.heap.size) := Lib.hid hf0
      clear hr0 hf0
      obtain ⟨aJ1_0, nJ1_0, cJ1_0, rfl, -⟩ := ownItem_owns.1 hr1
      have J1 := Lib.hid hr1
      have HFJ1 : Hid (∀ b o, FtJ1 b o → w23.heap.size ≤ b ∧ b < w24.heap.size) := Lib.hid hf1
      clear hr1 hf1
      have APJ0_1 := Lib.hid hp0_1
      clear hp0_1
      clear H0
      have hb := ((Below.refl w24.heap.size w24).alloc (Nat.le_refl _) (.cells #[.int .i64 v0.1, .slice aJ0_0 nJ0_0 cJ0_0] 26 (0, 0))).alloc (by simp) (.cells #[.int .i64 v1.1, .slice aJ1_0 nJ1_0 cJ1_0] 29 (0, 0))
      have hk0 : ((w24.alloc (.cells #[.int .i64 v0.1, .slice aJ0_0 nJ0_0 cJ0_0] 26 (0, 0))).alloc (.cells #[.int .i64 v1.1, .slice aJ1_0 nJ1_0 cJ1_0] 29 (0, 0))).heap[w24.heap.size]? = some (.cells #[.int .i64 v0.1, .slice aJ0_0 nJ0_0 cJ0_0] 26 (0, 0)) := by
        rw [Below.heap_alloc _ _ _ (by simp)]
        have := heap_alloc_new w24 (.cells #[.int .i64 v0.1, .slice aJ0_0 nJ0_0 cJ0_0] 26 (0, 0))
        simpa using this
      have hk1 : ((w24.alloc (.cells #[.int .i64 v0.1, .slice aJ0_0 nJ0_0 cJ0_0] 26 (0, 0))).alloc (.cells #[.int .i64 v1.1, .slice aJ1_0 nJ1_0 cJ1_0] 29 (0, 0))).heap[w24.heap.size + 1]? = some (.cells #[.int .i64 v1.1, .slice aJ1_0 nJ1_0 cJ1_0] 29 (0, 0)) := by
        have := heap_alloc_new (w24.alloc (.cells #[.int .i64 v0.1, .slice aJ0_0 nJ0_0 cJ0_0] 26 (0, 0))) (.cells #[.int .i64 v1.1, .slice aJ1_0 nJ1_0 cJ1_0] 29 (0, 0))
        simpa using this
      have szw25 : w24.heap.size + 2 = ((w24.alloc (.cells #[.int .i64 v0.1, .slice aJ0_0 nJ0_0 cJ0_0] 26 (0, 0))).alloc (.cells #[.int .i64 v1.1, .slice aJ1_0 nJ1_0 cJ1_0] 29 (0, 0))).heap.size := by simp
      obtain ⟨w25, hww25⟩ : ∃ W, ((w24.alloc (.cells #[.int .i64 v0.1, .slice aJ0_0 nJ0_0 cJ0_0] 26 (0, 0))).alloc (.cells #[.int .i64 v1.1, .slice aJ1_0 nJ1_0 cJ1_0] 29 (0, 0))) = W := ⟨_, rfl⟩
      rw [hww25] at hb szw25 hk0 hk1
      replace F0 := Lib.hid (shQueue.below F0.out hb (by omega))
      replace AB0 := Lib.hid ((hb.block w.heap.size (by omega)).trans AB0.out)
      replace W0 := Lib.hid (shQueue.below W0.out hb (by omega))
      replace W1 := Lib.hid (shItem.below W1.out hb (by omega))
      replace BW0 := Lib.hid ((hb.block w4.heap.size (by omega)).trans BW0.out)
      replace BW1 := Lib.hid ((hb.block (w4.heap.size + 1) (by omega)).trans BW1.out)
      replace BX0 := Lib.hid ((hb.block w6.heap.size (by omega)).trans BX0.out)
      replace BG0 := Lib.hid ((hb.block w8.heap.size (by omega)).trans BG0.out)
      replace BG1 := Lib.hid ((hb.block (w8.heap.size + 1) (by omega)).trans BG1.out)
      replace G0 := Lib.hid (ownQueue.owns_keep G0.out (.of_below hb fun b o f => by have := (HFG0.out b o f).2; omega))
      replace G1 := Lib.hid (ownItem.owns_keep G1.out (.of_below hb fun b o f => by have := (HFG1.out b o f).2; omega))
      replace J0 := Lib.hid (ownQueue.owns_keep J0.out (.of_below hb fun b o f => by have := (HFJ0.out b o f).2; omega))
      replace J1 := Lib.hid (ownItem.owns_keep J1.out (.of_below hb fun b o f => by have := (HFJ1.out b o f).2; omega))
      replace T := Lib.hid (T.out.trans (hb.mono (by omega)))
      have BJ0 := Lib.hid hk0
      have BJ1 := Lib.hid hk1
      clear hb hk0 hk1
      have HC := Lib.hid (eqQueue_c _ _ _ _ _ v0 (ownQueue.owns_reads (I := Under w24.heap.size) J0.out fun b o f => (HFJ0.out b o f).2) W0.out (by omega) (by omega) vb0)
      have zg_0 := cell_of_row _ w24.heap.size 0 _ _ _ BJ0.out
      have zg_1 := cell_of_row _ w24.heap.size 1 _ _ _ BJ0.out
      simp only [List.getElem?_toArray, List.getElem?_cons_zero, List.getElem?_cons_succ] at zg_0 zg_1
      have zw_0 := cell_of_row _ w4.heap.size 0 _ _ _ BW0.out
      have zw_1 := cell_of_row _ w4.heap.size 1 _ _ _ BW0.out
      simp only [List.getElem?_toArray, List.getElem?_cons_zero, List.getElem?_cons_succ] at zw_0 zw_1
      go_wp2_with fail
      clear hww25
      clear zg_0 zg_1
      clear zw_0 zw_1
      refine HC.out.mono ?_
      rintro e w26 ⟨rfl, hb⟩
      clear HC
      have szw26 := hb.size
      replace F0 := Lib.hid (shQueue.below F0.out hb (by omega))
      replace AB0 := Lib.hid ((hb.block w.heap.size (by omega)).trans AB0.out)
      replace W0 := Lib.hid (shQueue.below W0.out hb (by omega))
      replace W1 := Lib.hid (shItem.below W1.out hb (by omega))
      replace BW0 := Lib.hid ((hb.block w4.heap.size (by omega)).trans BW0.out)
      replace BW1 := Lib.hid ((hb.block (w4.heap.size + 1) (by omega)).trans BW1.out)
      replace BX0 := Lib.hid ((hb.block w6.heap.size (by omega)).trans BX0.out)
      replace BG0 := Lib.hid ((hb.block w8.heap.size (by omega)).trans BG0.out)
      replace BG1 := Lib.hid ((hb.block (w8.heap.size + 1) (by omega)).trans BG1.out)
      replace G0 := Lib.hid (ownQueue.owns_keep G0.out (.of_below hb fun b o f => by have := (HFG0.out b o f).2; omega))
      replace G1 := Lib.hid (ownItem.owns_keep G1.out (.of_below hb fun b o f => by have := (HFG1.out b o f).2; omega))
      replace J0 := Lib.hid (ownQueue.owns_keep J0.out (.of_below hb fun b o f => by have := (HFJ0.out b o f).2; omega))
      replace J1 := Lib.hid (ownItem.owns_keep J1.out (.of_below hb fun b o f => by have := (HFJ1.out b o f).2; omega))
      replace BJ0 := Lib.hid ((hb.block w24.heap.size (by omega)).trans BJ0.out)
      replace BJ1 := Lib.hid ((hb.block (w24.heap.size + 1) (by omega)).trans BJ1.out)
      replace T := Lib.hid (T.out.trans (hb.mono (by omega)))
      clear hb
      have HC := Lib.hid (eqItem_c _ _ _ _ _ v1 (ownItem.owns_reads (I := Under w24.heap.size) J1.out fun b o f => (HFJ1.out b o f).2) W1.out (by omega) (by omega) vb1)
      have zg_0 := cell_of_row _ (w24.heap.size + 1) 0 _ _ _ BJ1.out
      have zg_1 := cell_of_row _ (w24.heap.size + 1) 1 _ _ _ BJ1.out
      simp only [List.getElem?_toArray, List.getElem?_cons_zero, List.getElem?_cons_succ] at zg_0 zg_1
      have zw_0 := cell_of_row _ (w4.heap.size + 1) 0 _ _ _ BW1.out
      have zw_1 := cell_of_row _ (w4.heap.size + 1) 1 _ _ _ BW1.out
      simp only [List.getElem?_toArray, List.getElem?_cons_zero, List.getElem?_cons_succ] at zw_0 zw_1
      go_wp2_with fail
      clear zg_0 zg_1
      clear zw_0 zw_1
      refine HC.out.mono ?_
      rintro e w27 ⟨rfl, hb⟩
      clear HC
      have szw27 := hb.size
      replace F0 := Lib.hid (shQueue.below F0.out hb (by omega))
      replace AB0 := Lib.hid ((hb.block w.heap.size (by omega)).trans AB0.out)
      replace W0 := Lib.hid (shQueue.below W0.out hb (by omega))
      replace W1 := Lib.hid (shItem.below W1.out hb (by omega))
      replace BW0 := Lib.hid ((hb.block w4.heap.size (by omega)).trans BW0.out)
      replace BW1 := Lib.hid ((hb.block (w4.heap.size + 1) (by omega)).trans BW1.out)
      replace BX0 := Lib.hid ((hb.block w6.heap.size (by omega)).trans BX0.out)
      replace BG0 := Lib.hid ((hb.block w8.heap.size (by omega)).trans BG0.out)
      replace BG1 := Lib.hid ((hb.block (w8.heap.size + 1) (by omega)).trans BG1.out)
      replace G0 := Lib.hid (ownQueue.owns_keep G0.out (.of_below hb fun b o f => by have := (HFG0.out b o f).2; omega))
      replace G1 := Lib.hid (ownItem.owns_keep G1.out (.of_below hb fun b o f => by have := (HFG1.out b o f).2; omega))
      replace J0 := Lib.hid (ownQueue.owns_keep J0.out (.of_below hb fun b o f => by have := (HFJ0.out b o f).2; omega))
      replace J1 := Lib.hid (ownItem.owns_keep J1.out (.of_below hb fun b o f => by have := (HFJ1.out b o f).2; omega))
      replace BJ0 := Lib.hid ((hb.block w24.heap.size (by omega)).trans BJ0.out)
      replace BJ1 := Lib.hid ((hb.block (w24.heap.size + 1) (by omega)).trans BJ1.out)
      replace T := Lib.hid (T.out.trans (hb.mono (by omega)))
      clear hb
      have hc := heldQueue_o _ w8.heap.size _ v0 (1) (ownQueue.owns_reads (I := Under w8.heap.size) G0.out fun b o f => (HFG0.out b o f).2) (by omega) vb0 (by omega) (by rw [KV0.out]; omega)
      rw [KV0.out] at hc
      have HC := Lib.hid hc
      clear hc
      have zg_0 := cell_of_row _ w8.heap.size 0 _ _ _ BG0.out
      have zg_1 := cell_of_row _ w8.heap.size 1 _ _ _ BG0.out
      simp only [List.getElem?_toArray, List.getElem?_cons_zero, List.getElem?_cons_succ] at zg_0 zg_1
      go_wp2_with fail
      clear zg_0 zg_1
      refine HC.out.mono ?_
      rintro e w28 ⟨rfl, hb⟩
      clear HC
      have szw28 := hb.size
      replace F0 := Lib.hid (shQueue.below F0.out hb (by omega))
      replace AB0 := Lib.hid ((hb.block w.heap.size (by omega)).trans AB0.out)
      replace W0 := Lib.hid (shQueue.below W0.out hb (by omega))
      replace W1 := Lib.hid (shItem.below W1.out hb (by omega))
      replace BW0 := Lib.hid ((hb.block w4.heap.size (by omega)).trans BW0.out)
      replace BW1 := Lib.hid ((hb.block (w4.heap.size + 1) (by omega)).trans BW1.out)
      replace BX0 := Lib.hid ((hb.block w6.heap.size (by omega)).trans BX0.out)
      replace BG0 := Lib.hid ((hb.block w8.heap.size (by omega)).trans BG0.out)
      replace BG1 := Lib.hid ((hb.block (w8.heap.size + 1) (by omega)).trans BG1.out)
      replace G0 := Lib.hid (ownQueue.owns_keep G0.out (.of_below hb fun b o f => by have := (HFG0.out b o f).2; omega))
      replace G1 := Lib.hid (ownItem.owns_keep G1.out (.of_below hb fun b o f => by have := (HFG1.out b o f).2; omega))
      replace J0 := Lib.hid (ownQueue.owns_keep J0.out (.of_below hb fun b o f => by have := (HFJ0.out b o f).2; omega))
      replace J1 := Lib.hid (ownItem.owns_keep J1.out (.of_below hb fun b o f => by have := (HFJ1.out b o f).2; omega))
      replace BJ0 := Lib.hid ((hb.block w24.heap.size (by omega)).trans BJ0.out)
      replace BJ1 := Lib.hid ((hb.block (w24.heap.size + 1) (by omega)).trans BJ1.out)
      replace T := Lib.hid (T.out.trans (hb.mono (by omega)))
      clear hb
      have hc := heldItem_o _ w8.heap.size _ v1 (1 + (kv0 : Int)) (ownItem.owns_reads (I := Under w8.heap.size) G1.out fun b o f => (HFG1.out b o f).2) (by omega) vb1 (by omega) (by rw [KV1.out]; omega)
      rw [KV1.out] at hc
      have HC := Lib.hid hc
      clear hc
      have zg_0 := cell_of_row _ (w8.heap.size + 1) 0 _ _ _ BG1.out
      have zg_1 := cell_of_row _ (w8.heap.size + 1) 1 _ _ _ BG1.out
      simp only [List.getElem?_toArray, List.getElem?_cons_zero, List.getElem?_cons_succ] at zg_0 zg_1
      go_wp2_with fail
      clear zg_0 zg_1
      refine HC.out.mono ?_
      rintro e w29 ⟨rfl, hb⟩
      clear HC
      have szw29 := hb.size
      replace F0 := Lib.hid (shQueue.below F0.out hb (by omega))
      replace AB0 := Lib.hid ((hb.block w.heap.size (by omega)).trans AB0.out)
      replace W0 := Lib.hid (shQueue.below W0.out hb (by omega))
      replace W1 := Lib.hid (shItem.below W1.out hb (by omega))
      replace BW0 := Lib.hid ((hb.block w4.heap.size (by omega)).trans BW0.out)
      replace BW1 := Lib.hid ((hb.block (w4.heap.size + 1) (by omega)).trans BW1.out)
      replace BX0 := Lib.hid ((hb.block w6.heap.size (by omega)).trans BX0.out)
      replace BG0 := Lib.hid ((hb.block w8.heap.size (by omega)).trans BG0.out)
      replace BG1 := Lib.hid ((hb.block (w8.heap.size + 1) (by omega)).trans BG1.out)
      replace G0 := Lib.hid (ownQueue.owns_keep G0.out (.of_below hb fun b o f => by have := (HFG0.out b o f).2; omega))
      replace G1 := Lib.hid (ownItem.owns_keep G1.out (.of_below hb fun b o f => by have := (HFG1.out b o f).2; omega))
      replace J0 := Lib.hid (ownQueue.owns_keep J0.out (.of_below hb fun b o f => by have := (HFJ0.out b o f).2; omega))
      replace J1 := Lib.hid (ownItem.owns_keep J1.out (.of_below hb fun b o f => by have := (HFJ1.out b o f).2; omega))
      replace BJ0 := Lib.hid ((hb.block w24.heap.size (by omega)).trans BJ0.out)
      replace BJ1 := Lib.hid ((hb.block (w24.heap.size + 1) (by omega)).trans BJ1.out)
      replace T := Lib.hid (T.out.trans (hb.mono (by omega)))
      clear hb
      go_wp2_with fail
      go_ret
      exact ⟨rfl, T.out⟩
  · have hk0 : (w.alloc (.cells #[.int .i64 x0.1, .slice a0_0 n0_0 c0_0] 42 (0, 0))).heap[w.heap.size]? = some (.cells #[.int .i64 x0.1, .slice a0_0 n0_0 c0_0] 42 (0, 0)) := by
      have := heap_alloc_new w (.cells #[.int .i64 x0.1, .slice a0_0 n0_0 c0_0] 42 (0, 0))
      simpa using this
    have hb := (Below.refl w.heap.size w).alloc (Nat.le_refl _) (.cells #[.int .i64 x0.1, .slice a0_0 n0_0 c0_0] 42 (0, 0))
    have szw1 : w.heap.size + 1 = (w.alloc (.cells #[.int .i64 x0.1, .slice a0_0 n0_0 c0_0] 42 (0, 0))).heap.size := by simp
    go_enter Try.func6, Try.ntmps6
    go_wp2_with fail
    generalize (w.alloc (.cells #[.int .i64 x0.1, .slice a0_0 n0_0 c0_0] 42 (0, 0))) = w1 at hb szw1 hk0 ⊢
    replace F0 := Lib.hid (shQueue.below F0.out hb (by omega))
    replace T := Lib.hid (T.out.trans (hb.mono (by omega)))
    have AB0 := Lib.hid hk0
    clear hb hk0
    have hc := szQueue_c _ _ _ x0 (1048576) F0.out (by omega) (by omega) (by omega)
    rw [U0.out, szN_no (by omega)] at hc
    have HC := Lib.hid hc
    clear hc
    refine HC.out.mono ?_
    rintro e w2 ⟨rfl, hb⟩
    clear HC
    have szw2 := hb.size
    replace F0 := Lib.hid (shQueue.below F0.out hb (by omega))
    replace AB0 := Lib.hid ((hb.block w.heap.size (by omega)).trans AB0.out)
    replace T := Lib.hid (T.out.trans (hb.mono (by omega)))
    clear hb
    go_wp2_with fail
    go_ret
    exact ⟨rfl, T.out⟩
end Go.Proofs.Ytdoofapjhgahgaa
