import Derived.Test.YtkmcfbopilieeaaGreatDoorJoin29
import Derived.Test.YtkmcfbopilieeaaGreatDoorJoin34
import Derived.Test.YtkmcfbopilieeaaGreatDoorJoin16
import Derived.Test.YtkmcfbopilieeaaGreatDoorJoin8
import Derived.Deep.QuietTactic
import Derived.BigQuiet
import Derived.Deep.RegionLaw
/-! YtkmcfbopilieeaaGreatDoorSeqG -/
section

namespace Go.Proofs.YtkmcfbopilieeaaGreatDoor
open Go.RowKit Go.Sort
set_option linter.unusedVariables false

theorem batch_one {m : List dOp} {p : dPair} (h : batchOkB m [p] = true) : modelOkB m = true ∧ 1 ≤ p.1.length ∧ p.1.length ≤ 6 ∧ p.2.length ≤ 6 := by
  unfold batchOkB pairOkB at h
  simp only [Bool.and_eq_true, List.all_cons, List.all_nil, and_true] at h
  have h1 := h.2.1.1.1
  have h2 := h.2.1.1.2
  unfold vecOkB at h1 h2
  simp only [Bool.and_eq_true, decide_eq_true_eq] at h1 h2
  exact ⟨h.1.1, h1.1.1, h1.1.2, h2.1.2⟩
set_option maxRecDepth 100000 in
set_option maxHeartbeats 6400000 in
theorem specMicroGrads_o (w : World) (es : List Value) (m : dModel) (h : shModel.reads (Under w.heap.size) w es m) (hb : shModel.bulk m ≤ 1048576) (q : List Value) (p : dPair) (hq : shPair.reads (Under w.heap.size) w q p) (hb' : shPair.bulk p ≤ 1048576) :
    Calls Tryz.prog 37 #[.agg es.toArray, .agg q.toArray] w fun e w' => ∃ es', e = .returned (.agg es'.toArray) ∧ shGrads.reads (From w.heap.size w'.heap.size) w' es' (microG m p) ∧ Below w.heap.size w w' := by
  obtain ⟨a, n, c, rfl, hc1, hc2, hl⟩ := shModel_reads.1 h
  obtain ⟨ax, nx, cx, at', nt, ct, rfl, ⟨gx, lx, mx⟩, ⟨gt, lt', mt⟩⟩ := shPair_reads.1 hq
  have hlen := hl.1
  rw [shPair_bulk, bulk_ints, bulk_ints] at hb'
  have hal3 : Below w.heap.size w (((w.alloc (.cells #[.slice a n c] 26 (0, 0))).alloc (.cells #[.slice ax nx cx, .slice at' nt ct] 47 (0, 0))).alloc (.cells #[.slice none 0 0, .int .i64 0, .bool false] 32 (0, 0))) := (((Below.refl _ _).alloc (Nat.le_refl _) _).alloc (by simp) _).alloc (by simp; omega) _
  have hA : (((w.alloc (.cells #[.slice a n c] 26 (0, 0))).alloc (.cells #[.slice ax nx cx, .slice at' nt ct] 47 (0, 0))).alloc (.cells #[.slice none 0 0, .int .i64 0, .bool false] 32 (0, 0))).heap[w.heap.size]? = some (.cells #[.slice a n c] 26 (0, 0)) := by
    rw [Below.heap_alloc _ _ _ (by simp; try omega), Below.heap_alloc _ _ _ (by simp)]
    exact heap_alloc_new w _
  have hB : (((w.alloc (.cells #[.slice a n c] 26 (0, 0))).alloc (.cells #[.slice ax nx cx, .slice at' nt ct] 47 (0, 0))).alloc (.cells #[.slice none 0 0, .int .i64 0, .bool false] 32 (0, 0))).heap[w.heap.size + 1]? = some (.cells #[.slice ax nx cx, .slice at' nt ct] 47 (0, 0)) := by
    rw [Below.heap_alloc _ _ _ (by simp)]
    have := heap_alloc_new (w.alloc (.cells #[.slice a n c] 26 (0, 0))) (.cells #[.slice ax nx cx, .slice at' nt ct] 47 (0, 0))
    simpa using this
  have hZ : (((w.alloc (.cells #[.slice a n c] 26 (0, 0))).alloc (.cells #[.slice ax nx cx, .slice at' nt ct] 47 (0, 0))).alloc (.cells #[.slice none 0 0, .int .i64 0, .bool false] 32 (0, 0))).heap[w.heap.size + 1 + 1]? = some (.cells #[.slice none 0 0, .int .i64 0, .bool false] 32 (0, 0)) := by
    have := heap_alloc_new ((w.alloc (.cells #[.slice a n c] 26 (0, 0))).alloc (.cells #[.slice ax nx cx, .slice at' nt ct] 47 (0, 0))) (.cells #[.slice none 0 0, .int .i64 0, .bool false] 32 (0, 0))
    simpa using this
  have hsz3 : (((w.alloc (.cells #[.slice a n c] 26 (0, 0))).alloc (.cells #[.slice ax nx cx, .slice at' nt ct] 47 (0, 0))).alloc (.cells #[.slice none 0 0, .int .i64 0, .bool false] 32 (0, 0))).heap.size = w.heap.size + 3 := by simp
  have HL := Lib.hid hl
  have HX := Lib.hid (mx.ints (by have := mx.1; omega))
  have HT := Lib.hid (mt.ints (by have := mt.1; omega))
  have hxl := mx.1
  have htl := mt.1
  have HBM := Lib.hid hb
  have HA := Lib.hid hA
  have HB := Lib.hid hB
  have HZ := Lib.hid hZ
  have H3 := Lib.hid hal3
  obtain ⟨k, hk⟩ : ∃ k, batchOkB m [p] = k := ⟨_, rfl⟩
  have HK := Lib.hid hk
  have HMX := Lib.hid mx
  have HMT := Lib.hid mt
  go_enter Tryz.func37, Tryz.ntmps37
  clear h hq hl hb hA hB hZ hal3 hk mx mt
  go_wp2_with fail
  generalize hw3 : ((w.alloc (.cells #[.slice a n c] 26 (0, 0))).alloc (.cells #[.slice ax nx cx, .slice at' nt ct] 47 (0, 0))).alloc (.cells #[.slice none 0 0, .int .i64 0, .bool false] 32 (0, 0)) = w3 at HA HB HZ H3 hsz3 ⊢
  clear hw3
  have hp4 : Below w3.heap.size w3 (w3.alloc (.cells #[.slice ax nx cx, .slice at' nt ct] 47 (0, 0))) := (Below.refl _ _).alloc (Nat.le_refl _) _
  have hbk : w3.heap.size + 1 = (w3.alloc (.cells #[.slice ax nx cx, .slice at' nt ct] 47 (0, 0))).heap.size := by simp
  have hnew := heap_alloc_new w3 (.cells #[.slice ax nx cx, .slice at' nt ct] 47 (0, 0))
  rw [hsz3] at hnew
  have hLP : ListAt shPair (Under (w3.alloc (.cells #[.slice ax nx cx, .slice at' nt ct] 47 (0, 0))).heap.size) (w3.alloc (.cells #[.slice ax nx cx, .slice at' nt ct] 47 (0, 0))) (some ⟨w.heap.size + 3, 0, none⟩) 1 [p] := by
    refine ⟨rfl, fun j x hx => ?_⟩
    cases j with
    | zero =>
      simp at hx
      subst hx
      refine ⟨w.heap.size + 3, 0, [.slice ax nx cx, .slice at' nt ct], rfl, by show _ < _; omega, fun i v hv => ?_, shPair_reads.2 ⟨_, _, _, _, _, _, rfl, ⟨gx, lx, ?_⟩, ⟨gt, lt', ?_⟩⟩⟩
      · rw [cell_of_row _ _ _ _ _ _ hnew]
        simpa using hv
      · exact ((HMX.out.below H3.out (Nat.le_refl _)).below (hp4.mono (by omega)) (Nat.le_refl _)).le (by omega)
      · exact ((HMT.out.below H3.out (Nat.le_refl _)).below (hp4.mono (by omega)) (Nat.le_refl _)).le (by omega)
    | succ j => simp at hx
  have h4 : Below w.heap.size w (w3.alloc (.cells #[.slice ax nx cx, .slice at' nt ct] 47 (0, 0))) := H3.out.trans (hp4.mono H3.out.size)
  have hC := specBatchOk_c (w3.alloc (.cells #[.slice ax nx cx, .slice at' nt ct] 47 (0, 0))) a n c m ((HL.out.below h4 (Nat.le_refl _)).le h4.size) hc1 hc2 HBM.out (some ⟨w.heap.size + 3, 0, none⟩) 1 1 [p] hLP (by
    show 1 + (shPair.bulk p + 0) ≤ 1048577
    rw [shPair_bulk, bulk_ints, bulk_ints]
    omega)
  rw [HK.out] at hC
  refine hC.mono ?_
  rintro e w5 ⟨rfl, hb5⟩
  have h35 : Below w3.heap.size w3 w5 := hp4.trans (hb5.mono hp4.size)
  have h5 := Lib.hid (H3.out.trans (h35.mono H3.out.size))
  have hA5 := (h35.block w.heap.size (by omega)).trans HA.out
  have hB5 := (h35.block (w.heap.size + 1) (by omega)).trans HB.out
  have hZ5 := (h35.block (w.heap.size + 1 + 1) (by omega)).trans HZ.out
  have hs5 : w.heap.size + 3 ≤ w5.heap.size := by have := h35.size; omega
  have HA5 := Lib.hid hA5
  have HB5 := Lib.hid hB5
  have HZ5 := Lib.hid hZ5
  clear hC hLP hp4 hbk hnew h4 hb5 h35 hA5 hB5 hZ5 HA HB HZ hsz3
  have z0 := box1 HA5.out
  have y0 : w5.cell? ⟨w.heap.size + 1, 0, none⟩ = some (.slice ax nx cx) := by rw [cell_of_row _ _ _ _ _ _ HB5.out]; rfl
  have y1 : w5.cell? ⟨w.heap.size + 1, 1, none⟩ = some (.slice at' nt ct) := by rw [cell_of_row _ _ _ _ _ _ HB5.out]; rfl
  obtain ⟨⟨d0, d1, d2⟩, f0, f1, f2⟩ := cellsG HZ5.out
  cases k
  · go_wp2_with fail
    refine bodyPost_ret (results_cell_row rfl _ _ (w.heap.size + 1 + 1) 32 #[.slice none 0 0, .int .i64 0, .bool false] (0, 0) _ rfl (store3 HZ5.out _ _ _) Tryz.underlying32 rfl (by kernel_rfl)) rfl ?_
    refine ⟨[.slice none 0 0, .int .i64 0, .bool false], rfl, ?_, ((h5.out.setCell (p := ⟨w.heap.size + 1 + 1, 0, none⟩) (by show _ ≤ w.heap.size + 1 + 1; omega) _).setCell (p := ⟨w.heap.size + 1 + 1, 1, none⟩) (by show _ ≤ w.heap.size + 1 + 1; omega) _).setCell (p := ⟨w.heap.size + 1 + 1, 2, none⟩) (by show _ ≤ w.heap.size + 1 + 1; omega) _⟩
    have hmg : microG m p = dNone := by unfold microG; rw [HK.out]; rfl
    rw [hmg]
    exact shGrads_reads.2 ⟨none, 0, 0, rfl, Nat.le_refl _, by omega, rfl, fun j x hx => by simp [dNone] at hx⟩
  · obtain ⟨hm, hx1, hx6, ht6⟩ := batch_one HK.out
    obtain ⟨-, hm1, hm8⟩ := modelOk_has hm
    rw [hlen] at hm1 hm8
    have hC := specL7Inputs_any w5 a n c m ((HL.out.below h5.out (Nat.le_refl _)).le h5.out.size) HBM.out ax nx cx p.1 ((HX.out.below h5.out (Nat.le_refl _)).le h5.out.size) (by omega) (by omega)
    have HC := Lib.hid hC
    clear hC
    go_wp2_with fail
    refine HC.out.mono ?_
    rintro e w6 ⟨v, rfl, hli, hb6⟩
    have hl6 := ListL.list hli (by decide)
    obtain ⟨ai, ci, rfl, hci1, hci2, hown⟩ := hl6
    rw [listK_length] at hci1 hown
    have hil := listK_length (inK m p.1) (n + 1)
    rw [hil] at hli ⊢
    obtain ⟨gi, ay, ny, cy, rfl, hj1, hg1, hg2, cgi, iy⟩ := hli.at n (inK m p.1 n) (listK_get _ _ _ (by omega)) (by have := (show (inK m p.1 n).length ≤ 6 from by cases n with | zero => omega | succ n => exact fwOp_length _ _); omega)
    have hs6 := hb6.size
    have h6 := Lib.hid (h5.out.trans (hb6.mono h5.out.size))
    have hA6 := (hb6.block w.heap.size (by omega)).trans HA5.out
    have hB6 := (hb6.block (w.heap.size + 1) (by omega)).trans HB5.out
    have hZ6 := (hb6.block (w.heap.size + 1 + 1) (by omega)).trans HZ5.out
    have HA6 := Lib.hid hA6
    have HB6 := Lib.hid hB6
    have HZ6 := Lib.hid hZ6
    have HIN := Lib.hid (hown.listAt (I := Under w6.heap.size) (fun b o f => f.2) (by decide))
    have HIY := Lib.hid iy
    obtain ⟨Y, hY⟩ : ∃ Y, inK m p.1 n = Y := ⟨_, rfl⟩
    have hYl : Y.length ≤ 6 := by rw [← hY]; cases n with | zero => omega | succ n => exact fwOp_length _ _
    have HY := Lib.hid hY
    rw [hY] at iy
    have hCL := Lib.hid fun (w7 : World) (hb7 : Below w6.heap.size w6 w7) => specLossOf_any w7 ay ny cy Y at' nt ct p.2 ((iy.below hb7 (Nat.le_refl _)).le hb7.size) ((HT.out.below (h6.out.trans (hb7.mono h6.out.size)) (Nat.le_refl _)).le (Nat.le_trans h6.out.size hb7.size))
    have hCV := Lib.hid fun (w7 : World) (hb7 : Below w6.heap.size w6 w7) => specVecSub_any w7 ay ny cy Y at' nt ct p.2 ((iy.below hb7 (Nat.le_refl _)).le hb7.size) ((HT.out.below (h6.out.trans (hb7.mono h6.out.size)) (Nat.le_refl _)).le (Nat.le_trans h6.out.size hb7.size))
    obtain ⟨LN, hLN⟩ : ∃ L, lossN Y p.2 = L := ⟨_, rfl⟩
    obtain ⟨LB, hLB⟩ : ∃ L, lossB Y p.2 = L := ⟨_, rfl⟩
    obtain ⟨DD, hDD⟩ : ∃ L, rowP subN Y p.2 = L := ⟨_, rfl⟩
    obtain ⟨DB, hDB⟩ : ∃ L, flagP subB Y p.2 = L := ⟨_, rfl⟩
    obtain ⟨IB, hIB⟩ : ∃ L, inKB m p.1 n = L := ⟨_, rfl⟩
    obtain ⟨BB, hBB⟩ : ∃ L, backKB m p.1 DD n = L := ⟨_, rfl⟩
    have hmg : microG m p = (gradsN m p.1 DD, LN, IB || LB || DB || BB) := by
      unfold microG
      rw [HK.out, if_pos rfl, hlen, hY, hLN, hLB, hDD, hDB, hIB, hBB]
    have HMG := Lib.hid hmg
    have hdl : DD.length ≤ 6 := by rw [← hDD]; have := rowP_length subN Y p.2; omega
    rw [Hid] at hCL hCV
    simp only [hLN, hLB] at hCL
    simp only [hDD, hDB] at hCV
    rw [hIB]
    have HCL := Lib.hid hCL
    have HCV := Lib.hid hCV
    have hin : ∀ j, j < n → (listK (inK m p.1) (n + 1))[j]? = some (inK m p.1 j) := fun j hj => listK_get _ _ _ (by omega)
    have HJ := Lib.hid hin
    have HBB := Lib.hid hBB
    clear z0 y0 y1 d0 d1 d2 f0 f1 f2 hCL hCV hmg hA6 hB6 hZ6 iy hown hli hb6 hY hLN hLB hDD hDB hIB hBB hin HC
    have z0 := box1 HA6.out
    have y0 : w6.cell? ⟨w.heap.size + 1, 0, none⟩ = some (.slice ax nx cx) := by rw [cell_of_row _ _ _ _ _ _ HB6.out]; rfl
    have y1 : w6.cell? ⟨w.heap.size + 1, 1, none⟩ = some (.slice at' nt ct) := by rw [cell_of_row _ _ _ _ _ _ HB6.out]; rfl
    have hix : wrap64 (((n + 1 : Nat) : Int) - 1) = (n : Int) := by rw [IntWalk.wrap64_in _ (by omega)]; omega
    have hix2 : wrap64 ((n : Int) + 1 - 1) = (n : Int) := by rw [IntWalk.wrap64_in _ (by omega)]; omega
    have hix3 : (n : Int) < (n : Int) + 1 := by omega
    go_wp2_with fail
    refine (HCL.out w6 (Below.refl _ _)).mono ?_
    rintro e w7 ⟨rfl, hb7⟩
    have hs7 := hb7.size
    have H7 := Lib.hid hb7
    have z7 := box1 ((hb7.block w.heap.size (by omega)).trans HA6.out)
    have x7 : w7.cell? ⟨w.heap.size + 1, 0, none⟩ = some (.slice ax nx cx) := by rw [cell_of_row _ _ _ _ _ _ ((hb7.block (w.heap.size + 1) (by omega)).trans HB6.out)]; rfl
    have y7 : w7.cell? ⟨w.heap.size + 1, 1, none⟩ = some (.slice at' nt ct) := by rw [cell_of_row _ _ _ _ _ _ ((hb7.block (w.heap.size + 1) (by omega)).trans HB6.out)]; rfl
    clear z0 y0 y1 hb7
    go_wp2_with fail
    refine (HCV.out w7 H7.out).mono ?_
    rintro e w8 ⟨vd, rfl, hrd, hb8⟩
    have hb68 := H7.out.trans (hb8.mono H7.out.size)
    have hs8 := hb68.size
    obtain ⟨a8, c8, rfl, hi8⟩ := hrd.form
    obtain ⟨n8, hn8⟩ : ∃ q, DD.length = q := ⟨_, rfl⟩
    have h8 := h6.out.trans (hb68.mono h6.out.size)
    have hC := specL7Back_any w8 a n c m ((HL.out.below h8 (Nat.le_refl _)).le h8.size) HBM.out (some ⟨gi, 0, none⟩) (n + 1) ci (listK (inK m p.1) (n + 1)) ((HIN.out.below hb68 (Nat.le_refl _)).le hb68.size) p.1 HJ.out (by omega) a8 n8 c8 DD (by have := hi8 (by omega); rwa [hn8] at this) hm1 hm8
    rw [HBB.out] at hC
    have HC := Lib.hid hC
    have H8 := Lib.hid h8
    have HZ8 := Lib.hid ((hb68.block (w.heap.size + 1 + 1) (by omega)).trans HZ6.out)
    have z8 := box1 ((hb68.block w.heap.size (by omega)).trans HA6.out)
    rw [hn8]
    clear z7 x7 y7 hb8 hb68 h8 hrd hi8 hC hn8
    go_wp2_with fail
    refine HC.out.mono ?_
    rintro e w9 ⟨v, u, rfl, hli, hb9⟩
    obtain ⟨av, cv, rfl, hcv1, hcv2⟩ := hli.form
    have hgl : (gradsN m p.1 DD).length = n := by unfold gradsN; rw [listK_length, hlen]
    rw [hgl] at hli hcv1 ⊢
    have hs9 := hb9.size
    have h9 := Lib.hid (H8.out.trans (hb9.mono H8.out.size))
    have HZ9 := Lib.hid ((hb9.block (w.heap.size + 1 + 1) (by omega)).trans HZ8.out)
    obtain ⟨⟨d0, d1, d2⟩, f0, f1, f2⟩ := cellsG HZ9.out
    have HLI := Lib.hid hli
    have hend : ∀ ob : Bool, (IB || LB || DB || BB) = ob → shGrads.reads (From w.heap.size (((w9.setCell ⟨w.heap.size + 1 + 1, 0, none⟩ (.slice av n cv)).setCell ⟨w.heap.size + 1 + 1, 1, none⟩ (.int .i64 LN)).setCell ⟨w.heap.size + 1 + 1, 2, none⟩ (.bool ob)).heap.size) (((w9.setCell ⟨w.heap.size + 1 + 1, 0, none⟩ (.slice av n cv)).setCell ⟨w.heap.size + 1 + 1, 1, none⟩ (.int .i64 LN)).setCell ⟨w.heap.size + 1 + 1, 2, none⟩ (.bool ob)) [.slice av n cv, .int .i64 LN, .bool ob] (microG m p) := fun ob hob => by
      have hfin := ((HLI.out.stored (w.heap.size + 1 + 1) 0 (.slice av n cv) (by omega)).stored (w.heap.size + 1 + 1) 1 (.int .i64 LN) (by omega)).stored (w.heap.size + 1 + 1) 2 (.bool ob) (by omega)
      obtain ⟨a', cap, e1, e2, e3, e4⟩ := hfin.list (by decide)
      rw [hgl] at e1 e2 e4
      cases e1
      rw [HMG.out, hob]
      exact shGrads_reads.2 ⟨_, _, _, rfl, e2, e3, e4.listAt (fun b o f => ⟨by have := f.1; omega, by have := f.2; simpa using this⟩) (by decide)⟩
    have HEND := Lib.hid hend
    clear z8 hli hb9 hend hgl HC HCL HCV HIN HIY HJ
    cases IB
    · cases LB
      · cases DB
        · go_wp2_with fail
          refine bodyPost_ret (results_cell_row rfl _ _ (w.heap.size + 1 + 1) 32 #[.slice av n cv, .int .i64 LN, .bool BB] (0, 0) _ rfl (store3 HZ9.out _ _ _) Tryz.underlying32 rfl (by kernel_rfl)) rfl ?_
          exact ⟨[.slice av n cv, .int .i64 LN, .bool BB], rfl, HEND.out BB rfl, ((h9.out.setCell (p := ⟨w.heap.size + 1 + 1, 0, none⟩) (by show _ ≤ w.heap.size + 1 + 1; omega) _).setCell (p := ⟨w.heap.size + 1 + 1, 1, none⟩) (by show _ ≤ w.heap.size + 1 + 1; omega) _).setCell (p := ⟨w.heap.size + 1 + 1, 2, none⟩) (by show _ ≤ w.heap.size + 1 + 1; omega) _⟩
        · go_wp2_with fail
          refine bodyPost_ret (results_cell_row rfl _ _ (w.heap.size + 1 + 1) 32 #[.slice av n cv, .int .i64 LN, .bool true] (0, 0) _ rfl (store3 HZ9.out _ _ _) Tryz.underlying32 rfl (by kernel_rfl)) rfl ?_
          exact ⟨[.slice av n cv, .int .i64 LN, .bool true], rfl, HEND.out true rfl, ((h9.out.setCell (p := ⟨w.heap.size + 1 + 1, 0, none⟩) (by show _ ≤ w.heap.size + 1 + 1; omega) _).setCell (p := ⟨w.heap.size + 1 + 1, 1, none⟩) (by show _ ≤ w.heap.size + 1 + 1; omega) _).setCell (p := ⟨w.heap.size + 1 + 1, 2, none⟩) (by show _ ≤ w.heap.size + 1 + 1; omega) _⟩
      · go_wp2_with fail
        refine bodyPost_ret (results_cell_row rfl _ _ (w.heap.size + 1 + 1) 32 #[.slice av n cv, .int .i64 LN, .bool true] (0, 0) _ rfl (store3 HZ9.out _ _ _) Tryz.underlying32 rfl (by kernel_rfl)) rfl ?_
        exact ⟨[.slice av n cv, .int .i64 LN, .bool true], rfl, HEND.out true rfl, ((h9.out.setCell (p := ⟨w.heap.size + 1 + 1, 0, none⟩) (by show _ ≤ w.heap.size + 1 + 1; omega) _).setCell (p := ⟨w.heap.size + 1 + 1, 1, none⟩) (by show _ ≤ w.heap.size + 1 + 1; omega) _).setCell (p := ⟨w.heap.size + 1 + 1, 2, none⟩) (by show _ ≤ w.heap.size + 1 + 1; omega) _⟩
    · go_wp2_with fail
      refine bodyPost_ret (results_cell_row rfl _ _ (w.heap.size + 1 + 1) 32 #[.slice av n cv, .int .i64 LN, .bool true] (0, 0) _ rfl (store3 HZ9.out _ _ _) Tryz.underlying32 rfl (by kernel_rfl)) rfl ?_
      exact ⟨[.slice av n cv, .int .i64 LN, .bool true], rfl, HEND.out true rfl, ((h9.out.setCell (p := ⟨w.heap.size + 1 + 1, 0, none⟩) (by show _ ≤ w.heap.size + 1 + 1; omega) _).setCell (p := ⟨w.heap.size + 1 + 1, 1, none⟩) (by show _ ≤ w.heap.size + 1 + 1; omega) _).setCell (p := ⟨w.heap.size + 1 + 1, 2, none⟩) (by show _ ≤ w.heap.size + 1 + 1; omega) _⟩
end Go.Proofs.YtkmcfbopilieeaaGreatDoor

end

/-! YtkmcfbopilieeaaGreatDoorSeqA -/
section

namespace Go.Proofs.YtkmcfbopilieeaaGreatDoor
open Go.RowKit Go.Sort
set_option linter.unusedVariables false

/-- Four boxes that a call lays ahead. -/
structure Four (w wr : World) (A B Z O : Array Value) (TA TB T : TypeId) : Prop where
  below : Below w.heap.size w wr
  size : w.heap.size + 4 ≤ wr.heap.size
  a : wr.heap[w.heap.size]? = some (.cells A TA (0, 0))
  b : wr.heap[w.heap.size + 1]? = some (.cells B TB (0, 0))
  z : wr.heap[w.heap.size + 1 + 1]? = some (.cells Z T (0, 0))
  o : wr.heap[w.heap.size + 1 + 1 + 1]? = some (.cells O T (0, 0))
theorem Four.start (w : World) (A B Z O : Array Value) (TA TB T : TypeId) : Four w ((((w.alloc (.cells A TA (0, 0))).alloc (.cells B TB (0, 0))).alloc (.cells Z T (0, 0))).alloc (.cells O T (0, 0))) A B Z O TA TB T where
  below := ((((Below.refl _ _).alloc (Nat.le_refl _) _).alloc (by simp) _).alloc (by simp; omega) _).alloc (by simp; omega) _
  size := by simp
  a := by
    rw [Below.heap_alloc _ _ _ (by simp; try omega), Below.heap_alloc _ _ _ (by simp; try omega), Below.heap_alloc _ _ _ (by simp)]
    exact heap_alloc_new w _
  b := by
    rw [Below.heap_alloc _ _ _ (by simp; try omega), Below.heap_alloc _ _ _ (by simp)]
    have := heap_alloc_new (w.alloc (.cells A TA (0, 0))) (.cells B TB (0, 0))
    simpa using this
  z := by
    rw [Below.heap_alloc _ _ _ (by simp)]
    have := heap_alloc_new ((w.alloc (.cells A TA (0, 0))).alloc (.cells B TB (0, 0))) (.cells Z T (0, 0))
    simpa using this
  o := by
    have := heap_alloc_new (((w.alloc (.cells A TA (0, 0))).alloc (.cells B TB (0, 0))).alloc (.cells Z T (0, 0))) (.cells O T (0, 0))
    simpa using this
theorem Four.far {w w1 w4 : World} {A B Z O : Array Value} {TA TB T : TypeId} (h : Four w w1 A B Z O TA TB T) (hb : Below (w.heap.size + 4) w1 w4) : Four w w4 A B Z O TA TB T :=
  ⟨h.below.trans (hb.mono (by omega)), Nat.le_trans h.size hb.size, (hb.block _ (by omega)).trans h.a, (hb.block _ (by omega)).trans h.b, (hb.block _ (by omega)).trans h.z, (hb.block _ (by omega)).trans h.o⟩
theorem Four.call {w w1 w4 : World} {A B Z O : Array Value} {TA TB T : TypeId} (h : Four w w1 A B Z O TA TB T) (hb : Below w1.heap.size w1 w4) : Four w w4 A B Z O TA TB T := h.far (hb.mono h.size)
theorem Four.store {w wr : World} {A B Z O : Array Value} {TA TB T : TypeId} (h : Four w wr A B Z O TA TB T) (i : Nat) (v : Value) : Four w (wr.setCell ⟨w.heap.size + 1 + 1 + 1, i, none⟩ v) A B Z (O.setIfInBounds i v) TA TB T :=
  ⟨h.below.setCell (p := ⟨w.heap.size + 1 + 1 + 1, i, none⟩) (by show w.heap.size ≤ w.heap.size + 1 + 1 + 1; omega) v, by have := h.size; simpa using this,
    (heap_setCell_other _ _ _ _ (by show w.heap.size ≠ w.heap.size + 1 + 1 + 1; omega)).trans h.a, (heap_setCell_other _ _ _ _ (by show w.heap.size + 1 ≠ w.heap.size + 1 + 1 + 1; omega)).trans h.b, (heap_setCell_other _ _ _ _ (by show w.heap.size + 1 + 1 ≠ w.heap.size + 1 + 1 + 1; omega)).trans h.z,
    heap_setCell_same wr _ i O T v h.o⟩
theorem four_end {w wr : World} {A B O : Array Value} {TA TB : TypeId} {v : Value} {xs : List dRow} (h : Four w wr A B #[.slice none 0 0, .int .i64 0, .bool false] O TA TB 32) (hli : ListL ownRow 36 (w.heap.size + 4) wr.heap.size wr v xs) (L : Int) (q : Bool) :
    (((((wr.setCell ⟨w.heap.size + 1 + 1 + 1, 1, none⟩ (.int .i64 L)).setCell ⟨w.heap.size + 1 + 1 + 1, 2, none⟩ (.bool q)).setCell ⟨w.heap.size + 1 + 1, 0, none⟩ v).setCell ⟨w.heap.size + 1 + 1, 1, none⟩ (.int .i64 L)).setCell ⟨w.heap.size + 1 + 1, 2, none⟩ (.bool q)).heap[w.heap.size + 1 + 1]? = some (.cells #[v, .int .i64 L, .bool q] 32 (0, 0)) ∧
    shGrads.reads (From w.heap.size (((((wr.setCell ⟨w.heap.size + 1 + 1 + 1, 1, none⟩ (.int .i64 L)).setCell ⟨w.heap.size + 1 + 1 + 1, 2, none⟩ (.bool q)).setCell ⟨w.heap.size + 1 + 1, 0, none⟩ v).setCell ⟨w.heap.size + 1 + 1, 1, none⟩ (.int .i64 L)).setCell ⟨w.heap.size + 1 + 1, 2, none⟩ (.bool q)).heap.size) (((((wr.setCell ⟨w.heap.size + 1 + 1 + 1, 1, none⟩ (.int .i64 L)).setCell ⟨w.heap.size + 1 + 1 + 1, 2, none⟩ (.bool q)).setCell ⟨w.heap.size + 1 + 1, 0, none⟩ v).setCell ⟨w.heap.size + 1 + 1, 1, none⟩ (.int .i64 L)).setCell ⟨w.heap.size + 1 + 1, 2, none⟩ (.bool q)) [v, .int .i64 L, .bool q] (xs, L, q) ∧
    Below w.heap.size w (((((wr.setCell ⟨w.heap.size + 1 + 1 + 1, 1, none⟩ (.int .i64 L)).setCell ⟨w.heap.size + 1 + 1 + 1, 2, none⟩ (.bool q)).setCell ⟨w.heap.size + 1 + 1, 0, none⟩ v).setCell ⟨w.heap.size + 1 + 1, 1, none⟩ (.int .i64 L)).setCell ⟨w.heap.size + 1 + 1, 2, none⟩ (.bool q)) := by
  have h2 := (h.store 1 (.int .i64 L)).store 2 (.bool q)
  refine ⟨store3 h2.z _ _ _, ?_, ((h2.below.setCell (p := ⟨w.heap.size + 1 + 1, 0, none⟩) (by show _ ≤ w.heap.size + 1 + 1; omega) _).setCell (p := ⟨w.heap.size + 1 + 1, 1, none⟩) (by show _ ≤ w.heap.size + 1 + 1; omega) _).setCell (p := ⟨w.heap.size + 1 + 1, 2, none⟩) (by show _ ≤ w.heap.size + 1 + 1; omega) _⟩
  have hfin := ((((hli.stored (w.heap.size + 1 + 1 + 1) 1 (.int .i64 L) (by omega)).stored (w.heap.size + 1 + 1 + 1) 2 (.bool q) (by omega)).stored (w.heap.size + 1 + 1) 0 v (by omega)).stored (w.heap.size + 1 + 1) 1 (.int .i64 L) (by omega)).stored (w.heap.size + 1 + 1) 2 (.bool q) (by omega)
  obtain ⟨a', cap, rfl, e2, e3, e4⟩ := hfin.list (by decide)
  exact shGrads_reads.2 ⟨_, _, _, rfl, e2, e3, e4.listAt (fun b o f => ⟨by have := f.1; omega, by have := f.2; simpa using this⟩) (by decide)⟩
end Go.Proofs.YtkmcfbopilieeaaGreatDoor

end

/-! YtkmcfbopilieeaaGreatDoorSeqQ -/
section

namespace Go.Proofs.YtkmcfbopilieeaaGreatDoor
open Go.RowKit Go.Sort
set_option linter.unusedVariables false

theorem pair_at {l : List dPair} {j : Nat} (h : j < l.length) : l[j]? = some (pairAt l j) := by
  rw [List.getElem?_eq_getElem h, pairAt_get (List.getElem?_eq_getElem h)]
theorem set3_other {w : World} {g b : Nat} (x y z : Value) (h : b ≠ g) : (((w.setCell ⟨g, 0, none⟩ x).setCell ⟨g, 1, none⟩ y).setCell ⟨g, 2, none⟩ z).heap[b]? = w.heap[b]? :=
  (heap_setCell_other _ _ _ _ h).trans ((heap_setCell_other _ _ _ _ h).trans (heap_setCell_other _ _ _ _ h))
theorem set3_size {w : World} {g : Nat} (x y z : Value) : (((w.setCell ⟨g, 0, none⟩ x).setCell ⟨g, 1, none⟩ y).setCell ⟨g, 2, none⟩ z).heap.size = w.heap.size := by simp
theorem set3_below {B g : Nat} {w w' : World} (h : Below B w w') (hg : B ≤ g) (x y z : Value) : Below B w (((w'.setCell ⟨g, 0, none⟩ x).setCell ⟨g, 1, none⟩ y).setCell ⟨g, 2, none⟩ z) :=
  ((h.setCell (p := ⟨g, 0, none⟩) hg x).setCell (p := ⟨g, 1, none⟩) hg y).setCell (p := ⟨g, 2, none⟩) hg z
end Go.Proofs.YtkmcfbopilieeaaGreatDoor

end
