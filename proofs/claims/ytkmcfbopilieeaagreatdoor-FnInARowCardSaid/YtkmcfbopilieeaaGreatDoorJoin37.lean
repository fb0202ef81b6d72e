import Derived.Test.YtkmcfbopilieeaaGreatDoorJoin34
import Derived.Test.YtkmcfbopilieeaaGreatDoorJoin2
import Derived.Test.YtkmcfbopilieeaaGreatDoorJoin30
import Derived.Test.YtkmcfbopilieeaaGreatDoorJoin35
import Derived.Test.YtkmcfbopilieeaaGreatDoorJoin36
/-! YtkmcfbopilieeaaGreatDoorLossI -/
section

namespace Go.Proofs.YtkmcfbopilieeaaGreatDoor
open Go.RowKit
set_option linter.unusedVariables false

set_option maxRecDepth 100000 in
theorem implLossOf_any (w : World) (a1 : Option Addr) (n1 c1 : Nat) (xs : List Int) (a2 : Option Addr) (n2 c2 : Nat) (ys : List Int) (h1 : IntsIn w.heap.size w a1 n1 xs) (h2 : IntsIn w.heap.size w a2 n2 ys) (hg : LaidE w) :
    Calls Tryz.prog 42 #[.slice a1 n1 c1, .slice a2 n2 c2] w (NumB w (lossN xs ys) (lossB xs ys)) := by
  have H1 := Lib.hid (implVecSub_any w a1 n1 c1 xs a2 n2 c2 ys h1 h2 hg)
  have hlt := hg.lt
  have HG := Lib.hid hg
  clear h1 h2 hg
  have h6 := rowP_length subN xs ys
  obtain ⟨D, hD⟩ : ∃ D, rowP subN xs ys = D := ⟨_, rfl⟩
  obtain ⟨n, hn⟩ : ∃ n, D.length = n := ⟨_, rfl⟩
  obtain ⟨q, hq⟩ : ∃ q, dotN D D = q := ⟨_, rfl⟩
  obtain ⟨o, ho⟩ : ∃ o, dotB D D = o := ⟨_, rfl⟩
  obtain ⟨f, hf⟩ : ∃ f, flagP subB xs ys = f := ⟨_, rfl⟩
  have hq0 : 0 ≤ q := by rw [← hq]; exact dot_nonneg D
  have hq1 : q ≤ 2147483647 := by rw [← hq]; exact (dotN_range D D).2
  have ht := tdiv_two hq0 hq1
  have HV := fun (w : World) (a : Option Addr) (c : Nat) (h : IntsIn w.heap.size w a n D) (hg : LaidE w) => implVecDot_any w a n c D a n c D h h hg
  unfold lossN lossB
  rw [hD] at H1 h6 ⊢
  rw [hn] at h6
  rw [hf] at H1
  simp only [hq, ho] at HV
  rw [hq, ho, hf]
  obtain ⟨Q, hQ⟩ : ∃ Q, q / 2 = Q := ⟨_, rfl⟩
  rw [hQ] at ht ⊢
  obtain ⟨t1, t2⟩ := ht
  have t3 : wrap64 Q = Q := by rw [t2] at t1; exact t1
  have HN := Lib.hid hn
  replace HV := Lib.hid HV
  clear hD hn hq ho hf hq0 hq1 hQ
  cases f
  · go_enter Tryz.func42, Tryz.ntmps42
    go_wp2_with fail
    refine H1.out.mono ?_
    rintro e w1 ⟨v, rfl, hr, hb⟩
    obtain ⟨a, c, rfl, hi⟩ := hr.form' HN (by omega)
    have HI := Lib.hid hi
    have HB := Lib.hid hb
    clear hr hi hb
    go_wp2_with fail
    refine (HV.out w1 a c HI.out (HG.out.below hlt HB.out)).mono ?_
    rintro e w2 ⟨rfl, hb2⟩
    have HB2 := Lib.hid (HB.out.trans (hb2.mono HB.out.size))
    clear hb2
    go_wp2_with fail
    go_ret2
    exact ⟨by simp [t3], HB2.out⟩
  · go_enter Tryz.func42, Tryz.ntmps42
    go_wp2_with fail
    refine H1.out.mono ?_
    rintro e w1 ⟨v, rfl, hr, hb⟩
    obtain ⟨a, c, rfl, hi⟩ := hr.form' HN (by omega)
    have HI := Lib.hid hi
    have HB := Lib.hid hb
    clear hr hi hb
    go_wp2_with fail
    refine (HV.out w1 a c HI.out (HG.out.below hlt HB.out)).mono ?_
    rintro e w2 ⟨rfl, hb2⟩
    have HB2 := Lib.hid (HB.out.trans (hb2.mono HB.out.size))
    clear hb2
    go_wp2_with fail
    go_ret2
    exact ⟨by simp [t3], HB2.out⟩
end Go.Proofs.YtkmcfbopilieeaaGreatDoor

end

/-! YtkmcfbopilieeaaGreatDoorSeqE -/
section

namespace Go.Proofs.YtkmcfbopilieeaaGreatDoor
open Go.RowKit Go.Sort
set_option linter.unusedVariables false

theorem StepAt.weak {B0 B0' lo lo' BI j : Nat} {W : World} {x : dOp} {u : Value} (h : StepAt B0 lo W BI x j u) (hB : B0 ≤ B0') (hl : lo' ≤ lo) : StepAt B0' lo' W BI x j u := by
  obtain ⟨bo, bi, ae, ne, ce, rfl, h1, h2, h3, h4, h5, h6, h7⟩ := h
  exact ⟨bo, bi, ae, ne, ce, rfl, ⟨Nat.le_trans hl h1.1, h1.2⟩, ⟨Nat.le_trans hl h2.1, h2.2⟩, h3, h4, h5.le hB, h6, h7⟩
theorem batch_pairB (m : List dOp) (p : dPair) : batchOkB m [p] = pairOkB (inG (goodN m)) (outG (goodN m)) p := by
  rw [inG_good, outG_good]
  cases h : pairOkB (inOfN m) (outOfN m) p with
  | true =>
    unfold batchOkB
    rw [pair_model h, List.all_cons, h]
    rfl
  | false =>
    unfold batchOkB
    rw [List.all_cons, h]
    simp
theorem loss_marks (xs ys : List Int) : (lossB xs ys || flagP subB xs ys) = lossB xs ys := by
  unfold lossB
  cases flagP subB xs ys <;> simp
set_option maxRecDepth 100000 in
set_option maxHeartbeats 6400000 in
theorem implMicroGrads_o (w : World) (es : List Value) (m : dModel) (h : shModel.reads (Under w.heap.size) w es m) (hb : shModel.bulk m ≤ 1048576) (q : List Value) (p : dPair) (hq : shPair.reads (Under w.heap.size) w q p) (hb' : shPair.bulk p ≤ 1048576) (hg : LaidE w) :
    Calls Tryz.prog 20 #[.agg es.toArray, .agg q.toArray] w fun e w' => ∃ es', e = .returned (.agg es'.toArray) ∧ ownGrads.owns (FromB w.heap.size w'.heap.size) w' es' (microG m p) ∧ Below w.heap.size w w' := by
  obtain ⟨a, n, c, rfl, hc1, hc2, hl⟩ := shModel_reads.1 h
  obtain ⟨ax, nx, cx, at', nt, ct, rfl, ⟨gx, lx, mx⟩, ⟨gt, lt', mt⟩⟩ := shPair_reads.1 hq
  have hlen := hl.1
  rw [shPair_bulk, bulk_ints, bulk_ints] at hb'
  have hal3 : Below w.heap.size w (((w.alloc (.cells #[.slice a n c] 26 (0, 0))).alloc (.cells #[.slice ax nx cx, .slice at' nt ct] 47 (0, 0))).alloc (.cells #[.slice none 0 0, .int .i64 0, .bool false] 32 (0, 0))) := (((Below.refl _ _).alloc (Nat.le_refl _) _).alloc (by simp) _).alloc (by simp; omega) _
  have hA : (((w.alloc (.cells #[.slice a n c] 26 (0, 0))).alloc (.cells #[.slice ax nx cx, .slice at' nt ct] 47 (0, 0))).alloc (.cells #[.slice none 0 0, .int .i64 0, .bool false] 32 (0, 0))).heap[w.heap.size]? = some (.cells #[.slice a n c] 26 (0, 0)) := by
    rw [Below.heap_alloc _ _ _ (by simp; try omega), Below.heap_alloc _ _ _ (by simp)]
    exact heap_alloc_new w _
  have hB : (((w.alloc (.cells #[.slice a n c] 26 (0, 0))).alloc (.cells #[.slice ax nx cx, .slice at' nt ct] 47 (0, 0))).alloc (.cells #[.slice none 0 0, .int .i64 0, .bool false] 32 (0, 0))).heap[w.heap.size + 1]? = some (.cells #[.slice ax nx cx, .slice at' nt ct] 47 (0, 0)) := by
    rw [Below.heap_alloc _ _ _ (by simp)]
    have := heap_alloc_new (w.alloc (.cells #[.slice a n c] 26 (0, 0))) (.cells #[.slice ax nx cx, .slice at' nt ct] 47 (0, 0))
    simpa using this
  have hZ : (((w.alloc (.cells #[.slice a n c] 26 (0, 0))).alloc (.cells #[.slice ax nx cx, .slice at' nt ct] 47 (0, 0))).alloc (.cells #[.slice none 0 0, .int .i64 0, .bool false] 32 (0, 0))).heap[w.heap.size + 1 + 1]? = some (.cells #[.slice none 0 0, .int .i64 0, .bool false] 32 (0, 0)) := by
    have := heap_alloc_new ((w.alloc (.cells #[.slice a n c] 26 (0, 0))).alloc (.cells #[.slice ax nx cx, .slice at' nt ct] 47 (0, 0))) (.cells #[.slice none 0 0, .int .i64 0, .bool false] 32 (0, 0))
    simpa using this
  have hsz3 : (((w.alloc (.cells #[.slice a n c] 26 (0, 0))).alloc (.cells #[.slice ax nx cx, .slice at' nt ct] 47 (0, 0))).alloc (.cells #[.slice none 0 0, .int .i64 0, .bool false] 32 (0, 0))).heap.size = w.heap.size + 3 := by simp
  have HL := Lib.hid hl
  have HX := Lib.hid (mx.ints (by have := mx.1; omega))
  have HT := Lib.hid (mt.ints (by have := mt.1; omega))
  have hxl := mx.1
  have htl := mt.1
  have HBM := Lib.hid hb
  have HA := Lib.hid hA
  have HB := Lib.hid hB
  have HZ := Lib.hid hZ
  have H3 := Lib.hid hal3
  obtain ⟨k, hk⟩ : ∃ k, batchOkB m [p] = k := ⟨_, rfl⟩
  have HK := Lib.hid hk
  have HMX := Lib.hid mx
  have HMT := Lib.hid mt
  go_enter Tryz.func20, Tryz.ntmps20
  have hlt := hg.lt
  have HG := Lib.hid hg
  clear h hq hl hb hA hB hZ hal3 hk mx mt hg
  go_wp2_with fail
  generalize hw3 : ((w.alloc (.cells #[.slice a n c] 26 (0, 0))).alloc (.cells #[.slice ax nx cx, .slice at' nt ct] 47 (0, 0))).alloc (.cells #[.slice none 0 0, .int .i64 0, .bool false] 32 (0, 0)) = w3 at HA HB HZ H3 hsz3 ⊢
  clear hw3
  have z0 := box1 HA.out
  have y0 : w3.cell? ⟨w.heap.size + 1, 0, none⟩ = some (.slice ax nx cx) := by rw [cell_of_row _ _ _ _ _ _ HB.out]; rfl
  have y1 : w3.cell? ⟨w.heap.size + 1, 1, none⟩ = some (.slice at' nt ct) := by rw [cell_of_row _ _ _ _ _ _ HB.out]; rfl
  have hd3 : Below w.heap.size w w3.drew := H3.out.trans ⟨rfl, rfl, rfl, Nat.le_refl _, fun _ _ => rfl⟩
  have HMO := Lib.hid (implModelOf_b w3.drew w.heap.size hd3.size a n c m (HL.out.below hd3 (Nat.le_refl _)) hc1 hc2 HBM.out)
  have HFI := Lib.hid fun (w4 : World) (ag : Option Addr) (ng cg : Nat) (hb4 : Below w3.drew.heap.size w3.drew w4) (hlg : ListAt shOp (Under w.heap.size) w3.drew ag ng (goodN m)) => implFits_c w4 ag ng cg (goodN m) ((hlg.below hb4 hd3.size).le (Nat.le_trans hd3.size hb4.size)) (by rw [← hlg.1]; exact (goodN_le m).1) ax at' nx cx nt ct p ((HX.out.below (hd3.trans (hb4.mono hd3.size)) (Nat.le_refl _)).le (Nat.le_trans hd3.size hb4.size)) ((HT.out.below (hd3.trans (hb4.mono hd3.size)) (Nat.le_refl _)).le (Nat.le_trans hd3.size hb4.size))
  rw [Hid] at HFI
  simp only [← batch_pairB, HK.out] at HFI
  replace HFI := Lib.hid HFI
  clear hd3
  go_upto_region 1 with fail
  go_cut [18] (fun b wx => b = .bool (!k) ∧ Below w3.heap.size w3 wx)
  case first =>
    go_region_law (first
      | (go_simp; go_at_call 24; (with_reducible refine HMO.out.mono ?_); rintro e wt ⟨ag, ng, cg, rfl, hlg, -, -, hb⟩; have hbt : Below w3.heap.size w3 wt := ((Below.refl w3.heap.size w3).drew).trans hb; have HFT := Lib.hid (HFI.out wt ag ng cg hb hlg); have t0 : wt.cell? ⟨w.heap.size + 1, 0, none⟩ = some (.slice ax nx cx) := (by rw [cell_of_row _ _ _ _ _ _ ((hbt.block (w.heap.size + 1) (by omega)).trans HB.out)]; rfl); have t1 : wt.cell? ⟨w.heap.size + 1, 1, none⟩ = some (.slice at' nt ct) := (by rw [cell_of_row _ _ _ _ _ _ ((hbt.block (w.heap.size + 1) (by omega)).trans HB.out)]; rfl); have HBT := Lib.hid hbt; clear hb hbt hlg)
      | (go_simp; go_at_call 25; (with_reducible refine HFT.out.mono ?_); rintro e wu ⟨rfl, hb⟩; have HBU := Lib.hid (HBT.out.trans (hb.mono HBT.out.size)); clear hb))
    all_goals
      go_wp2_with fail
      go_meet
      case rel => exact ⟨rfl, HBU.out⟩
  case rest =>
    obtain ⟨rfl, hb5⟩ := hcut
    obtain ⟨w5, rfl⟩ : ∃ W, W = wc := ⟨_, rfl⟩
    have hs5' := hb5.size
    have h5 := Lib.hid (H3.out.trans (hb5.mono H3.out.size))
    have HA5 := Lib.hid ((hb5.block w.heap.size (by omega)).trans HA.out)
    have HB5 := Lib.hid ((hb5.block (w.heap.size + 1) (by omega)).trans HB.out)
    have HZ5 := Lib.hid ((hb5.block (w.heap.size + 1 + 1) (by omega)).trans HZ.out)
    have hs5 : w.heap.size + 3 ≤ w5.heap.size := by omega
    clear hb5 HMO HFI z0 y0 y1 HA HB HZ
    have z0 := box1 HA5.out
    have y0 : w5.cell? ⟨w.heap.size + 1, 0, none⟩ = some (.slice ax nx cx) := by rw [cell_of_row _ _ _ _ _ _ HB5.out]; rfl
    have y1 : w5.cell? ⟨w.heap.size + 1, 1, none⟩ = some (.slice at' nt ct) := by rw [cell_of_row _ _ _ _ _ _ HB5.out]; rfl
    obtain ⟨⟨d0, d1, d2⟩, f0, f1, f2⟩ := cellsG HZ5.out
    cases k
    · go_wp2_with fail
      refine bodyPost_ret (results_cell_row rfl _ _ (w.heap.size + 1 + 1) 32 #[.slice none 0 0, .int .i64 0, .bool false] (0, 0) _ rfl (store3 HZ5.out _ _ _) Tryz.underlying32 rfl (by kernel_rfl)) rfl ?_
      refine ⟨[.slice none 0 0, .int .i64 0, .bool false], rfl, ?_, set3_below h5.out (by omega) _ _ _⟩
      have hmg : microG m p = dNone := by unfold microG; rw [HK.out]; rfl
      rw [hmg]
      exact ownGrads_owns.2 ⟨none, 0, 0, rfl, Nat.le_refl _, by omega, rfl, .inl rfl⟩
    · obtain ⟨hm, hx1, hx6, ht6⟩ := batch_one HK.out
      have hpo := HK.out
      rw [batch_pairB, inG_good, outG_good] at hpo
      obtain ⟨q1, q2, q3, q4⟩ := pair_has hpo
      obtain ⟨-, hm1, hm8⟩ := modelOk_has hm
      rw [hlen] at hm1 hm8
      have hC := Lib.hid fun (w1 : World) (hb1 : Below w.heap.size w w1) => implInputs_yes w1 a n c m ((HL.out.below hb1 (Nat.le_refl _)).le hb1.size) hc1 hc2 HBM.out ax nx cx p.1 ((HX.out.below hb1 (Nat.le_refl _)).le hb1.size) (HG.out.below hlt hb1) q1 (by rw [← q3, hxl])
      go_wp2_with fail
      refine (hC.out w5 h5.out).mono ?_
      rintro e w6 ⟨v, rfl, hli, hb6⟩
      have hl6 := ListL.list hli (by decide)
      obtain ⟨ai, ci, rfl, hci1, hci2, hown⟩ := hl6
      rw [listK_length] at hci1 hown
      have hil := listK_length (inK m p.1) (n + 1)
      rw [hil] at hli ⊢
      obtain ⟨gi, ay, ny, cy, rfl, hj1, hg1, hg2, cgi, iy⟩ := hli.at n (inK m p.1 n) (listK_get _ _ _ (by omega)) (by have := (show (inK m p.1 n).length ≤ 6 from by cases n with | zero => omega | succ n => exact fwOp_length _ _); omega)
      have hs6 := hb6.size
      have h6 := Lib.hid (h5.out.trans (hb6.mono h5.out.size))
      have hA6 := (hb6.block w.heap.size (by omega)).trans HA5.out
      have hB6 := (hb6.block (w.heap.size + 1) (by omega)).trans HB5.out
      have hZ6 := (hb6.block (w.heap.size + 1 + 1) (by omega)).trans HZ5.out
      have HA6 := Lib.hid hA6
      have HB6 := Lib.hid hB6
      have HZ6 := Lib.hid hZ6
      have HIN := Lib.hid (hown.listAt (I := Under w6.heap.size) (fun b o f => f.2) (by decide))
      have HIY := Lib.hid iy
      obtain ⟨Y, hY⟩ : ∃ Y, inK m p.1 n = Y := ⟨_, rfl⟩
      have hYl : Y.length ≤ 6 := by rw [← hY]; cases n with | zero => omega | succ n => exact fwOp_length _ _
      have HY := Lib.hid hY
      rw [hY] at iy
      have hCL := Lib.hid fun (w7 : World) (hb7 : Below w6.heap.size w6 w7) => implLossOf_any w7 ay ny cy Y at' nt ct p.2 ((iy.below hb7 (Nat.le_refl _)).le hb7.size) ((HT.out.below (h6.out.trans (hb7.mono h6.out.size)) (Nat.le_refl _)).le (Nat.le_trans h6.out.size hb7.size)) (HG.out.below hlt (h6.out.trans (hb7.mono h6.out.size)))
      have hCV := Lib.hid fun (w7 : World) (hb7 : Below w6.heap.size w6 w7) => implVecSub_any w7 ay ny cy Y at' nt ct p.2 ((iy.below hb7 (Nat.le_refl _)).le hb7.size) ((HT.out.below (h6.out.trans (hb7.mono h6.out.size)) (Nat.le_refl _)).le (Nat.le_trans h6.out.size hb7.size)) (HG.out.below hlt (h6.out.trans (hb7.mono h6.out.size)))
      obtain ⟨LN, hLN⟩ : ∃ L, lossN Y p.2 = L := ⟨_, rfl⟩
      obtain ⟨LB, hLB⟩ : ∃ L, lossB Y p.2 = L := ⟨_, rfl⟩
      obtain ⟨DD, hDD⟩ : ∃ L, rowP subN Y p.2 = L := ⟨_, rfl⟩
      obtain ⟨DB, hDB⟩ : ∃ L, flagP subB Y p.2 = L := ⟨_, rfl⟩
      obtain ⟨IB, hIB⟩ : ∃ L, inKB m p.1 n = L := ⟨_, rfl⟩
      obtain ⟨BB, hBB⟩ : ∃ L, backKB m p.1 DD n = L := ⟨_, rfl⟩
      have hmk2 : (IB || LB || DB || BB) = (IB || LB || BB) := by
        have e := loss_marks Y p.2
        rw [hLB, hDB] at e
        rw [Bool.or_assoc IB LB DB, e]
      have hmg : microG m p = (gradsN m p.1 DD, LN, IB || LB || BB) := by
        unfold microG
        rw [HK.out, if_pos rfl, hlen, hY, hLN, hLB, hDD, hDB, hIB, hBB, hmk2]
      have HMG := Lib.hid hmg
      have hdl : DD.length ≤ 6 := by rw [← hDD]; have := rowP_length subN Y p.2; omega
      rw [Hid] at hCL hCV
      simp only [hLN, hLB] at hCL
      simp only [hDD, hDB] at hCV
      rw [hIB]
      have HCL := Lib.hid hCL
      have HCV := Lib.hid hCV
      have hin : ∀ j, j < n → (listK (inK m p.1) (n + 1))[j]? = some (inK m p.1 j) := fun j hj => listK_get _ _ _ (by omega)
      have HJ := Lib.hid hin
      have HBB := Lib.hid hBB
      clear z0 y0 y1 d0 d1 d2 f0 f1 f2 hCL hCV hmg hA6 hB6 hZ6 iy hown hli hb6 hY hLN hLB hDD hDB hIB hBB hin hC hmk2
      have z0 := box1 HA6.out
      have y0 : w6.cell? ⟨w.heap.size + 1, 0, none⟩ = some (.slice ax nx cx) := by rw [cell_of_row _ _ _ _ _ _ HB6.out]; rfl
      have y1 : w6.cell? ⟨w.heap.size + 1, 1, none⟩ = some (.slice at' nt ct) := by rw [cell_of_row _ _ _ _ _ _ HB6.out]; rfl
      have hix : wrap64 (((n + 1 : Nat) : Int) - 1) = (n : Int) := by rw [IntWalk.wrap64_in _ (by omega)]; omega
      have hix2 : wrap64 ((n : Int) + 1 - 1) = (n : Int) := by rw [IntWalk.wrap64_in _ (by omega)]; omega
      have hix3 : (n : Int) < (n : Int) + 1 := by omega
      go_wp2_with fail
      refine (HCL.out w6 (Below.refl _ _)).mono ?_
      rintro e w7 ⟨rfl, hb7⟩
      have hs7 := hb7.size
      have H7 := Lib.hid hb7
      have z7 := box1 ((hb7.block w.heap.size (by omega)).trans HA6.out)
      have x7 : w7.cell? ⟨w.heap.size + 1, 0, none⟩ = some (.slice ax nx cx) := by rw [cell_of_row _ _ _ _ _ _ ((hb7.block (w.heap.size + 1) (by omega)).trans HB6.out)]; rfl
      have y7 : w7.cell? ⟨w.heap.size + 1, 1, none⟩ = some (.slice at' nt ct) := by rw [cell_of_row _ _ _ _ _ _ ((hb7.block (w.heap.size + 1) (by omega)).trans HB6.out)]; rfl
      clear z0 y0 y1 hb7
      go_wp2_with fail
      refine (HCV.out w7 H7.out).mono ?_
      rintro e w8 ⟨vd, rfl, hrd, hb8⟩
      have hb68 := H7.out.trans (hb8.mono H7.out.size)
      have hs8 := hb68.size
      obtain ⟨a8, c8, rfl, hi8⟩ := hrd.form
      obtain ⟨n8, hn8⟩ : ∃ q, DD.length = q := ⟨_, rfl⟩
      have h8 := h6.out.trans (hb68.mono h6.out.size)
      clear HCL HCV
      have hS := Lib.hid (implStepsBack_any w8 a n c m ((HL.out.below h8 (Nat.le_refl _)).le h8.size) HBM.out (some ⟨gi, 0, none⟩) (n + 1) ci)
      have z8 := box1 ((hb68.block w.heap.size (by omega)).trans HA6.out)
      have H8 := Lib.hid h8
      have HZ8 := Lib.hid ((hb68.block (w.heap.size + 1 + 1) (by omega)).trans HZ6.out)
      have HIN8 := Lib.hid ((HIN.out.below hb68 (Nat.le_refl _)).le hb68.size)
      rw [hn8]
      have hd8 := hi8 (by omega)
      rw [hn8] at hd8
      have HD8 := Lib.hid hd8
      clear z7 x7 y7 hb8 hb68 h8 hrd hi8 hn8 hd8
      go_wp2_with fail
      refine hS.out.mono ?_
      rintro e w9 ⟨vs, us, rfl, hown, hI, hst, hb9⟩
      obtain ⟨gs, cs, rfl⟩ : ∃ gs cs, vs = .slice (some ⟨gs, 0, none⟩) n cs := by
        rcases hown.2 with ⟨-, hn⟩ | ⟨g, cap, cur, e, -⟩
        · omega
        · exact ⟨g, cap, e⟩
      have h9 := H8.out.trans (hb9.mono H8.out.size)
      have hB := implGoBack_any w9 m n hlen hm1 hm8 gs cs us (w8.heap.size + 1) w8.heap.size (some ⟨gi, 0, none⟩) (n + 1) ci p.1 hown hI
        (fun j x hx => by obtain ⟨u, e1, e2⟩ := hst j x hx; exact ⟨u, e1, e2.weak hb9.size (Nat.zero_le _)⟩) (listK (inK m p.1) (n + 1)) ((HIN8.out.below hb9 (Nat.le_refl _)).le hb9.size) HJ.out (by omega) a8 n8 c8 DD ((HD8.out.below hb9 (Nat.le_refl _)).le hb9.size) (HG.out.below hlt h9)
      rw [HBB.out] at hB
      have HBK := Lib.hid hB
      have H9 := Lib.hid h9
      have HZ9 := Lib.hid ((hb9.block (w.heap.size + 1 + 1) (by have := H8.out.size; omega)).trans HZ8.out)
      clear hown hI hst hb9 h9 hB z8
      go_wp2_with fail
      refine HBK.out.mono ?_
      rintro e w10 ⟨v, rfl, hli, hb10⟩
      obtain ⟨av, cv, rfl, hcv1, hcv2⟩ := hli.form
      have hgl : (gradsN m p.1 DD).length = n := by unfold gradsN; rw [listK_length, hlen]
      rw [hgl] at hli hcv1 ⊢
      have hs10 := hb10.size
      have hs9 := H9.out.size
      have hlo9 : w.heap.size + 3 ≤ w9.heap.size := by
        have h1 := (Array.getElem?_eq_some_iff.1 HZ9.out).1
        omega
      have h10 := Lib.hid (H9.out.trans (hb10.mono H9.out.size))
      have HZ10 := Lib.hid ((hb10.block (w.heap.size + 1 + 1) (by omega)).trans HZ9.out)
      obtain ⟨⟨d0, d1, d2⟩, f0, f1, f2⟩ := cellsG HZ10.out
      have HLI := Lib.hid hli
      have hend : ∀ ob : Bool, (IB || LB || BB) = ob → ownGrads.owns (FromB w.heap.size (((w10.setCell ⟨w.heap.size + 1 + 1, 0, none⟩ (.slice av n cv)).setCell ⟨w.heap.size + 1 + 1, 1, none⟩ (.int .i64 LN)).setCell ⟨w.heap.size + 1 + 1, 2, none⟩ (.bool ob)).heap.size) (((w10.setCell ⟨w.heap.size + 1 + 1, 0, none⟩ (.slice av n cv)).setCell ⟨w.heap.size + 1 + 1, 1, none⟩ (.int .i64 LN)).setCell ⟨w.heap.size + 1 + 1, 2, none⟩ (.bool ob)) [.slice av n cv, .int .i64 LN, .bool ob] (microG m p) := fun ob hob => by
        have hfin := ((HLI.out.stored (w.heap.size + 1 + 1) 0 (.slice av n cv) (by omega)).stored (w.heap.size + 1 + 1) 1 (.int .i64 LN) (by omega)).stored (w.heap.size + 1 + 1) 2 (.bool ob) (by omega)
        obtain ⟨a', cap, e1, e2, e3, e4⟩ := hfin.list (by decide)
        rw [hgl] at e1 e2 e4
        cases e1
        rw [HMG.out, hob]
        exact ownGrads_owns.2 ⟨_, _, _, rfl, e2, e3, e4.sub (fun b o f => ⟨by have := f.1; omega, by have := f.2; simpa using this⟩)⟩
      have HEND := Lib.hid hend
      clear hli hb10 hend hgl HBK HIN HIY HJ HIN8 HD8
      cases IB
      · cases LB
        · go_wp2_with fail
          refine bodyPost_ret (results_cell_row rfl _ _ (w.heap.size + 1 + 1) 32 #[.slice av n cv, .int .i64 LN, .bool BB] (0, 0) _ rfl (store3 HZ10.out _ _ _) Tryz.underlying32 rfl (by kernel_rfl)) rfl ?_
          exact ⟨[.slice av n cv, .int .i64 LN, .bool BB], rfl, HEND.out BB rfl, set3_below h10.out (by omega) _ _ _⟩
        · go_wp2_with fail
          refine bodyPost_ret (results_cell_row rfl _ _ (w.heap.size + 1 + 1) 32 #[.slice av n cv, .int .i64 LN, .bool true] (0, 0) _ rfl (store3 HZ10.out _ _ _) Tryz.underlying32 rfl (by kernel_rfl)) rfl ?_
          exact ⟨[.slice av n cv, .int .i64 LN, .bool true], rfl, HEND.out true rfl, set3_below h10.out (by omega) _ _ _⟩
      · go_wp2_with fail
        refine bodyPost_ret (results_cell_row rfl _ _ (w.heap.size + 1 + 1) 32 #[.slice av n cv, .int .i64 LN, .bool true] (0, 0) _ rfl (store3 HZ10.out _ _ _) Tryz.underlying32 rfl (by kernel_rfl)) rfl ?_
        exact ⟨[.slice av n cv, .int .i64 LN, .bool true], rfl, HEND.out true rfl, set3_below h10.out (by omega) _ _ _⟩
end Go.Proofs.YtkmcfbopilieeaaGreatDoor

end
