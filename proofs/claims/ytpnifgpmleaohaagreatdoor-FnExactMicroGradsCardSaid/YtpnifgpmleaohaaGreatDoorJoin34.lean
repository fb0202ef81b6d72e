import Derived.Test.YtpnifgpmleaohaaGreatDoorJoin31
import Derived.Test.YtpnifgpmleaohaaGreatDoorJoin2
import Derived.Test.YtpnifgpmleaohaaGreatDoorJoin27
import Derived.Test.YtpnifgpmleaohaaGreatDoorJoin33
import Derived.Test.YtpnifgpmleaohaaGreatDoorJoin13
import Derived.WideShapes
import Derived.Deep.DeepCutAuto
import Derived.Deep.RegionLaw
/-! YtpnifgpmleaohaaGreatDoorLossI -/
section

namespace Go.Proofs.YtpnifgpmleaohaaGreatDoor
open Go.RowKit
set_option linter.unusedVariables false

set_option maxRecDepth 100000 in
theorem implLossOf_any (w : World) (a1 : Option Addr) (n1 c1 : Nat) (xs : List Int) (a2 : Option Addr) (n2 c2 : Nat) (ys : List Int) (h1 : IntsIn w.heap.size w a1 n1 xs) (h2 : IntsIn w.heap.size w a2 n2 ys) (hg : LaidE w) :
    Calls Tryz.prog 103 #[.slice a1 n1 c1, .slice a2 n2 c2] w (NumB w (lossN xs ys) (lossB xs ys)) := by
  have H1 := Lib.hid (implVecSub_any w a1 n1 c1 xs a2 n2 c2 ys h1 h2 hg)
  have hlt := hg.lt
  have HG := Lib.hid hg
  clear h1 h2 hg
  have h6 := rowP_length subN xs ys
  obtain ⟨D, hD⟩ : ∃ D, rowP subN xs ys = D := ⟨_, rfl⟩
  obtain ⟨n, hn⟩ : ∃ n, D.length = n := ⟨_, rfl⟩
  obtain ⟨q, hq⟩ : ∃ q, dotN D D = q := ⟨_, rfl⟩
  obtain ⟨o, ho⟩ : ∃ o, dotB D D = o := ⟨_, rfl⟩
  obtain ⟨f, hf⟩ : ∃ f, flagP subB xs ys = f := ⟨_, rfl⟩
  have hq0 : 0 ≤ q := by rw [← hq]; exact dot_nonneg D
  have hq1 : q ≤ 2147483647 := by rw [← hq]; exact (dotN_range D D).2
  have ht := tdiv_two hq0 hq1
  have HV := fun (w : World) (a : Option Addr) (c : Nat) (h : IntsIn w.heap.size w a n D) (hg : LaidE w) => implVecDot_any w a n c D a n c D h h hg
  unfold lossN lossB
  rw [hD] at H1 h6 ⊢
  rw [hn] at h6
  rw [hf] at H1
  simp only [hq, ho] at HV
  rw [hq, ho, hf]
  obtain ⟨Q, hQ⟩ : ∃ Q, q / 2 = Q := ⟨_, rfl⟩
  rw [hQ] at ht ⊢
  obtain ⟨t1, t2⟩ := ht
  have t3 : wrap64 Q = Q := by rw [t2] at t1; exact t1
  have HN := Lib.hid hn
  replace HV := Lib.hid HV
  clear hD hn hq ho hf hq0 hq1 hQ
  cases f
  · go_enter Tryz.func103, Tryz.ntmps103
    go_wp2_with fail
    refine H1.out.mono ?_
    rintro e w1 ⟨v, rfl, hr, hb⟩
    obtain ⟨a, c, rfl, hi⟩ := hr.form' HN (by omega)
    have HI := Lib.hid hi
    have HB := Lib.hid hb
    clear hr hi hb
    go_wp2_with fail
    refine (HV.out w1 a c HI.out (HG.out.below hlt HB.out)).mono ?_
    rintro e w2 ⟨rfl, hb2⟩
    have HB2 := Lib.hid (HB.out.trans (hb2.mono HB.out.size))
    clear hb2
    go_wp2_with fail
    go_ret2
    exact ⟨by simp [t3], HB2.out⟩
  · go_enter Tryz.func103, Tryz.ntmps103
    go_wp2_with fail
    refine H1.out.mono ?_
    rintro e w1 ⟨v, rfl, hr, hb⟩
    obtain ⟨a, c, rfl, hi⟩ := hr.form' HN (by omega)
    have HI := Lib.hid hi
    have HB := Lib.hid hb
    clear hr hi hb
    go_wp2_with fail
    refine (HV.out w1 a c HI.out (HG.out.below hlt HB.out)).mono ?_
    rintro e w2 ⟨rfl, hb2⟩
    have HB2 := Lib.hid (HB.out.trans (hb2.mono HB.out.size))
    clear hb2
    go_wp2_with fail
    go_ret2
    exact ⟨by simp [t3], HB2.out⟩
end Go.Proofs.YtpnifgpmleaohaaGreatDoor

end

/-! YtpnifgpmleaohaaGreatDoorSeqE -/
section

namespace Go.Proofs.YtpnifgpmleaohaaGreatDoor
open Go.RowKit Go.Sort
set_option linter.unusedVariables false

theorem StepAt.weak {B0 B0' lo lo' BI j : Nat} {W : World} {x : dOp} {u : Value} (h : StepAt B0 lo W BI x j u) (hB : B0 ≤ B0') (hl : lo' ≤ lo) : StepAt B0' lo' W BI x j u := by
  obtain ⟨bo, bi, ae, ne, ce, rfl, h1, h2, h3, h4, h5, h6, h7⟩ := h
  exact ⟨bo, bi, ae, ne, ce, rfl, ⟨Nat.le_trans hl h1.1, h1.2⟩, ⟨Nat.le_trans hl h2.1, h2.2⟩, h3, h4, h5.le hB, h6, h7⟩
theorem batch_pairB (m : List dOp) (p : dPair) : batchOkB m [p] = pairOkB (inG (goodN m)) (outG (goodN m)) p := by
  rw [inG_good, outG_good]
  cases h : pairOkB (inOfN m) (outOfN m) p with
  | true =>
    unfold batchOkB
    rw [pair_model h, List.all_cons, h]
    rfl
  | false =>
    unfold batchOkB
    rw [List.all_cons, h]
    simp
theorem loss_marks (xs ys : List Int) : (lossB xs ys || flagP subB xs ys) = lossB xs ys := by
  unfold lossB
  cases flagP subB xs ys <;> simp
set_option maxRecDepth 100000 in
set_option maxHeartbeats 6400000 in
theorem implMicroGrads_o (w : World) (es : List Value) (m : dModel) (h : shModel.reads (Under w.heap.size) w es m) (hb : shModel.bulk m ≤ 1048576) (q : List Value) (p : dPair) (hq : shPair.reads (Under w.heap.size) w q p) (hb' : shPair.bulk p ≤ 1048576) (hg : LaidE w) :
    Calls Tryz.prog 35 #[.agg es.toArray, .agg q.toArray] w fun e w' => ∃ es', e = .returned (.agg es'.toArray) ∧ ownGrads.owns (FromB w.heap.size w'.heap.size) w' es' (microG m p) ∧ Below w.heap.size w w' := by
  obtain ⟨a, n, c, rfl, hc1, hc2, hl⟩ := shModel_reads.1 h
  obtain ⟨ax, nx, cx, at', nt, ct, rfl, ⟨gx, lx, mx⟩, ⟨gt, lt', mt⟩⟩ := shPair_reads.1 hq
  have hlen := hl.1
  rw [shPair_bulk, bulk_ints, bulk_ints] at hb'
  have hal3 : Below w.heap.size w (((w.alloc (.cells #[.slice a n c] 50 (0, 0))).alloc (.cells #[.slice ax nx cx, .slice at' nt ct] 66 (0, 0))).alloc (.cells #[.slice none 0 0, .int .i64 0, .bool false] 30 (0, 0))) := (((Below.refl _ _).alloc (Nat.le_refl _) _).alloc (by simp) _).alloc (by simp; omega) _
  have hA : (((w.alloc (.cells #[.slice a n c] 50 (0, 0))).alloc (.cells #[.slice ax nx cx, .slice at' nt ct] 66 (0, 0))).alloc (.cells #[.slice none 0 0, .int .i64 0, .bool false] 30 (0, 0))).heap[w.heap.size]? = some (.cells #[.slice a n c] 50 (0, 0)) := by
    rw [Below.heap_alloc _ _ _ (by simp; try omega), Below.heap_alloc _ _ _ (by simp)]
    exact heap_alloc_new w _
  have hB : (((w.alloc (.cells #[.slice a n c] 50 (0, 0))).alloc (.cells #[.slice ax nx cx, .slice at' nt ct] 66 (0, 0))).alloc (.cells #[.slice none 0 0, .int .i64 0, .bool false] 30 (0, 0))).heap[w.heap.size + 1]? = some (.cells #[.slice ax nx cx, .slice at' nt ct] 66 (0, 0)) := by
    rw [Below.heap_alloc _ _ _ (by simp)]
    have := heap_alloc_new (w.alloc (.cells #[.slice a n c] 50 (0, 0))) (.cells #[.slice ax nx cx, .slice at' nt ct] 66 (0, 0))
    simpa using this
  have hZ : (((w.alloc (.cells #[.slice a n c] 50 (0, 0))).alloc (.cells #[.slice ax nx cx, .slice at' nt ct] 66 (0, 0))).alloc (.cells #[.slice none 0 0, .int .i64 0, .bool false] 30 (0, 0))).heap[w.heap.size + 1 + 1]? = some (.cells #[.slice none 0 0, .int .i64 0, .bool false] 30 (0, 0)) := by
    have := heap_alloc_new ((w.alloc (.cells #[.slice a n c] 50 (0, 0))).alloc (.cells #[.slice ax nx cx, .slice at' nt ct] 66 (0, 0))) (.cells #[.slice none 0 0, .int .i64 0, .bool false] 30 (0, 0))
    simpa using this
  have hsz3 : (((w.alloc (.cells #[.slice a n c] 50 (0, 0))).alloc (.cells #[.slice ax nx cx, .slice at' nt ct] 66 (0, 0))).alloc (.cells #[.slice none 0 0, .int .i64 0, .bool false] 30 (0, 0))).heap.size = w.heap.size + 3 := by simp
  have HL := Lib.hid hl
  have HX := Lib.hid (mx.ints (by have := mx.1; omega))
  have HT := Lib.hid (mt.ints (by have := mt.1; omega))
  have hxl := mx.1
  have htl := mt.1
  have HBM := Lib.hid hb
  have HA := Lib.hid hA
  have HB := Lib.hid hB
  have HZ := Lib.hid hZ
  have H3 := Lib.hid hal3
  obtain ⟨k, hk⟩ : ∃ k, batchOkB m [p] = k := ⟨_, rfl⟩
  have HK := Lib.hid hk
  have HMX := Lib.hid mx
  have HMT := Lib.hid mt
  go_enter Tryz.func35, Tryz.ntmps35
  have hlt := hg.lt
  have HG := Lib.hid hg
  clear h hq hl hb hA hB hZ hal3 hk mx mt hg
  go_wp2_with fail
  generalize hw3 : ((w.alloc (.cells #[.slice a n c] 50 (0, 0))).alloc (.cells #[.slice ax nx cx, .slice at' nt ct] 66 (0, 0))).alloc (.cells #[.slice none 0 0, .int .i64 0, .bool false] 30 (0, 0)) = w3 at HA HB HZ H3 hsz3 ⊢
  clear hw3
  have z0 := box1 HA.out
  have y0 : w3.cell? ⟨w.heap.size + 1, 0, none⟩ = some (.slice ax nx cx) := by rw [cell_of_row _ _ _ _ _ _ HB.out]; rfl
  have y1 : w3.cell? ⟨w.heap.size + 1, 1, none⟩ = some (.slice at' nt ct) := by rw [cell_of_row _ _ _ _ _ _ HB.out]; rfl
  have hd3 : Below w.heap.size w w3.drew := H3.out.trans ⟨rfl, rfl, rfl, Nat.le_refl _, fun _ _ => rfl⟩
  have HMO := Lib.hid (implModelOf_b w3.drew w.heap.size hd3.size a n c m (HL.out.below hd3 (Nat.le_refl _)) hc1 hc2 HBM.out)
  have HFI := Lib.hid fun (w4 : World) (ag : Option Addr) (ng cg : Nat) (hb4 : Below w3.drew.heap.size w3.drew w4) (hlg : ListAt shOp (Under w.heap.size) w3.drew ag ng (goodN m)) => implFits_c w4 ag ng cg (goodN m) ((hlg.below hb4 hd3.size).le (Nat.le_trans hd3.size hb4.size)) (by rw [← hlg.1]; exact (goodN_le m).1) ax at' nx cx nt ct p ((HX.out.below (hd3.trans (hb4.mono hd3.size)) (Nat.le_refl _)).le (Nat.le_trans hd3.size hb4.size)) ((HT.out.below (hd3.trans (hb4.mono hd3.size)) (Nat.le_refl _)).le (Nat.le_trans hd3.size hb4.size))
  rw [Hid] at HFI
  simp only [← batch_pairB, HK.out] at HFI
  replace HFI := Lib.hid HFI
  clear hd3
  go_upto_region 1 with fail
  go_cut [19] (fun b wx => b = .bool (!k) ∧ Below w3.heap.size w3 wx)
  case first =>
    go_region_law (first
      | (go_simp; go_at_call 90; (with_reducible refine HMO.out.mono ?_); rintro e wt ⟨ag, ng, cg, rfl, hlg, -, -, hb⟩; have hbt : Below w3.heap.size w3 wt := ((Below.refl w3.heap.size w3).drew).trans hb; have HFT := Lib.hid (HFI.out wt ag ng cg hb hlg); have t0 : wt.cell? ⟨w.heap.size + 1, 0, none⟩ = some (.slice ax nx cx) := (by rw [cell_of_row _ _ _ _ _ _ ((hbt.block (w.heap.size + 1) (by omega)).trans HB.out)]; rfl); have t1 : wt.cell? ⟨w.heap.size + 1, 1, none⟩ = some (.slice at' nt ct) := (by rw [cell_of_row _ _ _ _ _ _ ((hbt.block (w.heap.size + 1) (by omega)).trans HB.out)]; rfl); have HBT := Lib.hid hbt; clear hb hbt hlg)
      | (go_simp; go_at_call 91; (with_reducible refine HFT.out.mono ?_); rintro e wu ⟨rfl, hb⟩; have HBU := Lib.hid (HBT.out.trans (hb.mono HBT.out.size)); clear hb))
    all_goals
      go_wp2_with fail
      go_meet
      case rel => exact ⟨rfl, HBU.out⟩
  case rest =>
    obtain ⟨rfl, hb5⟩ := hcut
    obtain ⟨w5, rfl⟩ : ∃ W, W = wc := ⟨_, rfl⟩
    have hs5' := hb5.size
    have h5 := Lib.hid (H3.out.trans (hb5.mono H3.out.size))
    have HA5 := Lib.hid ((hb5.block w.heap.size (by omega)).trans HA.out)
    have HB5 := Lib.hid ((hb5.block (w.heap.size + 1) (by omega)).trans HB.out)
    have HZ5 := Lib.hid ((hb5.block (w.heap.size + 1 + 1) (by omega)).trans HZ.out)
    have hs5 : w.heap.size + 3 ≤ w5.heap.size := by omega
    clear hb5 HMO HFI z0 y0 y1 HA HB HZ
    have z0 := box1 HA5.out
    have y0 : w5.cell? ⟨w.heap.size + 1, 0, none⟩ = some (.slice ax nx cx) := by rw [cell_of_row _ _ _ _ _ _ HB5.out]; rfl
    have y1 : w5.cell? ⟨w.heap.size + 1, 1, none⟩ = some (.slice at' nt ct) := by rw [cell_of_row _ _ _ _ _ _ HB5.out]; rfl
    obtain ⟨⟨d0, d1, d2⟩, f0, f1, f2⟩ := cellsG HZ5.out
    cases k
    · go_wp2_with fail
      refine bodyPost_ret (results_cell_row rfl _ _ (w.heap.size + 1 + 1) 30 #[.slice none 0 0, .int .i64 0, .bool false] (0, 0) _ rfl (store3 HZ5.out _ _ _) Tryz.underlying30 rfl (by kernel_rfl)) rfl ?_
      refine ⟨[.slice none 0 0, .int .i64 0, .bool false], rfl, ?_, set3_below h5.out (by omega) _ _ _⟩
      have hmg : microG m p = dNone := by unfold microG; rw [HK.out]; rfl
      rw [hmg]
      exact ownGrads_owns.2 ⟨none, 0, 0, rfl, Nat.le_refl _, by omega, rfl, .inl rfl⟩
    · obtain ⟨hm, hx1, hx6, ht6⟩ := batch_one HK.out
      have hpo := HK.out
      rw [batch_pairB, inG_good, outG_good] at hpo
      obtain ⟨q1, q2, q3, q4⟩ := pair_has hpo
      obtain ⟨-, hm1, hm8⟩ := modelOk_has hm
      rw [hlen] at hm1 hm8
      have hC := Lib.hid fun (w1 : World) (hb1 : Below w.heap.size w w1) => implInputs_yes w1 a n c m ((HL.out.below hb1 (Nat.le_refl _)).le hb1.size) hc1 hc2 HBM.out ax nx cx p.1 ((HX.out.below hb1 (Nat.le_refl _)).le hb1.size) (HG.out.below hlt hb1) q1 (by rw [← q3, hxl])
      go_wp2_with fail
      refine (hC.out w5 h5.out).mono ?_
      rintro e w6 ⟨v, rfl, hli, hb6⟩
      have hl6 := ListL.list hli (by decide)
      obtain ⟨ai, ci, rfl, hci1, hci2, hown⟩ := hl6
      rw [listK_length] at hci1 hown
      have hil := listK_length (inK m p.1) (n + 1)
      rw [hil] at hli ⊢
      obtain ⟨gi, ay, ny, cy, rfl, hj1, hg1, hg2, cgi, iy⟩ := hli.at n (inK m p.1 n) (listK_get _ _ _ (by omega)) (by have := (show (inK m p.1 n).length ≤ 6 from by cases n with | zero => omega | succ n => exact fwOp_length _ _); omega)
      have hs6 := hb6.size
      have h6 := Lib.hid (h5.out.trans (hb6.mono h5.out.size))
      have hA6 := (hb6.block w.heap.size (by omega)).trans HA5.out
      have hB6 := (hb6.block (w.heap.size + 1) (by omega)).trans HB5.out
      have hZ6 := (hb6.block (w.heap.size + 1 + 1) (by omega)).trans HZ5.out
      have HA6 := Lib.hid hA6
      have HB6 := Lib.hid hB6
      have HZ6 := Lib.hid hZ6
      have HIN := Lib.hid (hown.listAt (I := Under w6.heap.size) (fun b o f => f.2) (by decide))
      have HIY := Lib.hid iy
      obtain ⟨Y, hY⟩ : ∃ Y, inK m p.1 n = Y := ⟨_, rfl⟩
      have hYl : Y.length ≤ 6 := by rw [← hY]; cases n with | zero => omega | succ n => exact fwOp_length _ _
      have HY := Lib.hid hY
      rw [hY] at iy
      have hCL := Lib.hid fun (w7 : World) (hb7 : Below w6.heap.size w6 w7) => implLossOf_any w7 ay ny cy Y at' nt ct p.2 ((iy.below hb7 (Nat.le_refl _)).le hb7.size) ((HT.out.below (h6.out.trans (hb7.mono h6.out.size)) (Nat.le_refl _)).le (Nat.le_trans h6.out.size hb7.size)) (HG.out.below hlt (h6.out.trans (hb7.mono h6.out.size)))
      have hCV := Lib.hid fun (w7 : World) (hb7 : Below w6.heap.size w6 w7) => implVecSub_any w7 ay ny cy Y at' nt ct p.2 ((iy.below hb7 (Nat.le_refl _)).le hb7.size) ((HT.out.below (h6.out.trans (hb7.mono h6.out.size)) (Nat.le_refl _)).le (Nat.le_trans h6.out.size hb7.size)) (HG.out.below hlt (h6.out.trans (hb7.mono h6.out.size)))
      obtain ⟨LN, hLN⟩ : ∃ L, lossN Y p.2 = L := ⟨_, rfl⟩
      obtain ⟨LB, hLB⟩ : ∃ L, lossB Y p.2 = L := ⟨_, rfl⟩
      obtain ⟨DD, hDD⟩ : ∃ L, rowP subN Y p.2 = L := ⟨_, rfl⟩
      obtain ⟨DB, hDB⟩ : ∃ L, flagP subB Y p.2 = L := ⟨_, rfl⟩
      obtain ⟨IB, hIB⟩ : ∃ L, inKB m p.1 n = L := ⟨_, rfl⟩
      obtain ⟨BB, hBB⟩ : ∃ L, backKB m p.1 DD n = L := ⟨_, rfl⟩
      have hmk2 : (IB || LB || DB || BB) = (IB || LB || BB) := by
        have e := loss_marks Y p.2
        rw [hLB, hDB] at e
        rw [Bool.or_assoc IB LB DB, e]
      have hmg : microG m p = (gradsN m p.1 DD, LN, IB || LB || BB) := by
        unfold microG
        rw [HK.out, if_pos rfl, hlen, hY, hLN, hLB, hDD, hDB, hIB, hBB, hmk2]
      have HMG := Lib.hid hmg
      have hdl : DD.length ≤ 6 := by rw [← hDD]; have := rowP_length subN Y p.2; omega
      rw [Hid] at hCL hCV
      simp only [hLN, hLB] at hCL
      simp only [hDD, hDB] at hCV
      rw [hIB]
      have HCL := Lib.hid hCL
      have HCV := Lib.hid hCV
      have hin : ∀ j, j < n → (listK (inK m p.1) (n + 1))[j]? = some (inK m p.1 j) := fun j hj => listK_get _ _ _ (by omega)
      have HJ := Lib.hid hin
      have HBB := Lib.hid hBB
      clear z0 y0 y1 d0 d1 d2 f0 f1 f2 hCL hCV hmg hA6 hB6 hZ6 iy hown hli hb6 hY hLN hLB hDD hDB hIB hBB hin hC hmk2
      have z0 := box1 HA6.out
      have y0 : w6.cell? ⟨w.heap.size + 1, 0, none⟩ = some (.slice ax nx cx) := by rw [cell_of_row _ _ _ _ _ _ HB6.out]; rfl
      have y1 : w6.cell? ⟨w.heap.size + 1, 1, none⟩ = some (.slice at' nt ct) := by rw [cell_of_row _ _ _ _ _ _ HB6.out]; rfl
      have hix : wrap64 (((n + 1 : Nat) : Int) - 1) = (n : Int) := by rw [IntWalk.wrap64_in _ (by omega)]; omega
      have hix2 : wrap64 ((n : Int) + 1 - 1) = (n : Int) := by rw [IntWalk.wrap64_in _ (by omega)]; omega
      have hix3 : (n : Int) < (n : Int) + 1 := by omega
      go_wp2_with fail
      refine (HCL.out w6 (Below.refl _ _)).mono ?_
      rintro e w7 ⟨rfl, hb7⟩
      have hs7 := hb7.size
      have H7 := Lib.hid hb7
      have z7 := box1 ((hb7.block w.heap.size (by omega)).trans HA6.out)
      have x7 : w7.cell? ⟨w.heap.size + 1, 0, none⟩ = some (.slice ax nx cx) := by rw [cell_of_row _ _ _ _ _ _ ((hb7.block (w.heap.size + 1) (by omega)).trans HB6.out)]; rfl
      have y7 : w7.cell? ⟨w.heap.size + 1, 1, none⟩ = some (.slice at' nt ct) := by rw [cell_of_row _ _ _ _ _ _ ((hb7.block (w.heap.size + 1) (by omega)).trans HB6.out)]; rfl
      clear z0 y0 y1 hb7
      go_wp2_with fail
      refine (HCV.out w7 H7.out).mono ?_
      rintro e w8 ⟨vd, rfl, hrd, hb8⟩
      have hb68 := H7.out.trans (hb8.mono H7.out.size)
      have hs8 := hb68.size
      obtain ⟨a8, c8, rfl, hi8⟩ := hrd.form
      obtain ⟨n8, hn8⟩ : ∃ q, DD.length = q := ⟨_, rfl⟩
      have h8 := h6.out.trans (hb68.mono h6.out.size)
      clear HCL HCV
      have hS := Lib.hid (implStepsBack_any w8 a n c m ((HL.out.below h8 (Nat.le_refl _)).le h8.size) HBM.out (some ⟨gi, 0, none⟩) (n + 1) ci)
      have z8 := box1 ((hb68.block w.heap.size (by omega)).trans HA6.out)
      have H8 := Lib.hid h8
      have HZ8 := Lib.hid ((hb68.block (w.heap.size + 1 + 1) (by omega)).trans HZ6.out)
      have HIN8 := Lib.hid ((HIN.out.below hb68 (Nat.le_refl _)).le hb68.size)
      rw [hn8]
      have hd8 := hi8 (by omega)
      rw [hn8] at hd8
      have HD8 := Lib.hid hd8
      clear z7 x7 y7 hb8 hb68 h8 hrd hi8 hn8 hd8
      go_wp2_with fail
      refine hS.out.mono ?_
      rintro e w9 ⟨vs, us, rfl, hown, hI, hst, hb9⟩
      obtain ⟨gs, cs, rfl⟩ : ∃ gs cs, vs = .slice (some ⟨gs, 0, none⟩) n cs := by
        rcases hown.2 with ⟨-, hn⟩ | ⟨g, cap, cur, e, -⟩
        · omega
        · exact ⟨g, cap, e⟩
      have h9 := H8.out.trans (hb9.mono H8.out.size)
      have hB := implGoBack_any w9 m n hlen hm1 hm8 gs cs us (w8.heap.size + 1) w8.heap.size (some ⟨gi, 0, none⟩) (n + 1) ci p.1 hown hI
        (fun j x hx => by obtain ⟨u, e1, e2⟩ := hst j x hx; exact ⟨u, e1, e2.weak hb9.size (Nat.zero_le _)⟩) (listK (inK m p.1) (n + 1)) ((HIN8.out.below hb9 (Nat.le_refl _)).le hb9.size) HJ.out (by omega) a8 n8 c8 DD ((HD8.out.below hb9 (Nat.le_refl _)).le hb9.size) (HG.out.below hlt h9)
      rw [HBB.out] at hB
      have HBK := Lib.hid hB
      have H9 := Lib.hid h9
      have HZ9 := Lib.hid ((hb9.block (w.heap.size + 1 + 1) (by have := H8.out.size; omega)).trans HZ8.out)
      clear hown hI hst hb9 h9 hB z8
      go_wp2_with fail
      refine HBK.out.mono ?_
      rintro e w10 ⟨don, v, rfl, hdon, hli, hb10⟩
      obtain ⟨adn, cdn, rfl, -⟩ := hdon.form
      clear hdon
      obtain ⟨av, cv, rfl, hcv1, hcv2⟩ := hli.form
      have hgl : (gradsN m p.1 DD).length = n := by unfold gradsN; rw [listK_length, hlen]
      rw [hgl] at hli hcv1 ⊢
      have hs10 := hb10.size
      have hs9 := H9.out.size
      have hlo9 : w.heap.size + 3 ≤ w9.heap.size := by
        have h1 := (Array.getElem?_eq_some_iff.1 HZ9.out).1
        omega
      have h10 := Lib.hid (H9.out.trans (hb10.mono H9.out.size))
      have HZ10 := Lib.hid ((hb10.block (w.heap.size + 1 + 1) (by omega)).trans HZ9.out)
      obtain ⟨⟨d0, d1, d2⟩, f0, f1, f2⟩ := cellsG HZ10.out
      have HLI := Lib.hid hli
      have hend : ∀ ob : Bool, (IB || LB || BB) = ob → ownGrads.owns (FromB w.heap.size (((w10.setCell ⟨w.heap.size + 1 + 1, 0, none⟩ (.slice av n cv)).setCell ⟨w.heap.size + 1 + 1, 1, none⟩ (.int .i64 LN)).setCell ⟨w.heap.size + 1 + 1, 2, none⟩ (.bool ob)).heap.size) (((w10.setCell ⟨w.heap.size + 1 + 1, 0, none⟩ (.slice av n cv)).setCell ⟨w.heap.size + 1 + 1, 1, none⟩ (.int .i64 LN)).setCell ⟨w.heap.size + 1 + 1, 2, none⟩ (.bool ob)) [.slice av n cv, .int .i64 LN, .bool ob] (microG m p) := fun ob hob => by
        have hfin := ((HLI.out.stored (w.heap.size + 1 + 1) 0 (.slice av n cv) (by omega)).stored (w.heap.size + 1 + 1) 1 (.int .i64 LN) (by omega)).stored (w.heap.size + 1 + 1) 2 (.bool ob) (by omega)
        obtain ⟨a', cap, e1, e2, e3, e4⟩ := hfin.list (by decide)
        rw [hgl] at e1 e2 e4
        cases e1
        rw [HMG.out, hob]
        exact ownGrads_owns.2 ⟨_, _, _, rfl, e2, e3, e4.sub (fun b o f => ⟨by have := f.1; omega, by have := f.2; simpa using this⟩)⟩
      have HEND := Lib.hid hend
      clear hli hb10 hend hgl HBK HIN HIY HJ HIN8 HD8
      cases IB
      · cases LB
        · go_wp2_with fail
          refine bodyPost_ret (results_cell_row rfl _ _ (w.heap.size + 1 + 1) 30 #[.slice av n cv, .int .i64 LN, .bool BB] (0, 0) _ rfl (store3 HZ10.out _ _ _) Tryz.underlying30 rfl (by kernel_rfl)) rfl ?_
          exact ⟨[.slice av n cv, .int .i64 LN, .bool BB], rfl, HEND.out BB rfl, set3_below h10.out (by omega) _ _ _⟩
        · go_wp2_with fail
          refine bodyPost_ret (results_cell_row rfl _ _ (w.heap.size + 1 + 1) 30 #[.slice av n cv, .int .i64 LN, .bool true] (0, 0) _ rfl (store3 HZ10.out _ _ _) Tryz.underlying30 rfl (by kernel_rfl)) rfl ?_
          exact ⟨[.slice av n cv, .int .i64 LN, .bool true], rfl, HEND.out true rfl, set3_below h10.out (by omega) _ _ _⟩
      · go_wp2_with fail
        refine bodyPost_ret (results_cell_row rfl _ _ (w.heap.size + 1 + 1) 30 #[.slice av n cv, .int .i64 LN, .bool true] (0, 0) _ rfl (store3 HZ10.out _ _ _) Tryz.underlying30 rfl (by kernel_rfl)) rfl ?_
        exact ⟨[.slice av n cv, .int .i64 LN, .bool true], rfl, HEND.out true rfl, set3_below h10.out (by omega) _ _ _⟩
end Go.Proofs.YtpnifgpmleaohaaGreatDoor

end

/-! YtpnifgpmleaohaaGreatDoorBoxed -/
section

namespace Go.Proofs.YtpnifgpmleaohaaGreatDoor
open Go.RowKit
set_option linter.unusedVariables false
set_option linter.unusedSimpArgs false

/-- A box that was laid behind W. -/
def BoxIn (W w : World) (g : Nat) (o : Obj) : Prop := w.heap[g]? = some o ∧ W.heap.size ≤ g ∧ g < w.heap.size
theorem BoxIn.call {W w w' : World} {g : Nat} {o : Obj} (h : BoxIn W w g o) (hb : Below w.heap.size w w') : BoxIn W w' g o :=
  ⟨(hb.block g h.2.2).trans h.1, h.2.1, Nat.lt_of_lt_of_le h.2.2 hb.size⟩
theorem BoxIn.new {W w : World} (h : Below W.heap.size W w) (o : Obj) : BoxIn W (w.alloc o) w.heap.size o :=
  ⟨heap_alloc_new w o, h.size, by simp⟩
theorem BoxIn.drew {W w : World} {g : Nat} {o : Obj} (h : BoxIn W w g o) : BoxIn W w.drew g o := h
/-- What came out lies in its box, and reads. -/
def BoxedR {α : Type} (S : Shape α) (T : TypeId) (W wx : World) (t : Value) (v : α) : Prop :=
  ∃ g es, t = .pointer (some ⟨g, 0, none⟩) ∧ wx.heap[g]? = some (.cells es.toArray T (0, 0)) ∧ S.reads (Under wx.heap.size) wx es v ∧ W.heap.size ≤ g ∧ g < wx.heap.size ∧ Below W.heap.size W wx
theorem BoxedR.last {α : Type} {S : Shape α} {T : TypeId} {W w : World} {lo : Nat} {es : List Value} {v : α} (hB : Below W.heap.size W w) (hr : S.reads (From lo w.heap.size) w es v) :
    BoxedR S T W (w.alloc (.cells es.toArray T (0, 0))) (.pointer (some ⟨w.heap.size, 0, none⟩)) v := by
  have ha := (Below.refl w.heap.size w).alloc (Nat.le_refl _) (.cells es.toArray T (0, 0))
  exact ⟨_, es, rfl, heap_alloc_new w _, S.le (S.below (S.under hr) ha (Nat.le_refl _)) ha.size, hB.size, by simp, hB.trans (ha.mono hB.size)⟩
theorem BoxedR.early {α : Type} {S : Shape α} {T : TypeId} {W w : World} {lo g : Nat} {Z : Array Value} {es : List Value} {v : α} (hB : Below W.heap.size W w) (hr : S.reads (From lo w.heap.size) w es v)
    (hx : BoxIn W w g (.cells Z T (0, 0))) (hg : g < lo) (hz : Z.size = es.length) : BoxedR S T W (w.setCells g 0 es) (.pointer (some ⟨g, 0, none⟩)) v := by
  have hs := size_setCells g es 0 w
  have hT : Touched (fun b _ => b = g) w (w.setCells g 0 es) := touched_setCells _ _ _ _ fun _ _ => rfl
  refine ⟨g, es, rfl, ?_, ?_, hx.2.1, by rw [hs]; exact hx.2.2, below_setCells g hx.2.1 _ _ _ hB⟩
  · have := heap_setCells_all g T es [] Z.toList w (by simpa using hz) (by simpa using hx.1)
    simpa using this
  · rw [hs]
    exact S.under (S.keep hr fun b hb => hT.block b fun _ e => by
      have e' : b = g := e
      have := hb.1
      omega)
theorem BoxedR.early1 {α : Type} {S : Shape α} {T : TypeId} {W w : World} {lo g : Nat} {v0 z0 : Value} {v : α} (hB : Below W.heap.size W w) (hr : S.reads (From lo w.heap.size) w [v0] v)
    (hx : BoxIn W w g (.cells #[z0] T (0, 0))) (hg : g < lo) : BoxedR S T W (w.setCell ⟨g, 0, none⟩ v0) (.pointer (some ⟨g, 0, none⟩)) v := by
  have h := BoxedR.early hB hr hx hg rfl
  simp only [World.setCells, Nat.zero_add, Nat.reduceAdd] at h
  exact h
theorem BoxedR.early2 {α : Type} {S : Shape α} {T : TypeId} {W w : World} {lo g : Nat} {v0 v1 z0 z1 : Value} {v : α} (hB : Below W.heap.size W w) (hr : S.reads (From lo w.heap.size) w [v0, v1] v)
    (hx : BoxIn W w g (.cells #[z0, z1] T (0, 0))) (hg : g < lo) : BoxedR S T W ((w.setCell ⟨g, 0, none⟩ v0).setCell ⟨g, 1, none⟩ v1) (.pointer (some ⟨g, 0, none⟩)) v := by
  have h := BoxedR.early hB hr hx hg rfl
  simp only [World.setCells, Nat.zero_add, Nat.reduceAdd] at h
  exact h
theorem BoxedR.early3 {α : Type} {S : Shape α} {T : TypeId} {W w : World} {lo g : Nat} {v0 v1 v2 z0 z1 z2 : Value} {v : α} (hB : Below W.heap.size W w) (hr : S.reads (From lo w.heap.size) w [v0, v1, v2] v)
    (hx : BoxIn W w g (.cells #[z0, z1, z2] T (0, 0))) (hg : g < lo) : BoxedR S T W (((w.setCell ⟨g, 0, none⟩ v0).setCell ⟨g, 1, none⟩ v1).setCell ⟨g, 2, none⟩ v2) (.pointer (some ⟨g, 0, none⟩)) v := by
  have h := BoxedR.early hB hr hx hg rfl
  simp only [World.setCells, Nat.zero_add, Nat.reduceAdd] at h
  exact h
theorem BoxedR.early4 {α : Type} {S : Shape α} {T : TypeId} {W w : World} {lo g : Nat} {v0 v1 v2 v3 z0 z1 z2 z3 : Value} {v : α} (hB : Below W.heap.size W w) (hr : S.reads (From lo w.heap.size) w [v0, v1, v2, v3] v)
    (hx : BoxIn W w g (.cells #[z0, z1, z2, z3] T (0, 0))) (hg : g < lo) : BoxedR S T W ((((w.setCell ⟨g, 0, none⟩ v0).setCell ⟨g, 1, none⟩ v1).setCell ⟨g, 2, none⟩ v2).setCell ⟨g, 3, none⟩ v3) (.pointer (some ⟨g, 0, none⟩)) v := by
  have h := BoxedR.early hB hr hx hg rfl
  simp only [World.setCells, Nat.zero_add, Nat.reduceAdd] at h
  exact h
theorem BoxedR.early5 {α : Type} {S : Shape α} {T : TypeId} {W w : World} {lo g : Nat} {v0 v1 v2 v3 v4 z0 z1 z2 z3 z4 : Value} {v : α} (hB : Below W.heap.size W w) (hr : S.reads (From lo w.heap.size) w [v0, v1, v2, v3, v4] v)
    (hx : BoxIn W w g (.cells #[z0, z1, z2, z3, z4] T (0, 0))) (hg : g < lo) : BoxedR S T W (((((w.setCell ⟨g, 0, none⟩ v0).setCell ⟨g, 1, none⟩ v1).setCell ⟨g, 2, none⟩ v2).setCell ⟨g, 3, none⟩ v3).setCell ⟨g, 4, none⟩ v4) (.pointer (some ⟨g, 0, none⟩)) v := by
  have h := BoxedR.early hB hr hx hg rfl
  simp only [World.setCells, Nat.zero_add, Nat.reduceAdd] at h
  exact h
theorem BoxedR.early6 {α : Type} {S : Shape α} {T : TypeId} {W w : World} {lo g : Nat} {v0 v1 v2 v3 v4 v5 z0 z1 z2 z3 z4 z5 : Value} {v : α} (hB : Below W.heap.size W w) (hr : S.reads (From lo w.heap.size) w [v0, v1, v2, v3, v4, v5] v)
    (hx : BoxIn W w g (.cells #[z0, z1, z2, z3, z4, z5] T (0, 0))) (hg : g < lo) : BoxedR S T W ((((((w.setCell ⟨g, 0, none⟩ v0).setCell ⟨g, 1, none⟩ v1).setCell ⟨g, 2, none⟩ v2).setCell ⟨g, 3, none⟩ v3).setCell ⟨g, 4, none⟩ v4).setCell ⟨g, 5, none⟩ v5) (.pointer (some ⟨g, 0, none⟩)) v := by
  have h := BoxedR.early hB hr hx hg rfl
  simp only [World.setCells, Nat.zero_add, Nat.reduceAdd] at h
  exact h
theorem BoxedR.early7 {α : Type} {S : Shape α} {T : TypeId} {W w : World} {lo g : Nat} {v0 v1 v2 v3 v4 v5 v6 z0 z1 z2 z3 z4 z5 z6 : Value} {v : α} (hB : Below W.heap.size W w) (hr : S.reads (From lo w.heap.size) w [v0, v1, v2, v3, v4, v5, v6] v)
    (hx : BoxIn W w g (.cells #[z0, z1, z2, z3, z4, z5, z6] T (0, 0))) (hg : g < lo) : BoxedR S T W (((((((w.setCell ⟨g, 0, none⟩ v0).setCell ⟨g, 1, none⟩ v1).setCell ⟨g, 2, none⟩ v2).setCell ⟨g, 3, none⟩ v3).setCell ⟨g, 4, none⟩ v4).setCell ⟨g, 5, none⟩ v5).setCell ⟨g, 6, none⟩ v6) (.pointer (some ⟨g, 0, none⟩)) v := by
  have h := BoxedR.early hB hr hx hg rfl
  simp only [World.setCells, Nat.zero_add, Nat.reduceAdd] at h
  exact h
theorem BoxedR.early8 {α : Type} {S : Shape α} {T : TypeId} {W w : World} {lo g : Nat} {v0 v1 v2 v3 v4 v5 v6 v7 z0 z1 z2 z3 z4 z5 z6 z7 : Value} {v : α} (hB : Below W.heap.size W w) (hr : S.reads (From lo w.heap.size) w [v0, v1, v2, v3, v4, v5, v6, v7] v)
    (hx : BoxIn W w g (.cells #[z0, z1, z2, z3, z4, z5, z6, z7] T (0, 0))) (hg : g < lo) : BoxedR S T W ((((((((w.setCell ⟨g, 0, none⟩ v0).setCell ⟨g, 1, none⟩ v1).setCell ⟨g, 2, none⟩ v2).setCell ⟨g, 3, none⟩ v3).setCell ⟨g, 4, none⟩ v4).setCell ⟨g, 5, none⟩ v5).setCell ⟨g, 6, none⟩ v6).setCell ⟨g, 7, none⟩ v7) (.pointer (some ⟨g, 0, none⟩)) v := by
  have h := BoxedR.early hB hr hx hg rfl
  simp only [World.setCells, Nat.zero_add, Nat.reduceAdd] at h
  exact h
end Go.Proofs.YtpnifgpmleaohaaGreatDoor

end

/-! YtpnifgpmleaohaaGreatDoorOpen -/
section

namespace Go.Proofs.YtpnifgpmleaohaaGreatDoor
open Go.RowKit Go.WideShapes
set_option linter.unusedVariables false

theorem open_list {α H : Type} {enc : TypeId × Value → H} {P : Program} {w : World} {r : Reach} {b0 base : Nat} {spare : Nat → Bool} {held : Bool} {t e : TypeId} {v : Value} {d : DataW H} {p : List MemPlace} (S : Shape α)
    (ht : P.underlying t = some (.slice e)) (hf : (Shape.list S).fits P t = true) (hv : Value.okWide P w r b0 t v) (h : DataW.Trod enc P w base spare held t v d p) :
    ∃ a n c xs, v = .slice a n c ∧ n ≤ 9223372036854775807 ∧ ListAt S (Under w.heap.size) w a n xs := by
  obtain ⟨a, n, c, rfl⟩ := okWide_slice ht hv
  obtain ⟨fuel, hfu⟩ := h
  obtain ⟨xs, a', n', c', e', h1, h2, h3⟩ := (Shape.list S).opens hf hfu
  have e2 : [Value.slice a n c] = [Value.slice a' n' c'] := e'
  cases e2
  exact ⟨a, n, c, xs, rfl, by omega, h3⟩
theorem open_struct {α H : Type} {enc : TypeId × Value → H} {P : Program} {w : World} {r : Reach} {b0 base : Nat} {spare : Nat → Bool} {held : Bool} {t : TypeId} {fs : Array Field} {v : Value} {d : DataW H} {p : List MemPlace} (S : Shape α)
    (ht : P.underlying t = some (.struct fs)) (hf : S.fits P t = true) (hv : Value.okWide P w r b0 t v) (h : DataW.Trod enc P w base spare held t v d p) :
    ∃ es x, v = .agg es.toArray ∧ S.reads (Under w.heap.size) w es x := by
  obtain ⟨cs, rfl, _⟩ := okWide_struct ht hv
  obtain ⟨fuel, hfu⟩ := h
  obtain ⟨x, hx⟩ := S.opens hf hfu
  exact ⟨cs.toList, x, by simp, hx⟩
end Go.Proofs.YtpnifgpmleaohaaGreatDoor

end

/-! YtpnifgpmleaohaaGreatDoorSeqOM -/
section

namespace Go.Proofs.YtpnifgpmleaohaaGreatDoor
open Go.RowKit
set_option linter.unusedVariables false
set_option linter.unusedSimpArgs false

set_option maxRecDepth 100000 in
set_option maxHeartbeats 12800000 in
theorem lawMicroGrads_any (w : World) (es0 : List Value) (x0 : dModel) (h0 : shModel.reads (Under w.heap.size) w es0 x0) (es1 : List Value) (x1 : dPair) (h1 : shPair.reads (Under w.heap.size) w es1 x1) (hg : LaidE w) :
    Calls Tryz.prog 6 #[(.agg es0.toArray), (.agg es1.toArray)] w fun e w' => e = .returned (.bool true) ∧ Below w.heap.size w w' := by
  obtain ⟨a0_0, n0_0, c0_0, rfl, -⟩ := shModel_reads.1 h0
  obtain ⟨u0, hu0⟩ : ∃ u, shModel.bulk x0 = u := ⟨_, rfl⟩
  obtain ⟨k0, hk0⟩ : ∃ k, ownModel.ctT x0 = k := ⟨_, rfl⟩
  have K0 := Lib.hid hk0
  have fw0 : k0 ≤ 16 * u0 := by rw [← hk0, ← hu0]; exact ownModel_few x0
  have U0 := Lib.hid hu0
  have F0 := Lib.hid h0
  obtain ⟨a1_0, n1_0, c1_0, a1_1, n1_1, c1_1, rfl, -⟩ := shPair_reads.1 h1
  obtain ⟨u1, hu1⟩ : ∃ u, shPair.bulk x1 = u := ⟨_, rfl⟩
  obtain ⟨k1, hk1⟩ : ∃ k, ownPair.ctT x1 = k := ⟨_, rfl⟩
  have K1 := Lib.hid hk1
  have fw1 : k1 ≤ 16 * u1 := by rw [← hk1, ← hu1]; exact ownPair_few x1
  have U1 := Lib.hid hu1
  have F1 := Lib.hid h1
  have T := Lib.hid (Below.refl w.heap.size w)
  have hlt := hg.lt
  have HG := Lib.hid hg
  clear hu0 hk0 h0 hu1 hk1 h1 hg
  by_cases f0 : ((u0 : Nat) : Int) ≤ 1048576
  · skip
    by_cases f1 : ((u0 + u1 : Nat) : Int) ≤ 1048576
    · have hk0 : ((w.alloc (.cells #[.slice a0_0 n0_0 c0_0] 69 (0, 0))).alloc (.cells #[.slice a1_0 n1_0 c1_0, .slice a1_1 n1_1 c1_1] 70 (0, 0))).heap[w.heap.size]? = some (.cells #[.slice a0_0 n0_0 c0_0] 69 (0, 0)) := by
        rw [Below.heap_alloc _ _ _ (by simp)]
        have := heap_alloc_new w (.cells #[.slice a0_0 n0_0 c0_0] 69 (0, 0))
        simpa using this
      have hk1 : ((w.alloc (.cells #[.slice a0_0 n0_0 c0_0] 69 (0, 0))).alloc (.cells #[.slice a1_0 n1_0 c1_0, .slice a1_1 n1_1 c1_1] 70 (0, 0))).heap[w.heap.size + 1]? = some (.cells #[.slice a1_0 n1_0 c1_0, .slice a1_1 n1_1 c1_1] 70 (0, 0)) := by
        have := heap_alloc_new (w.alloc (.cells #[.slice a0_0 n0_0 c0_0] 69 (0, 0))) (.cells #[.slice a1_0 n1_0 c1_0, .slice a1_1 n1_1 c1_1] 70 (0, 0))
        simpa using this
      have hb := ((Below.refl w.heap.size w).alloc (Nat.le_refl _) (.cells #[.slice a0_0 n0_0 c0_0] 69 (0, 0))).alloc (by simp) (.cells #[.slice a1_0 n1_0 c1_0, .slice a1_1 n1_1 c1_1] 70 (0, 0))
      have szw1 : w.heap.size + 2 = ((w.alloc (.cells #[.slice a0_0 n0_0 c0_0] 69 (0, 0))).alloc (.cells #[.slice a1_0 n1_0 c1_0, .slice a1_1 n1_1 c1_1] 70 (0, 0))).heap.size := by simp
      go_enter Tryz.func6, Tryz.ntmps6
      go_wp2_with fail
      generalize ((w.alloc (.cells #[.slice a0_0 n0_0 c0_0] 69 (0, 0))).alloc (.cells #[.slice a1_0 n1_0 c1_0, .slice a1_1 n1_1 c1_1] 70 (0, 0))) = w1 at hb szw1 hk0 hk1 ⊢
      replace F0 := Lib.hid (shModel.below F0.out hb (by omega))
      replace F1 := Lib.hid (shPair.below F1.out hb (by omega))
      replace T := Lib.hid (T.out.trans (hb.mono (by omega)))
      have AB0 := Lib.hid hk0
      have AB1 := Lib.hid hk1
      clear hb hk0 hk1
      have hc := szModel_c _ _ _ x0 (1048576) F0.out (by omega) (by omega) (by omega)
      rw [U0.out, szN_yes (by omega)] at hc
      obtain ⟨l0, hl0⟩ : ∃ l, 1048576 - (u0 : Int) = l := ⟨_, rfl⟩
      rw [hl0] at hc
      have t0 : decide (l0 < 0) = false := decide_eq_false (by omega)
      have HC := Lib.hid hc
      clear hc
      refine HC.out.mono ?_
      rintro e w2 ⟨rfl, hb⟩
      clear HC
      have szw2 := hb.size
      replace F0 := Lib.hid (shModel.below F0.out hb (by omega))
      replace F1 := Lib.hid (shPair.below F1.out hb (by omega))
      replace AB0 := Lib.hid ((hb.block w.heap.size (by omega)).trans AB0.out)
      replace AB1 := Lib.hid ((hb.block (w.heap.size + 1) (by omega)).trans AB1.out)
      replace T := Lib.hid (T.out.trans (hb.mono (by omega)))
      clear hb
      have hc := szPair_c _ _ _ x1 (l0) F1.out (by omega) (by omega) (by omega)
      rw [U1.out, szN_yes (by omega)] at hc
      obtain ⟨l1, hl1⟩ : ∃ l, l0 - (u1 : Int) = l := ⟨_, rfl⟩
      rw [hl1] at hc
      have t1 : decide (l1 < 0) = false := decide_eq_false (by omega)
      have HC := Lib.hid hc
      clear hc
      have za_0 := cell_of_row _ (w.heap.size + 1) 0 _ _ _ AB1.out
      have za_1 := cell_of_row _ (w.heap.size + 1) 1 _ _ _ AB1.out
      simp only [List.getElem?_toArray, List.getElem?_cons_zero, List.getElem?_cons_succ] at za_0 za_1
      go_wp2_with fail
      clear za_0 za_1
      refine HC.out.mono ?_
      rintro e w3 ⟨rfl, hb⟩
      clear HC
      have szw3 := hb.size
      replace F0 := Lib.hid (shModel.below F0.out hb (by omega))
      replace F1 := Lib.hid (shPair.below F1.out hb (by omega))
      replace AB0 := Lib.hid ((hb.block w.heap.size (by omega)).trans AB0.out)
      replace AB1 := Lib.hid ((hb.block (w.heap.size + 1) (by omega)).trans AB1.out)
      replace T := Lib.hid (T.out.trans (hb.mono (by omega)))
      clear hb
      have ub : u0 + u1 ≤ 1048576 := by omega
      obtain ⟨v, hv⟩ : ∃ v, microG x0 x1 = v := ⟨_, rfl⟩
      have vb : shGrads.bulk v ≤ 1048576 := by
        rw [← hv]
        exact micro_small x0 x1
      obtain ⟨kv, hkv⟩ : ∃ k, ownGrads.ctT v = k := ⟨_, rfl⟩
      have fwv : kv ≤ 16777216 := by rw [← hkv]; have := ownGrads_few v; omega
      have KV := Lib.hid hkv
      have HV := Lib.hid hv
      clear hv hkv
      have zs0_0 := cell_of_row _ w.heap.size 0 _ _ _ AB0.out
      simp only [List.getElem?_toArray, List.getElem?_cons_zero, List.getElem?_cons_succ] at zs0_0
      have zs1_0 := cell_of_row _ (w.heap.size + 1) 0 _ _ _ AB1.out
      have zs1_1 := cell_of_row _ (w.heap.size + 1) 1 _ _ _ AB1.out
      simp only [List.getElem?_toArray, List.getElem?_cons_zero, List.getElem?_cons_succ] at zs1_0 zs1_1
      have zr0_0 := cell_of_row _ w.heap.size 0 _ _ _ ((heap_alloc_old w3 (.cells #[.slice none 0 0, .int .i64 0, .bool false] 30 (0, 0)) (show w.heap.size < w3.heap.size by omega)).trans AB0.out)
      simp only [List.getElem?_toArray, List.getElem?_cons_zero, List.getElem?_cons_succ] at zr0_0
      have zr1_0 := cell_of_row _ (w.heap.size + 1) 0 _ _ _ ((heap_alloc_old w3 (.cells #[.slice none 0 0, .int .i64 0, .bool false] 30 (0, 0)) (show (w.heap.size + 1) < w3.heap.size by omega)).trans AB1.out)
      have zr1_1 := cell_of_row _ (w.heap.size + 1) 1 _ _ _ ((heap_alloc_old w3 (.cells #[.slice none 0 0, .int .i64 0, .bool false] 30 (0, 0)) (show (w.heap.size + 1) < w3.heap.size by omega)).trans AB1.out)
      simp only [List.getElem?_toArray, List.getElem?_cons_zero, List.getElem?_cons_succ] at zr1_0 zr1_1
      go_upto_region 8 with fail
      go_cut [6] (fun t wx => BoxedR shGrads 30 w3 wx t v)
      case first =>
        have hA0 : w.heap.size < w3.heap.size := by omega
        have hA1 : (w.heap.size + 1) < w3.heap.size := by omega
        have hdr : Below w3.heap.size w3 w3.drew := (Below.refl _ _).drew
        have hdra : Below w3.heap.size w3 (w3.alloc (.cells #[.slice none 0 0, .int .i64 0, .bool false] 30 (0, 0))).drew := ((Below.refl _ _).alloc (Nat.le_refl _) _).drew
        have DR := Lib.hid hdr
        have DRA := Lib.hid hdra
        clear hdr hdra
        have HC0 := Lib.hid fun (w1 : World) (hb : Below w3.heap.size w3 w1) => toModel_c w1 _ _ x0 (shModel.below F0.out hb (by omega)) (by have := hb.size; omega) (by rw [U0.out]; omega)
        have HC1 := Lib.hid fun (w1 : World) (hb : Below w3.heap.size w3 w1) => toPair_c w1 _ _ x1 (shPair.below F1.out hb (by omega)) (by have := hb.size; omega) (by rw [U1.out]; omega)
        have HF := Lib.hid fun (w1 : World) (hb1 : Below w3.heap.size w3 w1) (q0 : List Value) (hr0 : shModel.reads (Under w1.heap.size) w1 q0 x0) (q1 : List Value) (hr1 : shPair.reads (Under w1.heap.size) w1 q1 x1) => specMicroGrads_o w1 q0 x0 hr0 (by rw [U0.out]; omega) q1 x1 hr1 (by rw [U1.out]; omega)
        simp only [HV.out] at HF
        clear szw1 szw2 szw3
        go_region_law (go_simp; first
          | (go_at_call 39; (with_reducible refine (HC0.out _ DR.out).mono ?_); rintro e t0 ⟨eg0, rfl, hr, hb⟩; have hp := DR.out; obtain ⟨ag0_0, ng0_0, cg0_0, rfl, -⟩ := shModel_reads.1 hr; have R0 := Lib.hid (shModel.under hr); have B := Lib.hid (hp.trans (hb.mono hp.size)); have zz0_1_0 := cell_of_row _ (w.heap.size + 1) 0 _ _ _ ((B.out.block (w.heap.size + 1) hA1).trans AB1.out); have zz0_1_1 := cell_of_row _ (w.heap.size + 1) 1 _ _ _ ((B.out.block (w.heap.size + 1) hA1).trans AB1.out); have zm0_1_0 := cell_of_row _ (w.heap.size + 1) 0 _ _ _ ((heap_alloc_old t0 (.cells #[.slice none 0 0, .int .i64 0, .bool false] 30 (0, 0)) (Nat.lt_of_lt_of_le hA1 B.out.size)).trans ((B.out.block (w.heap.size + 1) hA1).trans AB1.out)); have zm0_1_1 := cell_of_row _ (w.heap.size + 1) 1 _ _ _ ((heap_alloc_old t0 (.cells #[.slice none 0 0, .int .i64 0, .bool false] 30 (0, 0)) (Nat.lt_of_lt_of_le hA1 B.out.size)).trans ((B.out.block (w.heap.size + 1) hA1).trans AB1.out)); simp only [List.getElem?_toArray, List.getElem?_cons_zero, List.getElem?_cons_succ] at zz0_1_0 zm0_1_0 zz0_1_1 zm0_1_1; clear hb hr hp)
          | (go_at_call 39; (with_reducible refine (HC0.out _ DRA.out).mono ?_); rintro e t0 ⟨eg0, rfl, hr, hb⟩; have hp := DRA.out; have BX := Lib.hid ((BoxIn.new (Below.refl w3.heap.size w3) (.cells #[.slice none 0 0, .int .i64 0, .bool false] 30 (0, 0))).drew.call hb); obtain ⟨ag0_0, ng0_0, cg0_0, rfl, -⟩ := shModel_reads.1 hr; have R0 := Lib.hid (shModel.under hr); have B := Lib.hid (hp.trans (hb.mono hp.size)); have zz0_1_0 := cell_of_row _ (w.heap.size + 1) 0 _ _ _ ((B.out.block (w.heap.size + 1) hA1).trans AB1.out); have zz0_1_1 := cell_of_row _ (w.heap.size + 1) 1 _ _ _ ((B.out.block (w.heap.size + 1) hA1).trans AB1.out); have zm0_1_0 := cell_of_row _ (w.heap.size + 1) 0 _ _ _ ((heap_alloc_old t0 (.cells #[.slice none 0 0, .int .i64 0, .bool false] 30 (0, 0)) (Nat.lt_of_lt_of_le hA1 B.out.size)).trans ((B.out.block (w.heap.size + 1) hA1).trans AB1.out)); have zm0_1_1 := cell_of_row _ (w.heap.size + 1) 1 _ _ _ ((heap_alloc_old t0 (.cells #[.slice none 0 0, .int .i64 0, .bool false] 30 (0, 0)) (Nat.lt_of_lt_of_le hA1 B.out.size)).trans ((B.out.block (w.heap.size + 1) hA1).trans AB1.out)); simp only [List.getElem?_toArray, List.getElem?_cons_zero, List.getElem?_cons_succ] at zz0_1_0 zm0_1_0 zz0_1_1 zm0_1_1; clear hb hr hp)
          | (go_at_call 40; (with_reducible refine (HC1.out _ B.out).mono ?_); rintro e t1 ⟨eg1, rfl, hr, hb⟩; have hp := B.out; have hbb := hb; (try replace BX := Lib.hid (BX.out.call hb)); obtain ⟨ag1_0, ng1_0, cg1_0, ag1_1, ng1_1, cg1_1, rfl, -⟩ := shPair_reads.1 hr; replace R0 := Lib.hid (shModel.le (shModel.below R0.out hbb (Nat.le_refl _)) hbb.size); have R1 := Lib.hid (shPair.under hr); replace B := Lib.hid (hp.trans (hb.mono hp.size)); clear hb hr hp hbb)
          | (go_at_call 40; (with_reducible refine (HC1.out _ (B.out.alloc B.out.size (.cells #[.slice none 0 0, .int .i64 0, .bool false] 30 (0, 0)))).mono ?_); rintro e t1 ⟨eg1, rfl, hr, hb⟩; have hp := B.out.alloc B.out.size (.cells #[.slice none 0 0, .int .i64 0, .bool false] 30 (0, 0)); have hbb := ((Below.refl _ t0).alloc (Nat.le_refl _) (.cells #[.slice none 0 0, .int .i64 0, .bool false] 30 (0, 0))).trans (hb.mono (by simp)); have BX := Lib.hid ((BoxIn.new B.out (.cells #[.slice none 0 0, .int .i64 0, .bool false] 30 (0, 0))).call hb); obtain ⟨ag1_0, ng1_0, cg1_0, ag1_1, ng1_1, cg1_1, rfl, -⟩ := shPair_reads.1 hr; replace R0 := Lib.hid (shModel.le (shModel.below R0.out hbb (Nat.le_refl _)) hbb.size); have R1 := Lib.hid (shPair.under hr); replace B := Lib.hid (hp.trans (hb.mono hp.size)); clear hb hr hp hbb)
          | (go_at_call 38; (with_reducible refine (HF.out _ B.out _ R0.out _ R1.out).mono ?_); rintro e tq ⟨ew, rfl, hr, hb⟩; have hp := B.out; (try (have BL := Lib.hid BX.out.2.2; replace BX := Lib.hid (BX.out.call hb); have yy_0 := cell_of_row _ _ 0 _ _ _ BX.out.1; have ff_0 := frozen_of_row _ _ 0 _ _ BX.out.1; have yy_1 := cell_of_row _ _ 1 _ _ _ BX.out.1; have ff_1 := frozen_of_row _ _ 1 _ _ BX.out.1; have yy_2 := cell_of_row _ _ 2 _ _ _ BX.out.1; have ff_2 := frozen_of_row _ _ 2 _ _ BX.out.1; simp only [List.getElem?_toArray, List.getElem?_cons_zero, List.getElem?_cons_succ] at yy_0 yy_1 yy_2)); obtain ⟨aq_0, nq_0, cq_0, rfl, -⟩ := shGrads_reads.1 hr; have BQ := Lib.hid (hp.trans (hb.mono hp.size)); have RQ := Lib.hid hr; clear hb hr hp)
          | (go_at_call 38; (with_reducible refine (HF.out _ (B.out.alloc B.out.size (.cells #[.slice none 0 0, .int .i64 0, .bool false] 30 (0, 0))) _ (shModel.le (shModel.below R0.out ((Below.refl _ _).alloc (Nat.le_refl _) (.cells #[.slice none 0 0, .int .i64 0, .bool false] 30 (0, 0))) (Nat.le_refl _)) (by simp)) _ (shPair.le (shPair.below R1.out ((Below.refl _ _).alloc (Nat.le_refl _) (.cells #[.slice none 0 0, .int .i64 0, .bool false] 30 (0, 0))) (Nat.le_refl _)) (by simp))).mono ?_); rintro e tq ⟨ew, rfl, hr, hb⟩; have hp := B.out.alloc B.out.size (.cells #[.slice none 0 0, .int .i64 0, .bool false] 30 (0, 0)); have BX := Lib.hid ((BoxIn.new B.out (.cells #[.slice none 0 0, .int .i64 0, .bool false] 30 (0, 0))).call hb); have BL : Hid (t1.heap.size < (t1.alloc (.cells #[.slice none 0 0, .int .i64 0, .bool false] 30 (0, 0))).heap.size) := Lib.hid (by simp); have yy_0 := cell_of_row _ _ 0 _ _ _ BX.out.1; have ff_0 := frozen_of_row _ _ 0 _ _ BX.out.1; have yy_1 := cell_of_row _ _ 1 _ _ _ BX.out.1; have ff_1 := frozen_of_row _ _ 1 _ _ BX.out.1; have yy_2 := cell_of_row _ _ 2 _ _ _ BX.out.1; have ff_2 := frozen_of_row _ _ 2 _ _ BX.out.1; simp only [List.getElem?_toArray, List.getElem?_cons_zero, List.getElem?_cons_succ] at yy_0 yy_1 yy_2; obtain ⟨aq_0, nq_0, cq_0, rfl, -⟩ := shGrads_reads.1 hr; have BQ := Lib.hid (hp.trans (hb.mono hp.size)); have RQ := Lib.hid hr; clear hb hr hp))
        all_goals
          clear zs0_0 zr0_0 zs1_0 zs1_1 zr1_0 zr1_1
          try clear zz0_1_0 zm0_1_0 zz0_1_1 zm0_1_1
          try clear yy_0 ff_0 yy_1 ff_1 yy_2 ff_2
          clear HF DR DRA HC0 HC1
          go_wp2_with fail
          go_meet
          case rel => first | (with_reducible exact BoxedR.last BQ.out RQ.out) | (with_reducible exact BoxedR.early3 BQ.out RQ.out BX.out BL.out)
      case rest =>
        clear zs0_0
        clear zr0_0
        clear zs1_0 zs1_1
        clear zr1_0 zr1_1
        obtain ⟨gW, eW, rfl, hk, hr, hg1, hg2, hb⟩ := hcut
        obtain ⟨w4, rfl⟩ : ∃ x, x = wc := ⟨_, rfl⟩
        have szw4 := hb.size
        replace F0 := Lib.hid (shModel.below F0.out hb (by omega))
        replace F1 := Lib.hid (shPair.below F1.out hb (by omega))
        replace AB0 := Lib.hid ((hb.block w.heap.size (by omega)).trans AB0.out)
        replace AB1 := Lib.hid ((hb.block (w.heap.size + 1) (by omega)).trans AB1.out)
        replace T := Lib.hid (T.out.trans (hb.mono (by omega)))
        clear hb
        obtain ⟨aW_0, nW_0, cW_0, rfl, -⟩ := shGrads_reads.1 hr
        have W := Lib.hid hr
        have BW := Lib.hid hk
        clear hr hk
        have HC := Lib.hid (toModel_o _ _ _ x0 F0.out (by omega) (by rw [U0.out]; omega))
        have za_0 := cell_of_row _ w.heap.size 0 _ _ _ AB0.out
        simp only [List.getElem?_toArray, List.getElem?_cons_zero, List.getElem?_cons_succ] at za_0
        go_wp2_with fail
        clear za_0
        refine HC.out.mono ?_
        rintro e w5 ⟨eX0, rfl, hr, hb⟩
        clear HC
        have szw5 := hb.size
        replace F0 := Lib.hid (shModel.below F0.out hb (by omega))
        replace F1 := Lib.hid (shPair.below F1.out hb (by omega))
        replace AB0 := Lib.hid ((hb.block w.heap.size (by omega)).trans AB0.out)
        replace AB1 := Lib.hid ((hb.block (w.heap.size + 1) (by omega)).trans AB1.out)
        replace W := Lib.hid (shGrads.below W.out hb (by omega))
        replace BW := Lib.hid ((hb.block gW (by omega)).trans BW.out)
        replace T := Lib.hid (T.out.trans (hb.mono (by omega)))
        clear hb
        obtain ⟨aX0_0, nX0_0, cX0_0, rfl, -⟩ := ownModel_owns.1 hr
        have X0 := Lib.hid hr
        clear hr
        have hb := (Below.refl w5.heap.size w5).alloc (Nat.le_refl _) (.cells #[.slice aX0_0 nX0_0 cX0_0] 50 (0, 0))
        have hk := heap_alloc_new w5 (.cells #[.slice aX0_0 nX0_0 cX0_0] 50 (0, 0))
        have szw6 : w5.heap.size < (w5.alloc (.cells #[.slice aX0_0 nX0_0 cX0_0] 50 (0, 0))).heap.size := by simp
        obtain ⟨w6, hww6⟩ : ∃ W, w5.alloc (.cells #[.slice aX0_0 nX0_0 cX0_0] 50 (0, 0)) = W := ⟨_, rfl⟩
        rw [hww6] at hb hk szw6
        replace F0 := Lib.hid (shModel.below F0.out hb (by omega))
        replace F1 := Lib.hid (shPair.below F1.out hb (by omega))
        replace AB0 := Lib.hid ((hb.block w.heap.size (by omega)).trans AB0.out)
        replace AB1 := Lib.hid ((hb.block (w.heap.size + 1) (by omega)).trans AB1.out)
        replace W := Lib.hid (shGrads.below W.out hb (by omega))
        replace BW := Lib.hid ((hb.block gW (by omega)).trans BW.out)
        replace X0 := Lib.hid (ownModel.owns_keep X0.out (.of_below hb fun b o f => by have := f.2; omega))
        replace T := Lib.hid (T.out.trans (hb.mono (by omega)))
        have BX0 := Lib.hid hk
        clear hb hk
        have HC := Lib.hid (toPair_o _ _ _ x1 F1.out (by omega) (by rw [U1.out]; omega))
        have za_0 := cell_of_row _ (w.heap.size + 1) 0 _ _ _ AB1.out
        have za_1 := cell_of_row _ (w.heap.size + 1) 1 _ _ _ AB1.out
        simp only [List.getElem?_toArray, List.getElem?_cons_zero, List.getElem?_cons_succ] at za_0 za_1
        go_wp2_with fail
        clear hww6
        clear za_0 za_1
        refine HC.out.mono ?_
        rintro e w7 ⟨eX1, rfl, hr, hb⟩
        clear HC
        have szw7 := hb.size
        replace F0 := Lib.hid (shModel.below F0.out hb (by omega))
        replace F1 := Lib.hid (shPair.below F1.out hb (by omega))
        replace AB0 := Lib.hid ((hb.block w.heap.size (by omega)).trans AB0.out)
        replace AB1 := Lib.hid ((hb.block (w.heap.size + 1) (by omega)).trans AB1.out)
        replace W := Lib.hid (shGrads.below W.out hb (by omega))
        replace BW := Lib.hid ((hb.block gW (by omega)).trans BW.out)
        replace X0 := Lib.hid (ownModel.owns_keep X0.out (.of_below hb fun b o f => by have := f.2; omega))
        replace BX0 := Lib.hid ((hb.block w5.heap.size (by omega)).trans BX0.out)
        replace T := Lib.hid (T.out.trans (hb.mono (by omega)))
        clear hb
        obtain ⟨aX1_0, nX1_0, cX1_0, aX1_1, nX1_1, cX1_1, Gx0, Gx1, rfl, -⟩ := ownPair_owns.1 hr
        have X1 := Lib.hid hr
        clear hr
        have hb := (Below.refl w7.heap.size w7).alloc (Nat.le_refl _) (.cells #[.slice aX1_0 nX1_0 cX1_0, .slice aX1_1 nX1_1 cX1_1] 66 (0, 0))
        have hk := heap_alloc_new w7 (.cells #[.slice aX1_0 nX1_0 cX1_0, .slice aX1_1 nX1_1 cX1_1] 66 (0, 0))
        have szw8 : w7.heap.size < (w7.alloc (.cells #[.slice aX1_0 nX1_0 cX1_0, .slice aX1_1 nX1_1 cX1_1] 66 (0, 0))).heap.size := by simp
        obtain ⟨w8, hww8⟩ : ∃ W, w7.alloc (.cells #[.slice aX1_0 nX1_0 cX1_0, .slice aX1_1 nX1_1 cX1_1] 66 (0, 0)) = W := ⟨_, rfl⟩
        rw [hww8] at hb hk szw8
        replace F0 := Lib.hid (shModel.below F0.out hb (by omega))
        replace F1 := Lib.hid (shPair.below F1.out hb (by omega))
        replace AB0 := Lib.hid ((hb.block w.heap.size (by omega)).trans AB0.out)
        replace AB1 := Lib.hid ((hb.block (w.heap.size + 1) (by omega)).trans AB1.out)
        replace W := Lib.hid (shGrads.below W.out hb (by omega))
        replace BW := Lib.hid ((hb.block gW (by omega)).trans BW.out)
        replace X0 := Lib.hid (ownModel.owns_keep X0.out (.of_below hb fun b o f => by have := f.2; omega))
        replace BX0 := Lib.hid ((hb.block w5.heap.size (by omega)).trans BX0.out)
        replace X1 := Lib.hid (ownPair.owns_keep X1.out (.of_below hb fun b o f => by have := f.2; omega))
        replace T := Lib.hid (T.out.trans (hb.mono (by omega)))
        have BX1 := Lib.hid hk
        clear hb hk
        have hc := implMicroGrads_o _ _ x0 (ownModel.owns_reads X0.out fun b o f => by have := f.2; exact Nat.lt_of_lt_of_le this (by omega)) (by rw [U0.out]; omega) _ x1 (ownPair.owns_reads X1.out fun b o f => by have := f.2; exact Nat.lt_of_lt_of_le this (by omega)) (by rw [U1.out]; omega) (HG.out.below hlt T.out)
        rw [HV.out] at hc
        have HC := Lib.hid hc
        clear hc
        have zx0_0 := cell_of_row _ w5.heap.size 0 _ _ _ BX0.out
        simp only [List.getElem?_toArray, List.getElem?_cons_zero, List.getElem?_cons_succ] at zx0_0
        have zx1_0 := cell_of_row _ w7.heap.size 0 _ _ _ BX1.out
        have zx1_1 := cell_of_row _ w7.heap.size 1 _ _ _ BX1.out
        simp only [List.getElem?_toArray, List.getElem?_cons_zero, List.getElem?_cons_succ] at zx1_0 zx1_1
        go_wp2_with fail
        clear hww8
        clear zx0_0
        clear zx1_0 zx1_1
        refine HC.out.mono ?_
        rintro e w9 ⟨eG, rfl, hr, hb⟩
        clear HC
        have szw9 := hb.size
        replace F0 := Lib.hid (shModel.below F0.out hb (by omega))
        replace F1 := Lib.hid (shPair.below F1.out hb (by omega))
        replace AB0 := Lib.hid ((hb.block w.heap.size (by omega)).trans AB0.out)
        replace AB1 := Lib.hid ((hb.block (w.heap.size + 1) (by omega)).trans AB1.out)
        replace W := Lib.hid (shGrads.below W.out hb (by omega))
        replace BW := Lib.hid ((hb.block gW (by omega)).trans BW.out)
        replace X0 := Lib.hid (ownModel.owns_keep X0.out (.of_below hb fun b o f => by have := f.2; omega))
        replace BX0 := Lib.hid ((hb.block w5.heap.size (by omega)).trans BX0.out)
        replace X1 := Lib.hid (ownPair.owns_keep X1.out (.of_below hb fun b o f => by have := f.2; omega))
        replace BX1 := Lib.hid ((hb.block w7.heap.size (by omega)).trans BX1.out)
        replace T := Lib.hid (T.out.trans (hb.mono (by omega)))
        clear hb
        obtain ⟨aG_0, nG_0, cG_0, rfl, -⟩ := ownGrads_owns.1 hr
        have G := Lib.hid hr
        clear hr
        have hb := (Below.refl w9.heap.size w9).alloc (Nat.le_refl _) (.cells #[.slice aG_0 nG_0 cG_0, .int .i64 v.2.1, .bool v.2.2] 30 (0, 0))
        have hk := heap_alloc_new w9 (.cells #[.slice aG_0 nG_0 cG_0, .int .i64 v.2.1, .bool v.2.2] 30 (0, 0))
        have szw10 : w9.heap.size < (w9.alloc (.cells #[.slice aG_0 nG_0 cG_0, .int .i64 v.2.1, .bool v.2.2] 30 (0, 0))).heap.size := by simp
        obtain ⟨w10, hww10⟩ : ∃ W, w9.alloc (.cells #[.slice aG_0 nG_0 cG_0, .int .i64 v.2.1, .bool v.2.2] 30 (0, 0)) = W := ⟨_, rfl⟩
        rw [hww10] at hb hk szw10
        replace F0 := Lib.hid (shModel.below F0.out hb (by omega))
        replace F1 := Lib.hid (shPair.below F1.out hb (by omega))
        replace AB0 := Lib.hid ((hb.block w.heap.size (by omega)).trans AB0.out)
        replace AB1 := Lib.hid ((hb.block (w.heap.size + 1) (by omega)).trans AB1.out)
        replace W := Lib.hid (shGrads.below W.out hb (by omega))
        replace BW := Lib.hid ((hb.block gW (by omega)).trans BW.out)
        replace X0 := Lib.hid (ownModel.owns_keep X0.out (.of_below hb fun b o f => by have := f.2; omega))
        replace BX0 := Lib.hid ((hb.block w5.heap.size (by omega)).trans BX0.out)
        replace X1 := Lib.hid (ownPair.owns_keep X1.out (.of_below hb fun b o f => by have := f.2; omega))
        replace BX1 := Lib.hid ((hb.block w7.heap.size (by omega)).trans BX1.out)
        replace G := Lib.hid (ownGrads.owns_keep G.out (.of_below hb fun b o f => by have := f.2; omega))
        replace T := Lib.hid (T.out.trans (hb.mono (by omega)))
        have BG := Lib.hid hk
        clear hb hk
        have HC := Lib.hid (eqGrads_c _ _ _ _ _ v (ownGrads.owns_reads (I := Under w9.heap.size) G.out fun b o f => f.2) W.out (by omega) (by omega) vb)
        have zg_0 := cell_of_row _ w9.heap.size 0 _ _ _ BG.out
        have zg_1 := cell_of_row _ w9.heap.size 1 _ _ _ BG.out
        have zg_2 := cell_of_row _ w9.heap.size 2 _ _ _ BG.out
        simp only [List.getElem?_toArray, List.getElem?_cons_zero, List.getElem?_cons_succ] at zg_0 zg_1 zg_2
        have zw_0 := cell_of_row _ gW 0 _ _ _ BW.out
        have zw_1 := cell_of_row _ gW 1 _ _ _ BW.out
        have zw_2 := cell_of_row _ gW 2 _ _ _ BW.out
        simp only [List.getElem?_toArray, List.getElem?_cons_zero, List.getElem?_cons_succ] at zw_0 zw_1 zw_2
        go_wp2_with fail
        clear hww10
        clear zg_0 zg_1 zg_2
        clear zw_0 zw_1 zw_2
        refine HC.out.mono ?_
        rintro e w11 ⟨rfl, hb⟩
        clear HC
        have szw11 := hb.size
        replace F0 := Lib.hid (shModel.below F0.out hb (by omega))
        replace F1 := Lib.hid (shPair.below F1.out hb (by omega))
        replace AB0 := Lib.hid ((hb.block w.heap.size (by omega)).trans AB0.out)
        replace AB1 := Lib.hid ((hb.block (w.heap.size + 1) (by omega)).trans AB1.out)
        replace W := Lib.hid (shGrads.below W.out hb (by omega))
        replace BW := Lib.hid ((hb.block gW (by omega)).trans BW.out)
        replace X0 := Lib.hid (ownModel.owns_keep X0.out (.of_below hb fun b o f => by have := f.2; omega))
        replace BX0 := Lib.hid ((hb.block w5.heap.size (by omega)).trans BX0.out)
        replace X1 := Lib.hid (ownPair.owns_keep X1.out (.of_below hb fun b o f => by have := f.2; omega))
        replace BX1 := Lib.hid ((hb.block w7.heap.size (by omega)).trans BX1.out)
        replace G := Lib.hid (ownGrads.owns_keep G.out (.of_below hb fun b o f => by have := f.2; omega))
        replace BG := Lib.hid ((hb.block w9.heap.size (by omega)).trans BG.out)
        replace T := Lib.hid (T.out.trans (hb.mono (by omega)))
        clear hb
        have zx_0 := cell_of_row _ w5.heap.size 0 _ _ _ BX0.out
        simp only [List.getElem?_toArray, List.getElem?_cons_zero, List.getElem?_cons_succ] at zx_0
        have za_0 := cell_of_row _ w.heap.size 0 _ _ _ AB0.out
        simp only [List.getElem?_toArray, List.getElem?_cons_zero, List.getElem?_cons_succ] at za_0
        go_upto_region 14 with fail
        go_cut [44] (fun t wx => t = .bool false ∧ Below w11.heap.size w11 wx)
        case first =>
          have hdr : Below w11.heap.size w11 w11.drew := (Below.refl _ _).drew
          have FD := Lib.hid (shModel.below F0.out hdr (by omega))
          have XD := Lib.hid (shModel.below (ownModel.owns_reads (I := Under w5.heap.size) X0.out fun b o f => f.2) hdr (by omega))
          have DR := Lib.hid hdr
          have szd : w11.heap.size ≤ w11.drew.heap.size := hdr.size
          have XBD : Hid (w11.drew.heap[w5.heap.size]? = _) := Lib.hid BX0.out
          clear hdr
          have HC1 := Lib.hid (toModel_c w11.drew _ _ x0 FD.out (by omega) (by rw [U0.out]; omega))
          have HC2 := Lib.hid fun (w1 : World) (es : List Value) (hb : Below w11.drew.heap.size w11.drew w1) (hr : shModel.reads (From w11.drew.heap.size w1.heap.size) w1 es x0) => eqModel_c w1 _ _ _ es x0 (shModel.below XD.out hb (by omega)) (shModel.under hr) (by have := hb.size; omega) (Nat.le_refl _) (by rw [U0.out]; omega)
          go_region_law (first
            | (go_simp; go_at_call 39; (with_reducible refine HC1.out.mono ?_); rintro e wt ⟨eg, rfl, hr, hb⟩; have hq := HC2.out wt eg hb hr; have zz_0 := cell_of_row _ w5.heap.size 0 _ _ _ ((hb.block w5.heap.size (by omega)).trans XBD.out); simp only [List.getElem?_toArray, List.getElem?_cons_zero, List.getElem?_cons_succ] at zz_0; obtain ⟨ag_0, ng_0, cg_0, rfl, -⟩ := shModel_reads.1 hr; have HQ := Lib.hid hq; have HBT := Lib.hid hb; have szt := hb.size; clear hb hr hq)
            | (go_simp; go_at_call 42; (with_reducible refine HQ.out.mono ?_); rintro e wq ⟨rfl, hb⟩; have BQ := Lib.hid (DR.out.trans ((HBT.out.mono szd).trans (hb.mono (by omega)))); clear hb))
          all_goals
            go_wp2_with fail
            go_meet
            case rel => exact ⟨rfl, BQ.out⟩
        case rest =>
          obtain ⟨rfl, hb⟩ := hcut
          clear zx_0
          clear za_0
          obtain ⟨w12, rfl⟩ : ∃ x, x = wc := ⟨_, rfl⟩
          have szw12 := hb.size
          replace F0 := Lib.hid (shModel.below F0.out hb (by omega))
          replace F1 := Lib.hid (shPair.below F1.out hb (by omega))
          replace AB0 := Lib.hid ((hb.block w.heap.size (by omega)).trans AB0.out)
          replace AB1 := Lib.hid ((hb.block (w.heap.size + 1) (by omega)).trans AB1.out)
          replace W := Lib.hid (shGrads.below W.out hb (by omega))
          replace BW := Lib.hid ((hb.block gW (by omega)).trans BW.out)
          replace X0 := Lib.hid (ownModel.owns_keep X0.out (.of_below hb fun b o f => by have := f.2; omega))
          replace BX0 := Lib.hid ((hb.block w5.heap.size (by omega)).trans BX0.out)
          replace X1 := Lib.hid (ownPair.owns_keep X1.out (.of_below hb fun b o f => by have := f.2; omega))
          replace BX1 := Lib.hid ((hb.block w7.heap.size (by omega)).trans BX1.out)
          replace G := Lib.hid (ownGrads.owns_keep G.out (.of_below hb fun b o f => by have := f.2; omega))
          replace BG := Lib.hid ((hb.block w9.heap.size (by omega)).trans BG.out)
          replace T := Lib.hid (T.out.trans (hb.mono (by omega)))
          clear hb
          have zx_0 := cell_of_row _ w7.heap.size 0 _ _ _ BX1.out
          have zx_1 := cell_of_row _ w7.heap.size 1 _ _ _ BX1.out
          simp only [List.getElem?_toArray, List.getElem?_cons_zero, List.getElem?_cons_succ] at zx_0 zx_1
          have za_0 := cell_of_row _ (w.heap.size + 1) 0 _ _ _ AB1.out
          have za_1 := cell_of_row _ (w.heap.size + 1) 1 _ _ _ AB1.out
          simp only [List.getElem?_toArray, List.getElem?_cons_zero, List.getElem?_cons_succ] at za_0 za_1
          go_upto_region 16 with fail
          go_cut [49] (fun t wx => t = .bool false ∧ Below w12.heap.size w12 wx)
          case first =>
            have hdr : Below w12.heap.size w12 w12.drew := (Below.refl _ _).drew
            have FD := Lib.hid (shPair.below F1.out hdr (by omega))
            have XD := Lib.hid (shPair.below (ownPair.owns_reads (I := Under w7.heap.size) X1.out fun b o f => f.2) hdr (by omega))
            have DR := Lib.hid hdr
            have szd : w12.heap.size ≤ w12.drew.heap.size := hdr.size
            have XBD : Hid (w12.drew.heap[w7.heap.size]? = _) := Lib.hid BX1.out
            clear hdr
            have HC1 := Lib.hid (toPair_c w12.drew _ _ x1 FD.out (by omega) (by rw [U1.out]; omega))
            have HC2 := Lib.hid fun (w1 : World) (es : List Value) (hb : Below w12.drew.heap.size w12.drew w1) (hr : shPair.reads (From w12.drew.heap.size w1.heap.size) w1 es x1) => eqPair_c w1 _ _ _ es x1 (shPair.below XD.out hb (by omega)) (shPair.under hr) (by have := hb.size; omega) (Nat.le_refl _) (by rw [U1.out]; omega)
            go_region_law (first
              | (go_simp; go_at_call 40; (with_reducible refine HC1.out.mono ?_); rintro e wt ⟨eg, rfl, hr, hb⟩; have hq := HC2.out wt eg hb hr; have zz_0 := cell_of_row _ w7.heap.size 0 _ _ _ ((hb.block w7.heap.size (by omega)).trans XBD.out); have zz_1 := cell_of_row _ w7.heap.size 1 _ _ _ ((hb.block w7.heap.size (by omega)).trans XBD.out); simp only [List.getElem?_toArray, List.getElem?_cons_zero, List.getElem?_cons_succ] at zz_0 zz_1; obtain ⟨ag_0, ng_0, cg_0, ag_1, ng_1, cg_1, rfl, -⟩ := shPair_reads.1 hr; have HQ := Lib.hid hq; have HBT := Lib.hid hb; have szt := hb.size; clear hb hr hq)
              | (go_simp; go_at_call 43; (with_reducible refine HQ.out.mono ?_); rintro e wq ⟨rfl, hb⟩; have BQ := Lib.hid (DR.out.trans ((HBT.out.mono szd).trans (hb.mono (by omega)))); clear hb))
            all_goals
              go_wp2_with fail
              go_meet
              case rel => exact ⟨rfl, BQ.out⟩
          case rest =>
            obtain ⟨rfl, hb⟩ := hcut
            clear zx_0 zx_1
            clear za_0 za_1
            obtain ⟨w13, rfl⟩ : ∃ x, x = wc := ⟨_, rfl⟩
            have szw13 := hb.size
            replace F0 := Lib.hid (shModel.below F0.out hb (by omega))
            replace F1 := Lib.hid (shPair.below F1.out hb (by omega))
            replace AB0 := Lib.hid ((hb.block w.heap.size (by omega)).trans AB0.out)
            replace AB1 := Lib.hid ((hb.block (w.heap.size + 1) (by omega)).trans AB1.out)
            replace W := Lib.hid (shGrads.below W.out hb (by omega))
            replace BW := Lib.hid ((hb.block gW (by omega)).trans BW.out)
            replace X0 := Lib.hid (ownModel.owns_keep X0.out (.of_below hb fun b o f => by have := f.2; omega))
            replace BX0 := Lib.hid ((hb.block w5.heap.size (by omega)).trans BX0.out)
            replace X1 := Lib.hid (ownPair.owns_keep X1.out (.of_below hb fun b o f => by have := f.2; omega))
            replace BX1 := Lib.hid ((hb.block w7.heap.size (by omega)).trans BX1.out)
            replace G := Lib.hid (ownGrads.owns_keep G.out (.of_below hb fun b o f => by have := f.2; omega))
            replace BG := Lib.hid ((hb.block w9.heap.size (by omega)).trans BG.out)
            replace T := Lib.hid (T.out.trans (hb.mono (by omega)))
            clear hb
            have hc := markModel_o _ _ _ x0 (1) X0.out (fun b o f => Nat.lt_of_lt_of_le f.2 (by omega)) (by rw [U0.out]; omega) (by omega) (by rw [K0.out]; omega)
            have zx_0 := cell_of_row _ w5.heap.size 0 _ _ _ BX0.out
            simp only [List.getElem?_toArray, List.getElem?_cons_zero, List.getElem?_cons_succ] at zx_0
            rw [K0.out] at hc
            have HC := Lib.hid hc
            clear hc
            go_wp2_with fail
            clear zx_0
            refine HC.out.mono ?_
            rintro e w15 ⟨rfl, ho, w14, hb, ht⟩
            clear HC
            have szw14 := hb.size
            replace F0 := Lib.hid (shModel.below F0.out hb (by omega))
            replace F1 := Lib.hid (shPair.below F1.out hb (by omega))
            replace AB0 := Lib.hid ((hb.block w.heap.size (by omega)).trans AB0.out)
            replace AB1 := Lib.hid ((hb.block (w.heap.size + 1) (by omega)).trans AB1.out)
            replace W := Lib.hid (shGrads.below W.out hb (by omega))
            replace BW := Lib.hid ((hb.block gW (by omega)).trans BW.out)
            replace BX0 := Lib.hid ((hb.block w5.heap.size (by omega)).trans BX0.out)
            replace X1 := Lib.hid (ownPair.owns_keep X1.out (.of_below hb fun b o f => by have := f.2; omega))
            replace BX1 := Lib.hid ((hb.block w7.heap.size (by omega)).trans BX1.out)
            replace G := Lib.hid (ownGrads.owns_keep G.out (.of_below hb fun b o f => by have := f.2; omega))
            replace BG := Lib.hid ((hb.block w9.heap.size (by omega)).trans BG.out)
            replace T := Lib.hid (T.out.trans (hb.mono (by omega)))
            clear hb
            have hq := ht.below (B := w4.heap.size) fun b o f => f.1
            replace F0 := Lib.hid (shModel.below F0.out hq (by omega))
            replace F1 := Lib.hid (shPair.below F1.out hq (by omega))
            replace AB0 := Lib.hid ((ht.block w.heap.size fun o f => by have h1 := f.1; have h2 := f.2; omega).trans AB0.out)
            replace AB1 := Lib.hid ((ht.block (w.heap.size + 1) fun o f => by have h1 := f.1; have h2 := f.2; omega).trans AB1.out)
            replace W := Lib.hid (shGrads.below W.out hq (by omega))
            replace BW := Lib.hid ((ht.block gW fun o f => by have h1 := f.1; have h2 := f.2; omega).trans BW.out)
            replace BX0 := Lib.hid ((ht.block w5.heap.size fun o f => by have h1 := f.1; have h2 := f.2; omega).trans BX0.out)
            replace X1 := Lib.hid (ownPair.owns_keep X1.out (ht.same fun b o f f' => by have h1 := f.1; have h2 := f.2; have h3 := f'.1; have h4 := f'.2; omega))
            replace BX1 := Lib.hid ((ht.block w7.heap.size fun o f => by have h1 := f.1; have h2 := f.2; omega).trans BX1.out)
            replace G := Lib.hid (ownGrads.owns_keep G.out (ht.same fun b o f f' => by have h1 := f.1; have h2 := f.2; have h3 := f'.1; have h4 := f'.2; omega))
            replace BG := Lib.hid ((ht.block w9.heap.size fun o f => by have h1 := f.1; have h2 := f.2; omega).trans BG.out)
            replace T := Lib.hid (T.out.trans (hq.mono (by omega)))
            have szt := ht.size
            clear hq
            have szw15 : w14.heap.size ≤ w15.heap.size := Nat.le_of_eq szt.symm
            clear ht szt ho X0
            have hc := markPair_o _ _ _ x1 (1 + (k0 : Nat)) X1.out (fun b o f => Nat.lt_of_lt_of_le f.2 (by omega)) (by rw [U1.out]; omega) (by omega) (by rw [K1.out]; omega)
            have zx_0 := cell_of_row _ w7.heap.size 0 _ _ _ BX1.out
            have zx_1 := cell_of_row _ w7.heap.size 1 _ _ _ BX1.out
            simp only [List.getElem?_toArray, List.getElem?_cons_zero, List.getElem?_cons_succ] at zx_0 zx_1
            rw [K1.out] at hc
            have HC := Lib.hid hc
            clear hc
            go_wp2_with fail
            clear zx_0 zx_1
            refine HC.out.mono ?_
            rintro e w17 ⟨rfl, ho, w16, hb, ht⟩
            clear HC
            have szw16 := hb.size
            replace F0 := Lib.hid (shModel.below F0.out hb (by omega))
            replace F1 := Lib.hid (shPair.below F1.out hb (by omega))
            replace AB0 := Lib.hid ((hb.block w.heap.size (by omega)).trans AB0.out)
            replace AB1 := Lib.hid ((hb.block (w.heap.size + 1) (by omega)).trans AB1.out)
            replace W := Lib.hid (shGrads.below W.out hb (by omega))
            replace BW := Lib.hid ((hb.block gW (by omega)).trans BW.out)
            replace BX0 := Lib.hid ((hb.block w5.heap.size (by omega)).trans BX0.out)
            replace BX1 := Lib.hid ((hb.block w7.heap.size (by omega)).trans BX1.out)
            replace G := Lib.hid (ownGrads.owns_keep G.out (.of_below hb fun b o f => by have := f.2; omega))
            replace BG := Lib.hid ((hb.block w9.heap.size (by omega)).trans BG.out)
            replace T := Lib.hid (T.out.trans (hb.mono (by omega)))
            clear hb
            have hq := ht.below (B := w6.heap.size) fun b o f => f.1
            replace F0 := Lib.hid (shModel.below F0.out hq (by omega))
            replace F1 := Lib.hid (shPair.below F1.out hq (by omega))
            replace AB0 := Lib.hid ((ht.block w.heap.size fun o f => by have h1 := f.1; have h2 := f.2; omega).trans AB0.out)
            replace AB1 := Lib.hid ((ht.block (w.heap.size + 1) fun o f => by have h1 := f.1; have h2 := f.2; omega).trans AB1.out)
            replace W := Lib.hid (shGrads.below W.out hq (by omega))
            replace BW := Lib.hid ((ht.block gW fun o f => by have h1 := f.1; have h2 := f.2; omega).trans BW.out)
            replace BX0 := Lib.hid ((ht.block w5.heap.size fun o f => by have h1 := f.1; have h2 := f.2; omega).trans BX0.out)
            replace BX1 := Lib.hid ((ht.block w7.heap.size fun o f => by have h1 := f.1; have h2 := f.2; omega).trans BX1.out)
            replace G := Lib.hid (ownGrads.owns_keep G.out (ht.same fun b o f f' => by have h1 := f.1; have h2 := f.2; have h3 := f'.1; have h4 := f'.2; omega))
            replace BG := Lib.hid ((ht.block w9.heap.size fun o f => by have h1 := f.1; have h2 := f.2; omega).trans BG.out)
            replace T := Lib.hid (T.out.trans (hq.mono (by omega)))
            have szt := ht.size
            clear hq
            have szw17 : w16.heap.size ≤ w17.heap.size := Nat.le_of_eq szt.symm
            clear ht szt ho X1
            have tk : decide ((1 : Int) + (k0 : Int) + (k1 : Int) < 0) = false := decide_eq_false (by omega)
            have HC := Lib.hid (eqGrads_c _ _ _ _ _ v (ownGrads.owns_reads (I := Under w9.heap.size) G.out fun b o f => f.2) W.out (by omega) (by omega) vb)
            have zg_0 := cell_of_row _ w9.heap.size 0 _ _ _ BG.out
            have zg_1 := cell_of_row _ w9.heap.size 1 _ _ _ BG.out
            have zg_2 := cell_of_row _ w9.heap.size 2 _ _ _ BG.out
            simp only [List.getElem?_toArray, List.getElem?_cons_zero, List.getElem?_cons_succ] at zg_0 zg_1 zg_2
            have zw_0 := cell_of_row _ gW 0 _ _ _ BW.out
            have zw_1 := cell_of_row _ gW 1 _ _ _ BW.out
            have zw_2 := cell_of_row _ gW 2 _ _ _ BW.out
            simp only [List.getElem?_toArray, List.getElem?_cons_zero, List.getElem?_cons_succ] at zw_0 zw_1 zw_2
            go_wp2_with fail
            clear zg_0 zg_1 zg_2
            clear zw_0 zw_1 zw_2
            refine HC.out.mono ?_
            rintro e w18 ⟨rfl, hb⟩
            clear HC
            have szw18 := hb.size
            replace F0 := Lib.hid (shModel.below F0.out hb (by omega))
            replace F1 := Lib.hid (shPair.below F1.out hb (by omega))
            replace AB0 := Lib.hid ((hb.block w.heap.size (by omega)).trans AB0.out)
            replace AB1 := Lib.hid ((hb.block (w.heap.size + 1) (by omega)).trans AB1.out)
            replace W := Lib.hid (shGrads.below W.out hb (by omega))
            replace BW := Lib.hid ((hb.block gW (by omega)).trans BW.out)
            replace BX0 := Lib.hid ((hb.block w5.heap.size (by omega)).trans BX0.out)
            replace BX1 := Lib.hid ((hb.block w7.heap.size (by omega)).trans BX1.out)
            replace G := Lib.hid (ownGrads.owns_keep G.out (.of_below hb fun b o f => by have := f.2; omega))
            replace BG := Lib.hid ((hb.block w9.heap.size (by omega)).trans BG.out)
            replace T := Lib.hid (T.out.trans (hb.mono (by omega)))
            clear hb
            have hc := markGrads_o _ _ _ v 1 G.out (fun b o f => Nat.lt_of_lt_of_le f.2 (by omega)) vb (by omega) (by rw [KV.out]; omega)
            rw [KV.out] at hc
            have HC := Lib.hid hc
            clear hc
            have zg_0 := cell_of_row _ w9.heap.size 0 _ _ _ BG.out
            have zg_1 := cell_of_row _ w9.heap.size 1 _ _ _ BG.out
            have zg_2 := cell_of_row _ w9.heap.size 2 _ _ _ BG.out
            simp only [List.getElem?_toArray, List.getElem?_cons_zero, List.getElem?_cons_succ] at zg_0 zg_1 zg_2
            go_wp2_with fail
            clear zg_0 zg_1 zg_2
            refine HC.out.mono ?_
            rintro e w20 ⟨rfl, ho, w19, hb, ht⟩
            clear HC
            have szw19 := hb.size
            replace F0 := Lib.hid (shModel.below F0.out hb (by omega))
            replace F1 := Lib.hid (shPair.below F1.out hb (by omega))
            replace AB0 := Lib.hid ((hb.block w.heap.size (by omega)).trans AB0.out)
            replace AB1 := Lib.hid ((hb.block (w.heap.size + 1) (by omega)).trans AB1.out)
            replace W := Lib.hid (shGrads.below W.out hb (by omega))
            replace BW := Lib.hid ((hb.block gW (by omega)).trans BW.out)
            replace BX0 := Lib.hid ((hb.block w5.heap.size (by omega)).trans BX0.out)
            replace BX1 := Lib.hid ((hb.block w7.heap.size (by omega)).trans BX1.out)
            replace BG := Lib.hid ((hb.block w9.heap.size (by omega)).trans BG.out)
            replace T := Lib.hid (T.out.trans (hb.mono (by omega)))
            clear hb
            have hq := ht.below (B := w8.heap.size) fun b o f => f.1
            replace F0 := Lib.hid (shModel.below F0.out hq (by omega))
            replace F1 := Lib.hid (shPair.below F1.out hq (by omega))
            replace AB0 := Lib.hid ((ht.block w.heap.size fun o f => by have h1 := f.1; have h2 := f.2; omega).trans AB0.out)
            replace AB1 := Lib.hid ((ht.block (w.heap.size + 1) fun o f => by have h1 := f.1; have h2 := f.2; omega).trans AB1.out)
            replace W := Lib.hid (shGrads.below W.out hq (by omega))
            replace BW := Lib.hid ((ht.block gW fun o f => by have h1 := f.1; have h2 := f.2; omega).trans BW.out)
            replace BX0 := Lib.hid ((ht.block w5.heap.size fun o f => by have h1 := f.1; have h2 := f.2; omega).trans BX0.out)
            replace BX1 := Lib.hid ((ht.block w7.heap.size fun o f => by have h1 := f.1; have h2 := f.2; omega).trans BX1.out)
            replace BG := Lib.hid ((ht.block w9.heap.size fun o f => by have h1 := f.1; have h2 := f.2; omega).trans BG.out)
            replace T := Lib.hid (T.out.trans (hq.mono (by omega)))
            have szt := ht.size
            clear hq
            have szw20 : w19.heap.size ≤ w20.heap.size := Nat.le_of_eq szt.symm
            replace G := Lib.hid ho
            clear ht szt ho
            have tv : decide ((1 : Int) + (kv : Int) < 0) = false := decide_eq_false (by omega)
            have tn : ((1 : Int) + (kv : Int) != 1 + (kv : Int)) = false := by simp
            have hc := heldGrads_o _ w9.heap.size _ v 1 (ownGrads.owns_reads (I := Under w9.heap.size) G.out fun b o f => f.2) (by omega) vb (by omega) (by rw [KV.out]; omega)
            rw [KV.out] at hc
            have HC := Lib.hid hc
            clear hc
            have zg_0 := cell_of_row _ w9.heap.size 0 _ _ _ BG.out
            have zg_1 := cell_of_row _ w9.heap.size 1 _ _ _ BG.out
            have zg_2 := cell_of_row _ w9.heap.size 2 _ _ _ BG.out
            simp only [List.getElem?_toArray, List.getElem?_cons_zero, List.getElem?_cons_succ] at zg_0 zg_1 zg_2
            go_wp2_with fail
            clear zg_0 zg_1 zg_2
            refine HC.out.mono ?_
            rintro e w21 ⟨rfl, hb⟩
            clear HC
            have szw21 := hb.size
            replace F0 := Lib.hid (shModel.below F0.out hb (by omega))
            replace F1 := Lib.hid (shPair.below F1.out hb (by omega))
            replace AB0 := Lib.hid ((hb.block w.heap.size (by omega)).trans AB0.out)
            replace AB1 := Lib.hid ((hb.block (w.heap.size + 1) (by omega)).trans AB1.out)
            replace W := Lib.hid (shGrads.below W.out hb (by omega))
            replace BW := Lib.hid ((hb.block gW (by omega)).trans BW.out)
            replace BX0 := Lib.hid ((hb.block w5.heap.size (by omega)).trans BX0.out)
            replace BX1 := Lib.hid ((hb.block w7.heap.size (by omega)).trans BX1.out)
            replace BG := Lib.hid ((hb.block w9.heap.size (by omega)).trans BG.out)
            replace G := Lib.hid (ownGrads.owns_keep G.out (.of_below hb fun b o f => by have := f.2; omega))
            replace T := Lib.hid (T.out.trans (hb.mono (by omega)))
            clear hb
            have zs0_0 := cell_of_row _ w.heap.size 0 _ _ _ AB0.out
            simp only [List.getElem?_toArray, List.getElem?_cons_zero, List.getElem?_cons_succ] at zs0_0
            have zs1_0 := cell_of_row _ (w.heap.size + 1) 0 _ _ _ AB1.out
            have zs1_1 := cell_of_row _ (w.heap.size + 1) 1 _ _ _ AB1.out
            simp only [List.getElem?_toArray, List.getElem?_cons_zero, List.getElem?_cons_succ] at zs1_0 zs1_1
            have zr0_0 := cell_of_row _ w.heap.size 0 _ _ _ ((heap_alloc_old w21 (.cells #[.slice none 0 0, .int .i64 0, .bool false] 30 (0, 0)) (show w.heap.size < w21.heap.size by omega)).trans AB0.out)
            simp only [List.getElem?_toArray, List.getElem?_cons_zero, List.getElem?_cons_succ] at zr0_0
            have zr1_0 := cell_of_row _ (w.heap.size + 1) 0 _ _ _ ((heap_alloc_old w21 (.cells #[.slice none 0 0, .int .i64 0, .bool false] 30 (0, 0)) (show (w.heap.size + 1) < w21.heap.size by omega)).trans AB1.out)
            have zr1_1 := cell_of_row _ (w.heap.size + 1) 1 _ _ _ ((heap_alloc_old w21 (.cells #[.slice none 0 0, .int .i64 0, .bool false] 30 (0, 0)) (show (w.heap.size + 1) < w21.heap.size by omega)).trans AB1.out)
            simp only [List.getElem?_toArray, List.getElem?_cons_zero, List.getElem?_cons_succ] at zr1_0 zr1_1
            go_upto_region 31 with fail
            go_cut [13] (fun t wx => BoxedR shGrads 30 w21 wx t v)
            case first =>
              have hA0 : w.heap.size < w21.heap.size := by omega
              have hA1 : (w.heap.size + 1) < w21.heap.size := by omega
              have hdr : Below w21.heap.size w21 w21.drew := (Below.refl _ _).drew
              have hdra : Below w21.heap.size w21 (w21.alloc (.cells #[.slice none 0 0, .int .i64 0, .bool false] 30 (0, 0))).drew := ((Below.refl _ _).alloc (Nat.le_refl _) _).drew
              have DR := Lib.hid hdr
              have DRA := Lib.hid hdra
              clear hdr hdra
              have HC0 := Lib.hid fun (w1 : World) (hb : Below w21.heap.size w21 w1) => toModel_c w1 _ _ x0 (shModel.below F0.out hb (by omega)) (by have := hb.size; omega) (by rw [U0.out]; omega)
              have HC1 := Lib.hid fun (w1 : World) (hb : Below w21.heap.size w21 w1) => toPair_c w1 _ _ x1 (shPair.below F1.out hb (by omega)) (by have := hb.size; omega) (by rw [U1.out]; omega)
              have HF := Lib.hid fun (w1 : World) (hb1 : Below w21.heap.size w21 w1) (q0 : List Value) (hr0 : shModel.reads (Under w1.heap.size) w1 q0 x0) (q1 : List Value) (hr1 : shPair.reads (Under w1.heap.size) w1 q1 x1) => (implMicroGrads_o w1 q0 x0 hr0 (by rw [U0.out]; omega) q1 x1 hr1 (by rw [U1.out]; omega) (HG.out.below hlt (T.out.trans (hb1.mono (by omega))))).mono fun e w' ⟨es', he, ho, hb⟩ => (⟨es', he, ownGrads.owns_reads ho fun b o f => f, hb⟩ : ∃ es' : List Value, e = Ending.returned (.agg es'.toArray) ∧ shGrads.reads (From w1.heap.size w'.heap.size) w' es' _ ∧ Below w1.heap.size w1 w')
              simp only [HV.out] at HF
              clear szw1 szw2 szw3 szw4 szw5 szw6 szw7 szw8 szw9 szw10 szw11 szw12 szw13 szw14 szw15 szw16 szw17 szw18 szw19 szw20 szw21
              go_region_law (go_simp; first
                | (go_at_call 39; (with_reducible refine (HC0.out _ DR.out).mono ?_); rintro e t0 ⟨eg0, rfl, hr, hb⟩; have hp := DR.out; obtain ⟨ag0_0, ng0_0, cg0_0, rfl, -⟩ := shModel_reads.1 hr; have R0 := Lib.hid (shModel.under hr); have B := Lib.hid (hp.trans (hb.mono hp.size)); have zz0_1_0 := cell_of_row _ (w.heap.size + 1) 0 _ _ _ ((B.out.block (w.heap.size + 1) hA1).trans AB1.out); have zz0_1_1 := cell_of_row _ (w.heap.size + 1) 1 _ _ _ ((B.out.block (w.heap.size + 1) hA1).trans AB1.out); have zm0_1_0 := cell_of_row _ (w.heap.size + 1) 0 _ _ _ ((heap_alloc_old t0 (.cells #[.slice none 0 0, .int .i64 0, .bool false] 30 (0, 0)) (Nat.lt_of_lt_of_le hA1 B.out.size)).trans ((B.out.block (w.heap.size + 1) hA1).trans AB1.out)); have zm0_1_1 := cell_of_row _ (w.heap.size + 1) 1 _ _ _ ((heap_alloc_old t0 (.cells #[.slice none 0 0, .int .i64 0, .bool false] 30 (0, 0)) (Nat.lt_of_lt_of_le hA1 B.out.size)).trans ((B.out.block (w.heap.size + 1) hA1).trans AB1.out)); simp only [List.getElem?_toArray, List.getElem?_cons_zero, List.getElem?_cons_succ] at zz0_1_0 zm0_1_0 zz0_1_1 zm0_1_1; clear hb hr hp)
                | (go_at_call 39; (with_reducible refine (HC0.out _ DRA.out).mono ?_); rintro e t0 ⟨eg0, rfl, hr, hb⟩; have hp := DRA.out; have BX := Lib.hid ((BoxIn.new (Below.refl w21.heap.size w21) (.cells #[.slice none 0 0, .int .i64 0, .bool false] 30 (0, 0))).drew.call hb); obtain ⟨ag0_0, ng0_0, cg0_0, rfl, -⟩ := shModel_reads.1 hr; have R0 := Lib.hid (shModel.under hr); have B := Lib.hid (hp.trans (hb.mono hp.size)); have zz0_1_0 := cell_of_row _ (w.heap.size + 1) 0 _ _ _ ((B.out.block (w.heap.size + 1) hA1).trans AB1.out); have zz0_1_1 := cell_of_row _ (w.heap.size + 1) 1 _ _ _ ((B.out.block (w.heap.size + 1) hA1).trans AB1.out); have zm0_1_0 := cell_of_row _ (w.heap.size + 1) 0 _ _ _ ((heap_alloc_old t0 (.cells #[.slice none 0 0, .int .i64 0, .bool false] 30 (0, 0)) (Nat.lt_of_lt_of_le hA1 B.out.size)).trans ((B.out.block (w.heap.size + 1) hA1).trans AB1.out)); have zm0_1_1 := cell_of_row _ (w.heap.size + 1) 1 _ _ _ ((heap_alloc_old t0 (.cells #[.slice none 0 0, .int .i64 0, .bool false] 30 (0, 0)) (Nat.lt_of_lt_of_le hA1 B.out.size)).trans ((B.out.block (w.heap.size + 1) hA1).trans AB1.out)); simp only [List.getElem?_toArray, List.getElem?_cons_zero, List.getElem?_cons_succ] at zz0_1_0 zm0_1_0 zz0_1_1 zm0_1_1; clear hb hr hp)
                | (go_at_call 40; (with_reducible refine (HC1.out _ B.out).mono ?_); rintro e t1 ⟨eg1, rfl, hr, hb⟩; have hp := B.out; have hbb := hb; (try replace BX := Lib.hid (BX.out.call hb)); obtain ⟨ag1_0, ng1_0, cg1_0, ag1_1, ng1_1, cg1_1, rfl, -⟩ := shPair_reads.1 hr; replace R0 := Lib.hid (shModel.le (shModel.below R0.out hbb (Nat.le_refl _)) hbb.size); have R1 := Lib.hid (shPair.under hr); replace B := Lib.hid (hp.trans (hb.mono hp.size)); clear hb hr hp hbb)
                | (go_at_call 40; (with_reducible refine (HC1.out _ (B.out.alloc B.out.size (.cells #[.slice none 0 0, .int .i64 0, .bool false] 30 (0, 0)))).mono ?_); rintro e t1 ⟨eg1, rfl, hr, hb⟩; have hp := B.out.alloc B.out.size (.cells #[.slice none 0 0, .int .i64 0, .bool false] 30 (0, 0)); have hbb := ((Below.refl _ t0).alloc (Nat.le_refl _) (.cells #[.slice none 0 0, .int .i64 0, .bool false] 30 (0, 0))).trans (hb.mono (by simp)); have BX := Lib.hid ((BoxIn.new B.out (.cells #[.slice none 0 0, .int .i64 0, .bool false] 30 (0, 0))).call hb); obtain ⟨ag1_0, ng1_0, cg1_0, ag1_1, ng1_1, cg1_1, rfl, -⟩ := shPair_reads.1 hr; replace R0 := Lib.hid (shModel.le (shModel.below R0.out hbb (Nat.le_refl _)) hbb.size); have R1 := Lib.hid (shPair.under hr); replace B := Lib.hid (hp.trans (hb.mono hp.size)); clear hb hr hp hbb)
                | (go_at_call 35; (with_reducible refine (HF.out _ B.out _ R0.out _ R1.out).mono ?_); rintro e tq ⟨ew, rfl, hr, hb⟩; have hp := B.out; (try (have BL := Lib.hid BX.out.2.2; replace BX := Lib.hid (BX.out.call hb); have yy_0 := cell_of_row _ _ 0 _ _ _ BX.out.1; have ff_0 := frozen_of_row _ _ 0 _ _ BX.out.1; have yy_1 := cell_of_row _ _ 1 _ _ _ BX.out.1; have ff_1 := frozen_of_row _ _ 1 _ _ BX.out.1; have yy_2 := cell_of_row _ _ 2 _ _ _ BX.out.1; have ff_2 := frozen_of_row _ _ 2 _ _ BX.out.1; simp only [List.getElem?_toArray, List.getElem?_cons_zero, List.getElem?_cons_succ] at yy_0 yy_1 yy_2)); obtain ⟨aq_0, nq_0, cq_0, rfl, -⟩ := shGrads_reads.1 hr; have BQ := Lib.hid (hp.trans (hb.mono hp.size)); have RQ := Lib.hid hr; clear hb hr hp)
                | (go_at_call 35; (with_reducible refine (HF.out _ (B.out.alloc B.out.size (.cells #[.slice none 0 0, .int .i64 0, .bool false] 30 (0, 0))) _ (shModel.le (shModel.below R0.out ((Below.refl _ _).alloc (Nat.le_refl _) (.cells #[.slice none 0 0, .int .i64 0, .bool false] 30 (0, 0))) (Nat.le_refl _)) (by simp)) _ (shPair.le (shPair.below R1.out ((Below.refl _ _).alloc (Nat.le_refl _) (.cells #[.slice none 0 0, .int .i64 0, .bool false] 30 (0, 0))) (Nat.le_refl _)) (by simp))).mono ?_); rintro e tq ⟨ew, rfl, hr, hb⟩; have hp := B.out.alloc B.out.size (.cells #[.slice none 0 0, .int .i64 0, .bool false] 30 (0, 0)); have BX := Lib.hid ((BoxIn.new B.out (.cells #[.slice none 0 0, .int .i64 0, .bool false] 30 (0, 0))).call hb); have BL : Hid (t1.heap.size < (t1.alloc (.cells #[.slice none 0 0, .int .i64 0, .bool false] 30 (0, 0))).heap.size) := Lib.hid (by simp); have yy_0 := cell_of_row _ _ 0 _ _ _ BX.out.1; have ff_0 := frozen_of_row _ _ 0 _ _ BX.out.1; have yy_1 := cell_of_row _ _ 1 _ _ _ BX.out.1; have ff_1 := frozen_of_row _ _ 1 _ _ BX.out.1; have yy_2 := cell_of_row _ _ 2 _ _ _ BX.out.1; have ff_2 := frozen_of_row _ _ 2 _ _ BX.out.1; simp only [List.getElem?_toArray, List.getElem?_cons_zero, List.getElem?_cons_succ] at yy_0 yy_1 yy_2; obtain ⟨aq_0, nq_0, cq_0, rfl, -⟩ := shGrads_reads.1 hr; have BQ := Lib.hid (hp.trans (hb.mono hp.size)); have RQ := Lib.hid hr; clear hb hr hp))
              all_goals
                clear zs0_0 zr0_0 zs1_0 zs1_1 zr1_0 zr1_1
                try clear zz0_1_0 zm0_1_0 zz0_1_1 zm0_1_1
                try clear yy_0 ff_0 yy_1 ff_1 yy_2 ff_2
                clear HF DR DRA HC0 HC1
                go_wp2_with fail
                go_meet
                case rel => first | (with_reducible exact BoxedR.last BQ.out RQ.out) | (with_reducible exact BoxedR.early3 BQ.out RQ.out BX.out BL.out)
            case rest =>
              clear zs0_0
              clear zr0_0
              clear zs1_0 zs1_1
              clear zr1_0 zr1_1
              obtain ⟨gJ, eJ, rfl, hk, hr, hg1, hg2, hb⟩ := hcut
              obtain ⟨w22, rfl⟩ : ∃ x, x = wc := ⟨_, rfl⟩
              have szw22 := hb.size
              replace F0 := Lib.hid (shModel.below F0.out hb (by omega))
              replace F1 := Lib.hid (shPair.below F1.out hb (by omega))
              replace AB0 := Lib.hid ((hb.block w.heap.size (by omega)).trans AB0.out)
              replace AB1 := Lib.hid ((hb.block (w.heap.size + 1) (by omega)).trans AB1.out)
              replace W := Lib.hid (shGrads.below W.out hb (by omega))
              replace BW := Lib.hid ((hb.block gW (by omega)).trans BW.out)
              replace BX0 := Lib.hid ((hb.block w5.heap.size (by omega)).trans BX0.out)
              replace BX1 := Lib.hid ((hb.block w7.heap.size (by omega)).trans BX1.out)
              replace BG := Lib.hid ((hb.block w9.heap.size (by omega)).trans BG.out)
              replace G := Lib.hid (ownGrads.owns_keep G.out (.of_below hb fun b o f => by have := f.2; omega))
              replace T := Lib.hid (T.out.trans (hb.mono (by omega)))
              clear hb
              obtain ⟨aJ_0, nJ_0, cJ_0, rfl, -⟩ := shGrads_reads.1 hr
              have J := Lib.hid hr
              have BJ := Lib.hid hk
              clear hr hk
              have HC := Lib.hid (eqGrads_c _ _ _ _ _ v J.out W.out (by omega) (by omega) vb)
              have zg_0 := cell_of_row _ gJ 0 _ _ _ BJ.out
              have zg_1 := cell_of_row _ gJ 1 _ _ _ BJ.out
              have zg_2 := cell_of_row _ gJ 2 _ _ _ BJ.out
              simp only [List.getElem?_toArray, List.getElem?_cons_zero, List.getElem?_cons_succ] at zg_0 zg_1 zg_2
              have zw_0 := cell_of_row _ gW 0 _ _ _ BW.out
              have zw_1 := cell_of_row _ gW 1 _ _ _ BW.out
              have zw_2 := cell_of_row _ gW 2 _ _ _ BW.out
              simp only [List.getElem?_toArray, List.getElem?_cons_zero, List.getElem?_cons_succ] at zw_0 zw_1 zw_2
              go_wp2_with fail
              clear zg_0 zg_1 zg_2
              clear zw_0 zw_1 zw_2
              refine HC.out.mono ?_
              rintro e w23 ⟨rfl, hb⟩
              clear HC
              have szw23 := hb.size
              replace F0 := Lib.hid (shModel.below F0.out hb (by omega))
              replace F1 := Lib.hid (shPair.below F1.out hb (by omega))
              replace AB0 := Lib.hid ((hb.block w.heap.size (by omega)).trans AB0.out)
              replace AB1 := Lib.hid ((hb.block (w.heap.size + 1) (by omega)).trans AB1.out)
              replace W := Lib.hid (shGrads.below W.out hb (by omega))
              replace BW := Lib.hid ((hb.block gW (by omega)).trans BW.out)
              replace BX0 := Lib.hid ((hb.block w5.heap.size (by omega)).trans BX0.out)
              replace BX1 := Lib.hid ((hb.block w7.heap.size (by omega)).trans BX1.out)
              replace BG := Lib.hid ((hb.block w9.heap.size (by omega)).trans BG.out)
              replace G := Lib.hid (ownGrads.owns_keep G.out (.of_below hb fun b o f => by have := f.2; omega))
              replace J := Lib.hid (shGrads.below J.out hb (by omega))
              replace BJ := Lib.hid ((hb.block gJ (by omega)).trans BJ.out)
              replace T := Lib.hid (T.out.trans (hb.mono (by omega)))
              clear hb
              have hc := heldGrads_o _ w9.heap.size _ v 1 (ownGrads.owns_reads (I := Under w9.heap.size) G.out fun b o f => f.2) (by omega) vb (by omega) (by rw [KV.out]; omega)
              rw [KV.out] at hc
              have HC := Lib.hid hc
              clear hc
              have zg_0 := cell_of_row _ w9.heap.size 0 _ _ _ BG.out
              have zg_1 := cell_of_row _ w9.heap.size 1 _ _ _ BG.out
              have zg_2 := cell_of_row _ w9.heap.size 2 _ _ _ BG.out
              simp only [List.getElem?_toArray, List.getElem?_cons_zero, List.getElem?_cons_succ] at zg_0 zg_1 zg_2
              go_wp2_with fail
              clear zg_0 zg_1 zg_2
              refine HC.out.mono ?_
              rintro e w24 ⟨rfl, hb⟩
              clear HC
              have szw24 := hb.size
              replace F0 := Lib.hid (shModel.below F0.out hb (by omega))
              replace F1 := Lib.hid (shPair.below F1.out hb (by omega))
              replace AB0 := Lib.hid ((hb.block w.heap.size (by omega)).trans AB0.out)
              replace AB1 := Lib.hid ((hb.block (w.heap.size + 1) (by omega)).trans AB1.out)
              replace W := Lib.hid (shGrads.below W.out hb (by omega))
              replace BW := Lib.hid ((hb.block gW (by omega)).trans BW.out)
              replace BX0 := Lib.hid ((hb.block w5.heap.size (by omega)).trans BX0.out)
              replace BX1 := Lib.hid ((hb.block w7.heap.size (by omega)).trans BX1.out)
              replace BG := Lib.hid ((hb.block w9.heap.size (by omega)).trans BG.out)
              replace G := Lib.hid (ownGrads.owns_keep G.out (.of_below hb fun b o f => by have := f.2; omega))
              replace J := Lib.hid (shGrads.below J.out hb (by omega))
              replace BJ := Lib.hid ((hb.block gJ (by omega)).trans BJ.out)
              replace T := Lib.hid (T.out.trans (hb.mono (by omega)))
              clear hb
              go_wp2_with fail
              go_ret
              exact ⟨rfl, T.out⟩
    · have hk0 : ((w.alloc (.cells #[.slice a0_0 n0_0 c0_0] 69 (0, 0))).alloc (.cells #[.slice a1_0 n1_0 c1_0, .slice a1_1 n1_1 c1_1] 70 (0, 0))).heap[w.heap.size]? = some (.cells #[.slice a0_0 n0_0 c0_0] 69 (0, 0)) := by
        rw [Below.heap_alloc _ _ _ (by simp)]
        have := heap_alloc_new w (.cells #[.slice a0_0 n0_0 c0_0] 69 (0, 0))
        simpa using this
      have hk1 : ((w.alloc (.cells #[.slice a0_0 n0_0 c0_0] 69 (0, 0))).alloc (.cells #[.slice a1_0 n1_0 c1_0, .slice a1_1 n1_1 c1_1] 70 (0, 0))).heap[w.heap.size + 1]? = some (.cells #[.slice a1_0 n1_0 c1_0, .slice a1_1 n1_1 c1_1] 70 (0, 0)) := by
        have := heap_alloc_new (w.alloc (.cells #[.slice a0_0 n0_0 c0_0] 69 (0, 0))) (.cells #[.slice a1_0 n1_0 c1_0, .slice a1_1 n1_1 c1_1] 70 (0, 0))
        simpa using this
      have hb := ((Below.refl w.heap.size w).alloc (Nat.le_refl _) (.cells #[.slice a0_0 n0_0 c0_0] 69 (0, 0))).alloc (by simp) (.cells #[.slice a1_0 n1_0 c1_0, .slice a1_1 n1_1 c1_1] 70 (0, 0))
      have szw1 : w.heap.size + 2 = ((w.alloc (.cells #[.slice a0_0 n0_0 c0_0] 69 (0, 0))).alloc (.cells #[.slice a1_0 n1_0 c1_0, .slice a1_1 n1_1 c1_1] 70 (0, 0))).heap.size := by simp
      go_enter Tryz.func6, Tryz.ntmps6
      go_wp2_with fail
      generalize ((w.alloc (.cells #[.slice a0_0 n0_0 c0_0] 69 (0, 0))).alloc (.cells #[.slice a1_0 n1_0 c1_0, .slice a1_1 n1_1 c1_1] 70 (0, 0))) = w1 at hb szw1 hk0 hk1 ⊢
      replace F0 := Lib.hid (shModel.below F0.out hb (by omega))
      replace F1 := Lib.hid (shPair.below F1.out hb (by omega))
      replace T := Lib.hid (T.out.trans (hb.mono (by omega)))
      have AB0 := Lib.hid hk0
      have AB1 := Lib.hid hk1
      clear hb hk0 hk1
      have hc := szModel_c _ _ _ x0 (1048576) F0.out (by omega) (by omega) (by omega)
      rw [U0.out, szN_yes (by omega)] at hc
      obtain ⟨l0, hl0⟩ : ∃ l, 1048576 - (u0 : Int) = l := ⟨_, rfl⟩
      rw [hl0] at hc
      have t0 : decide (l0 < 0) = false := decide_eq_false (by omega)
      have HC := Lib.hid hc
      clear hc
      refine HC.out.mono ?_
      rintro e w2 ⟨rfl, hb⟩
      clear HC
      have szw2 := hb.size
      replace F0 := Lib.hid (shModel.below F0.out hb (by omega))
      replace F1 := Lib.hid (shPair.below F1.out hb (by omega))
      replace AB0 := Lib.hid ((hb.block w.heap.size (by omega)).trans AB0.out)
      replace AB1 := Lib.hid ((hb.block (w.heap.size + 1) (by omega)).trans AB1.out)
      replace T := Lib.hid (T.out.trans (hb.mono (by omega)))
      clear hb
      have hc := szPair_c _ _ _ x1 (l0) F1.out (by omega) (by omega) (by omega)
      rw [U1.out, szN_no (by omega)] at hc
      have HC := Lib.hid hc
      clear hc
      have za_0 := cell_of_row _ (w.heap.size + 1) 0 _ _ _ AB1.out
      have za_1 := cell_of_row _ (w.heap.size + 1) 1 _ _ _ AB1.out
      simp only [List.getElem?_toArray, List.getElem?_cons_zero, List.getElem?_cons_succ] at za_0 za_1
      go_wp2_with fail
      clear za_0 za_1
      refine HC.out.mono ?_
      rintro e w3 ⟨rfl, hb⟩
      clear HC
      have szw3 := hb.size
      replace F0 := Lib.hid (shModel.below F0.out hb (by omega))
      replace F1 := Lib.hid (shPair.below F1.out hb (by omega))
      replace AB0 := Lib.hid ((hb.block w.heap.size (by omega)).trans AB0.out)
      replace AB1 := Lib.hid ((hb.block (w.heap.size + 1) (by omega)).trans AB1.out)
      replace T := Lib.hid (T.out.trans (hb.mono (by omega)))
      clear hb
      go_wp2_with fail
      go_ret
      exact ⟨rfl, T.out⟩
  · have hk0 : ((w.alloc (.cells #[.slice a0_0 n0_0 c0_0] 69 (0, 0))).alloc (.cells #[.slice a1_0 n1_0 c1_0, .slice a1_1 n1_1 c1_1] 70 (0, 0))).heap[w.heap.size]? = some (.cells #[.slice a0_0 n0_0 c0_0] 69 (0, 0)) := by
      rw [Below.heap_alloc _ _ _ (by simp)]
      have := heap_alloc_new w (.cells #[.slice a0_0 n0_0 c0_0] 69 (0, 0))
      simpa using this
    have hk1 : ((w.alloc (.cells #[.slice a0_0 n0_0 c0_0] 69 (0, 0))).alloc (.cells #[.slice a1_0 n1_0 c1_0, .slice a1_1 n1_1 c1_1] 70 (0, 0))).heap[w.heap.size + 1]? = some (.cells #[.slice a1_0 n1_0 c1_0, .slice a1_1 n1_1 c1_1] 70 (0, 0)) := by
      have := heap_alloc_new (w.alloc (.cells #[.slice a0_0 n0_0 c0_0] 69 (0, 0))) (.cells #[.slice a1_0 n1_0 c1_0, .slice a1_1 n1_1 c1_1] 70 (0, 0))
      simpa using this
    have hb := ((Below.refl w.heap.size w).alloc (Nat.le_refl _) (.cells #[.slice a0_0 n0_0 c0_0] 69 (0, 0))).alloc (by simp) (.cells #[.slice a1_0 n1_0 c1_0, .slice a1_1 n1_1 c1_1] 70 (0, 0))
    have szw1 : w.heap.size + 2 = ((w.alloc (.cells #[.slice a0_0 n0_0 c0_0] 69 (0, 0))).alloc (.cells #[.slice a1_0 n1_0 c1_0, .slice a1_1 n1_1 c1_1] 70 (0, 0))).heap.size := by simp
    go_enter Tryz.func6, Tryz.ntmps6
    go_wp2_with fail
    generalize ((w.alloc (.cells #[.slice a0_0 n0_0 c0_0] 69 (0, 0))).alloc (.cells #[.slice a1_0 n1_0 c1_0, .slice a1_1 n1_1 c1_1] 70 (0, 0))) = w1 at hb szw1 hk0 hk1 ⊢
    replace F0 := Lib.hid (shModel.below F0.out hb (by omega))
    replace F1 := Lib.hid (shPair.below F1.out hb (by omega))
    replace T := Lib.hid (T.out.trans (hb.mono (by omega)))
    have AB0 := Lib.hid hk0
    have AB1 := Lib.hid hk1
    clear hb hk0 hk1
    have hc := szModel_c _ _ _ x0 (1048576) F0.out (by omega) (by omega) (by omega)
    rw [U0.out, szN_no (by omega)] at hc
    have HC := Lib.hid hc
    clear hc
    refine HC.out.mono ?_
    rintro e w2 ⟨rfl, hb⟩
    clear HC
    have szw2 := hb.size
    replace F0 := Lib.hid (shModel.below F0.out hb (by omega))
    replace F1 := Lib.hid (shPair.below F1.out hb (by omega))
    replace AB0 := Lib.hid ((hb.block w.heap.size (by omega)).trans AB0.out)
    replace AB1 := Lib.hid ((hb.block (w.heap.size + 1) (by omega)).trans AB1.out)
    replace T := Lib.hid (T.out.trans (hb.mono (by omega)))
    clear hb
    go_wp2_with fail
    go_ret
    exact ⟨rfl, T.out⟩
end Go.Proofs.YtpnifgpmleaohaaGreatDoor

end
