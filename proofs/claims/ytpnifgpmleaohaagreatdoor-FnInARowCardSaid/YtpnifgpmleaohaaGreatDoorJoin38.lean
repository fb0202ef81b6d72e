import Derived.Test.YtpnifgpmleaohaaGreatDoorJoin25
import Derived.Test.YtpnifgpmleaohaaGreatDoorJoin35
import Derived.Test.YtpnifgpmleaohaaGreatDoorJoin36
import Derived.Test.YtpnifgpmleaohaaGreatDoorJoin37
/-! YtpnifgpmleaohaaGreatDoorZSeqE -/
section

namespace Go.Proofs.YtpnifgpmleaohaaGreatDoor
open Go.RowKit Go.Sort
set_option linter.unusedVariables false

theorem StepAt.weak {B0 B0' lo lo' BI j : Nat} {W : World} {x : dOp} {u : Value} (h : StepAt B0 lo W BI x j u) (hB : B0 ≤ B0') (hl : lo' ≤ lo) : StepAt B0' lo' W BI x j u := by
  obtain ⟨bo, bi, ae, ne, ce, rfl, h1, h2, h3, h4, h5, h6, h7⟩ := h
  exact ⟨bo, bi, ae, ne, ce, rfl, ⟨Nat.le_trans hl h1.1, h1.2⟩, ⟨Nat.le_trans hl h2.1, h2.2⟩, h3, h4, h5.le hB, h6, h7⟩
theorem batch_pairB (m : List dOp) (p : dPair) : batchOkB m [p] = pairOkB (inG (goodN m)) (outG (goodN m)) p := by
  rw [inG_good, outG_good]
  cases h : pairOkB (inOfN m) (outOfN m) p with
  | true =>
    unfold batchOkB
    rw [pair_model h, List.all_cons, h]
    rfl
  | false =>
    unfold batchOkB
    rw [List.all_cons, h]
    simp
theorem loss_marks (xs ys : List Int) : (lossB xs ys || flagP subB xs ys) = lossB xs ys := by
  unfold lossB
  cases flagP subB xs ys <;> simp
set_option maxRecDepth 100000 in
set_option maxHeartbeats 6400000 in
theorem implMicroGrads_o (w : World) (es : List Value) (m : dModel) (h : shModel.reads (Under w.heap.size) w es m) (hb : shModel.bulk m ≤ 1048576) (q : List Value) (p : dPair) (hq : shPair.reads (Under w.heap.size) w q p) (hb' : shPair.bulk p ≤ 1048576) (hg : LaidE w) :
    Calls Tryz.prog 35 #[.agg es.toArray, .agg q.toArray] w fun e w' => ∃ es', e = .returned (.agg es'.toArray) ∧ ownGrads.owns (FromB w.heap.size w'.heap.size) w' es' (microG m p) ∧ Below w.heap.size w w' := by
  obtain ⟨a, n, c, rfl, hc1, hc2, hl⟩ := shModel_reads.1 h
  obtain ⟨ax, nx, cx, at', nt, ct, rfl, ⟨gx, lx, mx⟩, ⟨gt, lt', mt⟩⟩ := shPair_reads.1 hq
  have hlen := hl.1
  rw [shPair_bulk, bulk_ints, bulk_ints] at hb'
  have hal3 : Below w.heap.size w (((w.alloc (.cells #[.slice a n c] 50 (0, 0))).alloc (.cells #[.slice ax nx cx, .slice at' nt ct] 66 (0, 0))).alloc (.cells #[.slice none 0 0, .int .i64 0, .bool false] 30 (0, 0))) := (((Below.refl _ _).alloc (Nat.le_refl _) _).alloc (by simp) _).alloc (by simp; omega) _
  have hA : (((w.alloc (.cells #[.slice a n c] 50 (0, 0))).alloc (.cells #[.slice ax nx cx, .slice at' nt ct] 66 (0, 0))).alloc (.cells #[.slice none 0 0, .int .i64 0, .bool false] 30 (0, 0))).heap[w.heap.size]? = some (.cells #[.slice a n c] 50 (0, 0)) := by
    rw [Below.heap_alloc _ _ _ (by simp; try omega), Below.heap_alloc _ _ _ (by simp)]
    exact heap_alloc_new w _
  have hB : (((w.alloc (.cells #[.slice a n c] 50 (0, 0))).alloc (.cells #[.slice ax nx cx, .slice at' nt ct] 66 (0, 0))).alloc (.cells #[.slice none 0 0, .int .i64 0, .bool false] 30 (0, 0))).heap[w.heap.size + 1]? = some (.cells #[.slice ax nx cx, .slice at' nt ct] 66 (0, 0)) := by
    rw [Below.heap_alloc _ _ _ (by simp)]
    have := heap_alloc_new (w.alloc (.cells #[.slice a n c] 50 (0, 0))) (.cells #[.slice ax nx cx, .slice at' nt ct] 66 (0, 0))
    simpa using this
  have hZ : (((w.alloc (.cells #[.slice a n c] 50 (0, 0))).alloc (.cells #[.slice ax nx cx, .slice at' nt ct] 66 (0, 0))).alloc (.cells #[.slice none 0 0, .int .i64 0, .bool false] 30 (0, 0))).heap[w.heap.size + 1 + 1]? = some (.cells #[.slice none 0 0, .int .i64 0, .bool false] 30 (0, 0)) := by
    have := heap_alloc_new ((w.alloc (.cells #[.slice a n c] 50 (0, 0))).alloc (.cells #[.slice ax nx cx, .slice at' nt ct] 66 (0, 0))) (.cells #[.slice none 0 0, .int .i64 0, .bool false] 30 (0, 0))
    simpa using this
  have hsz3 : (((w.alloc (.cells #[.slice a n c] 50 (0, 0))).alloc (.cells #[.slice ax nx cx, .slice at' nt ct] 66 (0, 0))).alloc (.cells #[.slice none 0 0, .int .i64 0, .bool false] 30 (0, 0))).heap.size = w.heap.size + 3 := by simp
  have HL := Lib.hid hl
  have HX := Lib.hid (mx.ints (by have := mx.1; omega))
  have HT := Lib.hid (mt.ints (by have := mt.1; omega))
  have hxl := mx.1
  have htl := mt.1
  have HBM := Lib.hid hb
  have HA := Lib.hid hA
  have HB := Lib.hid hB
  have HZ := Lib.hid hZ
  have H3 := Lib.hid hal3
  obtain ⟨k, hk⟩ : ∃ k, batchOkB m [p] = k := ⟨_, rfl⟩
  have HK := Lib.hid hk
  have HMX := Lib.hid mx
  have HMT := Lib.hid mt
  go_enter Tryz.func35, Tryz.ntmps35
  have hlt := hg.lt
  have HG := Lib.hid hg
  clear h hq hl hb hA hB hZ hal3 hk mx mt hg
  go_wp2_with fail
  generalize hw3 : ((w.alloc (.cells #[.slice a n c] 50 (0, 0))).alloc (.cells #[.slice ax nx cx, .slice at' nt ct] 66 (0, 0))).alloc (.cells #[.slice none 0 0, .int .i64 0, .bool false] 30 (0, 0)) = w3 at HA HB HZ H3 hsz3 ⊢
  clear hw3
  have z0 := box1 HA.out
  have y0 : w3.cell? ⟨w.heap.size + 1, 0, none⟩ = some (.slice ax nx cx) := by rw [cell_of_row _ _ _ _ _ _ HB.out]; rfl
  have y1 : w3.cell? ⟨w.heap.size + 1, 1, none⟩ = some (.slice at' nt ct) := by rw [cell_of_row _ _ _ _ _ _ HB.out]; rfl
  have hd3 : Below w.heap.size w w3.drew := H3.out.trans ⟨rfl, rfl, rfl, Nat.le_refl _, fun _ _ => rfl⟩
  have HMO := Lib.hid (implModelOf_b w3.drew w.heap.size hd3.size a n c m (HL.out.below hd3 (Nat.le_refl _)) hc1 hc2 HBM.out)
  have HFI := Lib.hid fun (w4 : World) (ag : Option Addr) (ng cg : Nat) (hb4 : Below w3.drew.heap.size w3.drew w4) (hlg : ListAt shOp (Under w.heap.size) w3.drew ag ng (goodN m)) => implFits_c w4 ag ng cg (goodN m) ((hlg.below hb4 hd3.size).le (Nat.le_trans hd3.size hb4.size)) (by rw [← hlg.1]; exact (goodN_le m).1) ax at' nx cx nt ct p ((HX.out.below (hd3.trans (hb4.mono hd3.size)) (Nat.le_refl _)).le (Nat.le_trans hd3.size hb4.size)) ((HT.out.below (hd3.trans (hb4.mono hd3.size)) (Nat.le_refl _)).le (Nat.le_trans hd3.size hb4.size))
  rw [Hid] at HFI
  simp only [← batch_pairB, HK.out] at HFI
  replace HFI := Lib.hid HFI
  clear hd3
  go_upto_region 1 with fail
  go_cut [19] (fun b wx => b = .bool (!k) ∧ Below w3.heap.size w3 wx)
  case first =>
    go_region_law (first
      | (go_simp; go_at_call 90; (with_reducible refine HMO.out.mono ?_); rintro e wt ⟨ag, ng, cg, rfl, hlg, -, -, hb⟩; have hbt : Below w3.heap.size w3 wt := ((Below.refl w3.heap.size w3).drew).trans hb; have HFT := Lib.hid (HFI.out wt ag ng cg hb hlg); have t0 : wt.cell? ⟨w.heap.size + 1, 0, none⟩ = some (.slice ax nx cx) := (by rw [cell_of_row _ _ _ _ _ _ ((hbt.block (w.heap.size + 1) (by omega)).trans HB.out)]; rfl); have t1 : wt.cell? ⟨w.heap.size + 1, 1, none⟩ = some (.slice at' nt ct) := (by rw [cell_of_row _ _ _ _ _ _ ((hbt.block (w.heap.size + 1) (by omega)).trans HB.out)]; rfl); have HBT := Lib.hid hbt; clear hb hbt hlg)
      | (go_simp; go_at_call 91; (with_reducible refine HFT.out.mono ?_); rintro e wu ⟨rfl, hb⟩; have HBU := Lib.hid (HBT.out.trans (hb.mono HBT.out.size)); clear hb))
    all_goals
      go_wp2_with fail
      go_meet
      case rel => exact ⟨rfl, HBU.out⟩
  case rest =>
    obtain ⟨rfl, hb5⟩ := hcut
    obtain ⟨w5, rfl⟩ : ∃ W, W = wc := ⟨_, rfl⟩
    have hs5' := hb5.size
    have h5 := Lib.hid (H3.out.trans (hb5.mono H3.out.size))
    have HA5 := Lib.hid ((hb5.block w.heap.size (by omega)).trans HA.out)
    have HB5 := Lib.hid ((hb5.block (w.heap.size + 1) (by omega)).trans HB.out)
    have HZ5 := Lib.hid ((hb5.block (w.heap.size + 1 + 1) (by omega)).trans HZ.out)
    have hs5 : w.heap.size + 3 ≤ w5.heap.size := by omega
    clear hb5 HMO HFI z0 y0 y1 HA HB HZ
    have z0 := box1 HA5.out
    have y0 : w5.cell? ⟨w.heap.size + 1, 0, none⟩ = some (.slice ax nx cx) := by rw [cell_of_row _ _ _ _ _ _ HB5.out]; rfl
    have y1 : w5.cell? ⟨w.heap.size + 1, 1, none⟩ = some (.slice at' nt ct) := by rw [cell_of_row _ _ _ _ _ _ HB5.out]; rfl
    obtain ⟨⟨d0, d1, d2⟩, f0, f1, f2⟩ := cellsG HZ5.out
    cases k
    · go_wp2_with fail
      refine bodyPost_ret (results_cell_row rfl _ _ (w.heap.size + 1 + 1) 30 #[.slice none 0 0, .int .i64 0, .bool false] (0, 0) _ rfl (store3 HZ5.out _ _ _) Tryz.underlying30 rfl (by kernel_rfl)) rfl ?_
      refine ⟨[.slice none 0 0, .int .i64 0, .bool false], rfl, ?_, set3_below h5.out (by omega) _ _ _⟩
      have hmg : microG m p = dNone := by unfold microG; rw [HK.out]; rfl
      rw [hmg]
      exact ownGrads_owns.2 ⟨none, 0, 0, rfl, Nat.le_refl _, by omega, rfl, .inl rfl⟩
    · obtain ⟨hm, hx1, hx6, ht6⟩ := batch_one HK.out
      have hpo := HK.out
      rw [batch_pairB, inG_good, outG_good] at hpo
      obtain ⟨q1, q2, q3, q4⟩ := pair_has hpo
      obtain ⟨-, hm1, hm8⟩ := modelOk_has hm
      rw [hlen] at hm1 hm8
      have hC := Lib.hid fun (w1 : World) (hb1 : Below w.heap.size w w1) => implInputs_yes w1 a n c m ((HL.out.below hb1 (Nat.le_refl _)).le hb1.size) hc1 hc2 HBM.out ax nx cx p.1 ((HX.out.below hb1 (Nat.le_refl _)).le hb1.size) (HG.out.below hlt hb1) q1 (by rw [← q3, hxl])
      go_wp2_with fail
      refine (hC.out w5 h5.out).mono ?_
      rintro e w6 ⟨v, rfl, hli, hb6⟩
      have hl6 := ListL.list hli (by decide)
      obtain ⟨ai, ci, rfl, hci1, hci2, hown⟩ := hl6
      rw [listK_length] at hci1 hown
      have hil := listK_length (inK m p.1) (n + 1)
      rw [hil] at hli ⊢
      obtain ⟨gi, ay, ny, cy, rfl, hj1, hg1, hg2, cgi, iy⟩ := hli.at n (inK m p.1 n) (listK_get _ _ _ (by omega)) (by have := (show (inK m p.1 n).length ≤ 6 from by cases n with | zero => omega | succ n => exact fwOp_length _ _); omega)
      have hs6 := hb6.size
      have h6 := Lib.hid (h5.out.trans (hb6.mono h5.out.size))
      have hA6 := (hb6.block w.heap.size (by omega)).trans HA5.out
      have hB6 := (hb6.block (w.heap.size + 1) (by omega)).trans HB5.out
      have hZ6 := (hb6.block (w.heap.size + 1 + 1) (by omega)).trans HZ5.out
      have HA6 := Lib.hid hA6
      have HB6 := Lib.hid hB6
      have HZ6 := Lib.hid hZ6
      have HIN := Lib.hid (hown.listAt (I := Under w6.heap.size) (fun b o f => f.2) (by decide))
      have HIY := Lib.hid iy
      obtain ⟨Y, hY⟩ : ∃ Y, inK m p.1 n = Y := ⟨_, rfl⟩
      have hYl : Y.length ≤ 6 := by rw [← hY]; cases n with | zero => omega | succ n => exact fwOp_length _ _
      have HY := Lib.hid hY
      rw [hY] at iy
      have hCL := Lib.hid fun (w7 : World) (hb7 : Below w6.heap.size w6 w7) => implLossOf_any w7 ay ny cy Y at' nt ct p.2 ((iy.below hb7 (Nat.le_refl _)).le hb7.size) ((HT.out.below (h6.out.trans (hb7.mono h6.out.size)) (Nat.le_refl _)).le (Nat.le_trans h6.out.size hb7.size)) (HG.out.below hlt (h6.out.trans (hb7.mono h6.out.size)))
      have hCV := Lib.hid fun (w7 : World) (hb7 : Below w6.heap.size w6 w7) => implVecSub_any w7 ay ny cy Y at' nt ct p.2 ((iy.below hb7 (Nat.le_refl _)).le hb7.size) ((HT.out.below (h6.out.trans (hb7.mono h6.out.size)) (Nat.le_refl _)).le (Nat.le_trans h6.out.size hb7.size)) (HG.out.below hlt (h6.out.trans (hb7.mono h6.out.size)))
      obtain ⟨LN, hLN⟩ : ∃ L, lossN Y p.2 = L := ⟨_, rfl⟩
      obtain ⟨LB, hLB⟩ : ∃ L, lossB Y p.2 = L := ⟨_, rfl⟩
      obtain ⟨DD, hDD⟩ : ∃ L, rowP subN Y p.2 = L := ⟨_, rfl⟩
      obtain ⟨DB, hDB⟩ : ∃ L, flagP subB Y p.2 = L := ⟨_, rfl⟩
      obtain ⟨IB, hIB⟩ : ∃ L, inKB m p.1 n = L := ⟨_, rfl⟩
      obtain ⟨BB, hBB⟩ : ∃ L, backKB m p.1 DD n = L := ⟨_, rfl⟩
      have hmk2 : (IB || LB || DB || BB) = (IB || LB || BB) := by
        have e := loss_marks Y p.2
        rw [hLB, hDB] at e
        rw [Bool.or_assoc IB LB DB, e]
      have hmg : microG m p = (gradsN m p.1 DD, LN, IB || LB || BB) := by
        unfold microG
        rw [HK.out, if_pos rfl, hlen, hY, hLN, hLB, hDD, hDB, hIB, hBB, hmk2]
      have HMG := Lib.hid hmg
      have hdl : DD.length ≤ 6 := by rw [← hDD]; have := rowP_length subN Y p.2; omega
      rw [Hid] at hCL hCV
      simp only [hLN, hLB] at hCL
      simp only [hDD, hDB] at hCV
      rw [hIB]
      have HCL := Lib.hid hCL
      have HCV := Lib.hid hCV
      have hin : ∀ j, j < n → (listK (inK m p.1) (n + 1))[j]? = some (inK m p.1 j) := fun j hj => listK_get _ _ _ (by omega)
      have HJ := Lib.hid hin
      have HBB := Lib.hid hBB
      clear z0 y0 y1 d0 d1 d2 f0 f1 f2 hCL hCV hmg hA6 hB6 hZ6 iy hown hli hb6 hY hLN hLB hDD hDB hIB hBB hin hC hmk2
      have z0 := box1 HA6.out
      have y0 : w6.cell? ⟨w.heap.size + 1, 0, none⟩ = some (.slice ax nx cx) := by rw [cell_of_row _ _ _ _ _ _ HB6.out]; rfl
      have y1 : w6.cell? ⟨w.heap.size + 1, 1, none⟩ = some (.slice at' nt ct) := by rw [cell_of_row _ _ _ _ _ _ HB6.out]; rfl
      have hix : wrap64 (((n + 1 : Nat) : Int) - 1) = (n : Int) := by rw [IntWalk.wrap64_in _ (by omega)]; omega
      have hix2 : wrap64 ((n : Int) + 1 - 1) = (n : Int) := by rw [IntWalk.wrap64_in _ (by omega)]; omega
      have hix3 : (n : Int) < (n : Int) + 1 := by omega
      go_wp2_with fail
      refine (HCL.out w6 (Below.refl _ _)).mono ?_
      rintro e w7 ⟨rfl, hb7⟩
      have hs7 := hb7.size
      have H7 := Lib.hid hb7
      have z7 := box1 ((hb7.block w.heap.size (by omega)).trans HA6.out)
      have x7 : w7.cell? ⟨w.heap.size + 1, 0, none⟩ = some (.slice ax nx cx) := by rw [cell_of_row _ _ _ _ _ _ ((hb7.block (w.heap.size + 1) (by omega)).trans HB6.out)]; rfl
      have y7 : w7.cell? ⟨w.heap.size + 1, 1, none⟩ = some (.slice at' nt ct) := by rw [cell_of_row _ _ _ _ _ _ ((hb7.block (w.heap.size + 1) (by omega)).trans HB6.out)]; rfl
      clear z0 y0 y1 hb7
      go_wp2_with fail
      refine (HCV.out w7 H7.out).mono ?_
      rintro e w8 ⟨vd, rfl, hrd, hb8⟩
      have hb68 := H7.out.trans (hb8.mono H7.out.size)
      have hs8 := hb68.size
      obtain ⟨a8, c8, rfl, hi8⟩ := hrd.form
      obtain ⟨n8, hn8⟩ : ∃ q, DD.length = q := ⟨_, rfl⟩
      have h8 := h6.out.trans (hb68.mono h6.out.size)
      clear HCL HCV
      have hS := Lib.hid (implStepsBack_any w8 a n c m ((HL.out.below h8 (Nat.le_refl _)).le h8.size) HBM.out (some ⟨gi, 0, none⟩) (n + 1) ci)
      have z8 := box1 ((hb68.block w.heap.size (by omega)).trans HA6.out)
      have H8 := Lib.hid h8
      have HZ8 := Lib.hid ((hb68.block (w.heap.size + 1 + 1) (by omega)).trans HZ6.out)
      have HIN8 := Lib.hid ((HIN.out.below hb68 (Nat.le_refl _)).le hb68.size)
      rw [hn8]
      have hd8 := hi8 (by omega)
      rw [hn8] at hd8
      have HD8 := Lib.hid hd8
      clear z7 x7 y7 hb8 hb68 h8 hrd hi8 hn8 hd8
      go_wp2_with fail
      refine hS.out.mono ?_
      rintro e w9 ⟨vs, us, rfl, hown, hI, hst, hb9⟩
      obtain ⟨gs, cs, rfl⟩ : ∃ gs cs, vs = .slice (some ⟨gs, 0, none⟩) n cs := by
        rcases hown.2 with ⟨-, hn⟩ | ⟨g, cap, cur, e, -⟩
        · omega
        · exact ⟨g, cap, e⟩
      have h9 := H8.out.trans (hb9.mono H8.out.size)
      have hB := implGoBack_any w9 m n hlen hm1 hm8 gs cs us (w8.heap.size + 1) w8.heap.size (some ⟨gi, 0, none⟩) (n + 1) ci p.1 hown hI
        (fun j x hx => by obtain ⟨u, e1, e2⟩ := hst j x hx; exact ⟨u, e1, e2.weak hb9.size (Nat.zero_le _)⟩) (listK (inK m p.1) (n + 1)) ((HIN8.out.below hb9 (Nat.le_refl _)).le hb9.size) HJ.out (by omega) a8 n8 c8 DD ((HD8.out.below hb9 (Nat.le_refl _)).le hb9.size) (HG.out.below hlt h9)
      rw [HBB.out] at hB
      have HBK := Lib.hid hB
      have H9 := Lib.hid h9
      have HZ9 := Lib.hid ((hb9.block (w.heap.size + 1 + 1) (by have := H8.out.size; omega)).trans HZ8.out)
      clear hown hI hst hb9 h9 hB z8
      go_wp2_with fail
      refine HBK.out.mono ?_
      rintro e w10 ⟨don, v, rfl, hdon, hli, hb10⟩
      obtain ⟨adn, cdn, rfl, -⟩ := hdon.form
      clear hdon
      obtain ⟨av, cv, rfl, hcv1, hcv2⟩ := hli.form
      have hgl : (gradsN m p.1 DD).length = n := by unfold gradsN; rw [listK_length, hlen]
      rw [hgl] at hli hcv1 ⊢
      have hs10 := hb10.size
      have hs9 := H9.out.size
      have hlo9 : w.heap.size + 3 ≤ w9.heap.size := by
        have h1 := (Array.getElem?_eq_some_iff.1 HZ9.out).1
        omega
      have h10 := Lib.hid (H9.out.trans (hb10.mono H9.out.size))
      have HZ10 := Lib.hid ((hb10.block (w.heap.size + 1 + 1) (by omega)).trans HZ9.out)
      obtain ⟨⟨d0, d1, d2⟩, f0, f1, f2⟩ := cellsG HZ10.out
      have HLI := Lib.hid hli
      have hend : ∀ ob : Bool, (IB || LB || BB) = ob → ownGrads.owns (FromB w.heap.size (((w10.setCell ⟨w.heap.size + 1 + 1, 0, none⟩ (.slice av n cv)).setCell ⟨w.heap.size + 1 + 1, 1, none⟩ (.int .i64 LN)).setCell ⟨w.heap.size + 1 + 1, 2, none⟩ (.bool ob)).heap.size) (((w10.setCell ⟨w.heap.size + 1 + 1, 0, none⟩ (.slice av n cv)).setCell ⟨w.heap.size + 1 + 1, 1, none⟩ (.int .i64 LN)).setCell ⟨w.heap.size + 1 + 1, 2, none⟩ (.bool ob)) [.slice av n cv, .int .i64 LN, .bool ob] (microG m p) := fun ob hob => by
        have hfin := ((HLI.out.stored (w.heap.size + 1 + 1) 0 (.slice av n cv) (by omega)).stored (w.heap.size + 1 + 1) 1 (.int .i64 LN) (by omega)).stored (w.heap.size + 1 + 1) 2 (.bool ob) (by omega)
        obtain ⟨a', cap, e1, e2, e3, e4⟩ := hfin.list (by decide)
        rw [hgl] at e1 e2 e4
        cases e1
        rw [HMG.out, hob]
        exact ownGrads_owns.2 ⟨_, _, _, rfl, e2, e3, e4.sub (fun b o f => ⟨by have := f.1; omega, by have := f.2; simpa using this⟩)⟩
      have HEND := Lib.hid hend
      clear hli hb10 hend hgl HBK HIN HIY HJ HIN8 HD8
      cases IB
      · cases LB
        · go_wp2_with fail
          refine bodyPost_ret (results_cell_row rfl _ _ (w.heap.size + 1 + 1) 30 #[.slice av n cv, .int .i64 LN, .bool BB] (0, 0) _ rfl (store3 HZ10.out _ _ _) Tryz.underlying30 rfl (by kernel_rfl)) rfl ?_
          exact ⟨[.slice av n cv, .int .i64 LN, .bool BB], rfl, HEND.out BB rfl, set3_below h10.out (by omega) _ _ _⟩
        · go_wp2_with fail
          refine bodyPost_ret (results_cell_row rfl _ _ (w.heap.size + 1 + 1) 30 #[.slice av n cv, .int .i64 LN, .bool true] (0, 0) _ rfl (store3 HZ10.out _ _ _) Tryz.underlying30 rfl (by kernel_rfl)) rfl ?_
          exact ⟨[.slice av n cv, .int .i64 LN, .bool true], rfl, HEND.out true rfl, set3_below h10.out (by omega) _ _ _⟩
      · go_wp2_with fail
        refine bodyPost_ret (results_cell_row rfl _ _ (w.heap.size + 1 + 1) 30 #[.slice av n cv, .int .i64 LN, .bool true] (0, 0) _ rfl (store3 HZ10.out _ _ _) Tryz.underlying30 rfl (by kernel_rfl)) rfl ?_
        exact ⟨[.slice av n cv, .int .i64 LN, .bool true], rfl, HEND.out true rfl, set3_below h10.out (by omega) _ _ _⟩
end Go.Proofs.YtpnifgpmleaohaaGreatDoor

end

/-! YtpnifgpmleaohaaGreatDoorZSeqK -/
section

namespace Go.Proofs.YtpnifgpmleaohaaGreatDoor
open Go.RowKit Go.Sort
set_option linter.unusedVariables false

/-- A row of noughts, the first k of which are written. -/
def fillK (xs ys : List Int) (N k : Nat) : List Int := rowK addN xs ys k ++ noughts (N - k)
theorem fillK_zero (xs ys : List Int) (N : Nat) : fillK xs ys N 0 = noughts N := by
  unfold fillK
  rw [Nat.sub_zero]
  rfl
theorem fillK_end (xs ys : List Int) (N : Nat) : fillK xs ys N N = rowK addN xs ys N := by
  unfold fillK
  rw [Nat.sub_self]
  simp [noughts]
theorem fillK_length (xs ys : List Int) (N k : Nat) (h : k ≤ N) : (fillK xs ys N k).length = N := by
  unfold fillK
  rw [List.length_append, rowK_length, noughts_length]
  omega
theorem fillK_set (xs ys : List Int) (N k : Nat) (h : k < N) (r : Int) (hr : addN (xs.getD k 0) (ys.getD k 0) = r) : (fillK xs ys N k).set k r = fillK xs ys N (k + 1) := by
  unfold fillK
  have e : noughts (N - k) = 0 :: noughts (N - (k + 1)) := by
    unfold noughts
    rw [← List.replicate_succ]
    congr 1
    omega
  rw [List.set_append_right _ _ (by rw [rowK_length]; exact Nat.le_refl _), rowK_length, Nat.sub_self, e, List.set_cons_zero, rowK, hr, List.append_assoc]
  rfl
set_option maxRecDepth 100000 in
set_option maxHeartbeats 1600000 in
theorem implAddAsFar_any (w : World) (a1 : Option Addr) (n1 c1 : Nat) (xs : List Int) (a2 : Option Addr) (n2 c2 : Nat) (ys : List Int) (h1 : IntsIn w.heap.size w a1 n1 xs) (h2 : IntsIn w.heap.size w a2 n2 ys) (hg : LaidE w) :
    Calls Tryz.prog 102 #[.slice a1 n1 c1, .slice a2 n2 c2] w (RowB w (addV xs ys) (addVB xs ys)) := by
  have hr1 := h1.room
  have hr2 := h2.room
  have e1 := h1.len
  have e2 := h2.len
  have hlt := hg.lt
  have HX := Lib.hid h1
  have HY := Lib.hid h2
  have HG := Lib.hid hg
  obtain ⟨N, hN⟩ : ∃ N, min n1 n2 = N := ⟨_, rfl⟩
  have hv : addV xs ys = rowK addN xs ys N := by unfold addV; rw [e1, e2, hN]
  have hvb : addVB xs ys = flagK addB xs ys N := by unfold addVB; rw [e1, e2, hN]
  rw [hv, hvb]
  have hN1 : N ≤ n1 := by omega
  have hN2 : N ≤ n2 := by omega
  have hmk := run_make_many (P := Tryz.prog) 28 3 _ 1 8 Tryz.underlying28 Tryz.infoI64 N (by omega) (by omega)
  have hms := Row.made w N (by omega)
  have hbs : Below w.heap.size w (w.alloc (.cells (madeCells #[.int .i64 0] N) 3 (0, 0))) := (Below.refl _ _).alloc (Nat.le_refl _) _
  have HMS := Lib.hid hms
  have HBS := Lib.hid hbs
  clear h1 h2 hv hvb e1 e2 hg hms hbs
  rcases Nat.lt_or_ge n2 n1 with hm | hm
  · obtain rfl : N = n2 := by omega
    have hm' : ((N : Int) < (n1 : Int)) := by omega
    clear hN hN1 hN2
    have hN1 : N ≤ n1 := by omega
    have hN2 : N ≤ N := Nat.le_refl _
    go_enter Tryz.func102, Tryz.ntmps102
    go_wp2_with fail
    generalize w.alloc (.cells (madeCells #[.int .i64 0] N) 3 (0, 0)) = wa at HMS HBS ⊢
    clear hmk
    go_loopw [7, 18] (fun o i wr => ∃ k : Nat, k ≤ N ∧ i = .int .i64 k ∧ o = .bool (flagK addB xs ys k) ∧ Row w.heap.size wr (.slice (some ⟨w.heap.size, 0, none⟩) N N) (fillK xs ys N k) ∧ Below w.heap.size w wr) (fun _ i _ => N - (intOf i).toNat)
    case atStart => exact ⟨0, Nat.zero_le _, rfl, rfl, by rw [fillK_zero]; exact HMS.out, HBS.out⟩
    case round =>
      obtain ⟨k, hk, rfl, rfl, hrow, hb⟩ := hrel
      have HR := Lib.hid hrow
      have HB := Lib.hid hb
      by_cases hlt' : k < N
      · obtain ⟨b, o, rfl, hbB, hcell0⟩ := HX.out.cells k (by omega)
        obtain ⟨b', o', rfl, hbB', hcell0'⟩ := HY.out.cells k (by omega)
        obtain ⟨X, hX⟩ : ∃ X, X = xs.getD k 0 := ⟨_, rfl⟩
        obtain ⟨Y, hY⟩ : ∃ Y, Y = ys.getD k 0 := ⟨_, rfl⟩
        rw [← hX] at hcell0
        rw [← hY] at hcell0'
        have hcell := (HB.out.cell (p := ⟨b, o + k, none⟩) hbB).trans hcell0
        have hcell' := (HB.out.cell (p := ⟨b', o' + k, none⟩) hbB').trans hcell0'
        obtain ⟨fl, hfl⟩ : ∃ fl, flagK addB xs ys k = fl := ⟨_, rfl⟩
        obtain ⟨rn, hrn⟩ : ∃ rn, addN X Y = rn := ⟨_, rfl⟩
        obtain ⟨go, hgo⟩ : ∃ go, addB X Y = go := ⟨_, rfl⟩
        have hT := implFixAdd_any X Y wr.drew ((HG.out.below hlt HB.out).below (by have := HB.out.size; omega) ((Below.refl wr.heap.size wr).drew))
        rw [hgo, hrn] at hT
        have HT := Lib.hid hT
        have e1 : flagK addB xs ys (k + 1) = (fl || go) := by rw [flagK, hfl, ← hX, ← hY, hgo]
        have e2 : (fillK xs ys N k).set k rn = fillK xs ys N (k + 1) := fillK_set xs ys N k hlt' rn (by rw [← hX, ← hY, hrn])
        have E1 := Lib.hid e1
        have E2 := Lib.hid e2
        rw [hfl]
        have hlz := fillK_length xs ys N k hk
        have HLZ := Lib.hid hlz
        have hsz := hb.size
        have hkN : (k : Int) < (N : Int) := by omega
        have hk1 : k < n1 := by omega
        clear hX hY hcell0 hcell0' hfl hgo hrn hT e1 e2 hrow hb hlz
        go_wp2_with fail
        go_region_law (first
          | (go_simp; go_at_call 101; (with_reducible refine HT.out.mono ?_); rintro e wt ⟨rfl, hb⟩; have hbt : Below wr.heap.size wr wt := ((Below.refl wr.heap.size wr).drew).trans hb; have hrt := HR.out.below hbt; have hown : wt.ownsRow w.heap.size 3 1 (.slice (some ⟨w.heap.size, 0, none⟩) N N) N (icells (fillK xs ys N k)) := (by have := hrt; unfold Row at this; rw [HLZ.out] at this; exact this); have hfr := World.ownsRow.frozenAt hown k; obtain ⟨u, hu⟩ : ∃ u, wt.cell? ⟨w.heap.size, k, none⟩ = some u := (by rw [World.ownsRow.cellAt hown k (by omega)]; exact ⟨_, List.getElem?_eq_getElem (by rw [icells_length, HLZ.out]; omega)⟩); have ST := Lib.hid (World.ownsRow.stored hown k (.int .i64 rn)).1; have HBT := Lib.hid hbt; clear hb hbt hrt hown))
        all_goals
          cases fl
          all_goals
            go_wp2_with fail
            go_roundw
            case rel =>
              refine ⟨k + 1, by omega, by go_num, by rw [E1.out]; rfl, ?_, (HB.out.trans (HBT.out.mono hsz)).setCell (p := ⟨w.heap.size, k, none⟩) (Nat.le_refl _) _⟩
              have h1 := ST.out
              rw [icells_set, E2.out] at h1
              unfold Row
              rw [fillK_length xs ys N (k + 1) (by omega)]
              exact h1
            case measure => simp [intOf]; omega
      · obtain rfl : k = N := by omega
        clear hrow hb
        go_wp2_with fail
        go_ret2
        exact ⟨_, rfl, by rw [← fillK_end]; exact HR.out, HB.out⟩
  · obtain rfl : N = n1 := by omega
    have hm' : ¬ ((n2 : Int) < (N : Int)) := by omega
    clear hN hN1 hN2
    have hN1 : N ≤ N := Nat.le_refl _
    have hN2 : N ≤ n2 := by omega
    go_enter Tryz.func102, Tryz.ntmps102
    go_wp2_with fail
    generalize w.alloc (.cells (madeCells #[.int .i64 0] N) 3 (0, 0)) = wa at HMS HBS ⊢
    clear hmk
    go_loopw [7, 18] (fun o i wr => ∃ k : Nat, k ≤ N ∧ i = .int .i64 k ∧ o = .bool (flagK addB xs ys k) ∧ Row w.heap.size wr (.slice (some ⟨w.heap.size, 0, none⟩) N N) (fillK xs ys N k) ∧ Below w.heap.size w wr) (fun _ i _ => N - (intOf i).toNat)
    case atStart => exact ⟨0, Nat.zero_le _, rfl, rfl, by rw [fillK_zero]; exact HMS.out, HBS.out⟩
    case round =>
      obtain ⟨k, hk, rfl, rfl, hrow, hb⟩ := hrel
      have HR := Lib.hid hrow
      have HB := Lib.hid hb
      by_cases hlt' : k < N
      · obtain ⟨b, o, rfl, hbB, hcell0⟩ := HX.out.cells k (by omega)
        obtain ⟨b', o', rfl, hbB', hcell0'⟩ := HY.out.cells k (by omega)
        obtain ⟨X, hX⟩ : ∃ X, X = xs.getD k 0 := ⟨_, rfl⟩
        obtain ⟨Y, hY⟩ : ∃ Y, Y = ys.getD k 0 := ⟨_, rfl⟩
        rw [← hX] at hcell0
        rw [← hY] at hcell0'
        have hcell := (HB.out.cell (p := ⟨b, o + k, none⟩) hbB).trans hcell0
        have hcell' := (HB.out.cell (p := ⟨b', o' + k, none⟩) hbB').trans hcell0'
        obtain ⟨fl, hfl⟩ : ∃ fl, flagK addB xs ys k = fl := ⟨_, rfl⟩
        obtain ⟨rn, hrn⟩ : ∃ rn, addN X Y = rn := ⟨_, rfl⟩
        obtain ⟨go, hgo⟩ : ∃ go, addB X Y = go := ⟨_, rfl⟩
        have hT := implFixAdd_any X Y wr.drew ((HG.out.below hlt HB.out).below (by have := HB.out.size; omega) ((Below.refl wr.heap.size wr).drew))
        rw [hgo, hrn] at hT
        have HT := Lib.hid hT
        have e1 : flagK addB xs ys (k + 1) = (fl || go) := by rw [flagK, hfl, ← hX, ← hY, hgo]
        have e2 : (fillK xs ys N k).set k rn = fillK xs ys N (k + 1) := fillK_set xs ys N k hlt' rn (by rw [← hX, ← hY, hrn])
        have E1 := Lib.hid e1
        have E2 := Lib.hid e2
        rw [hfl]
        have hlz := fillK_length xs ys N k hk
        have HLZ := Lib.hid hlz
        have hsz := hb.size
        have hkN : (k : Int) < (N : Int) := by omega
        have hk1 : k < n2 := by omega
        clear hX hY hcell0 hcell0' hfl hgo hrn hT e1 e2 hrow hb hlz
        go_wp2_with fail
        go_region_law (first
          | (go_simp; go_at_call 101; (with_reducible refine HT.out.mono ?_); rintro e wt ⟨rfl, hb⟩; have hbt : Below wr.heap.size wr wt := ((Below.refl wr.heap.size wr).drew).trans hb; have hrt := HR.out.below hbt; have hown : wt.ownsRow w.heap.size 3 1 (.slice (some ⟨w.heap.size, 0, none⟩) N N) N (icells (fillK xs ys N k)) := (by have := hrt; unfold Row at this; rw [HLZ.out] at this; exact this); have hfr := World.ownsRow.frozenAt hown k; obtain ⟨u, hu⟩ : ∃ u, wt.cell? ⟨w.heap.size, k, none⟩ = some u := (by rw [World.ownsRow.cellAt hown k (by omega)]; exact ⟨_, List.getElem?_eq_getElem (by rw [icells_length, HLZ.out]; omega)⟩); have ST := Lib.hid (World.ownsRow.stored hown k (.int .i64 rn)).1; have HBT := Lib.hid hbt; clear hb hbt hrt hown))
        all_goals
          cases fl
          all_goals
            go_wp2_with fail
            go_roundw
            case rel =>
              refine ⟨k + 1, by omega, by go_num, by rw [E1.out]; rfl, ?_, (HB.out.trans (HBT.out.mono hsz)).setCell (p := ⟨w.heap.size, k, none⟩) (Nat.le_refl _) _⟩
              have h1 := ST.out
              rw [icells_set, E2.out] at h1
              unfold Row
              rw [fillK_length xs ys N (k + 1) (by omega)]
              exact h1
            case measure => simp [intOf]; omega
      · obtain rfl : k = N := by omega
        clear hrow hb
        go_wp2_with fail
        go_ret2
        exact ⟨_, rfl, by rw [← fillK_end]; exact HR.out, HB.out⟩
/-- Boxes that a call lays: two of its arguments, its answer's, and one later. -/
structure Sums (w wr : World) (g : Nat) (A B Z O : Array Value) (TA TB T : TypeId) : Prop where
  below : Below w.heap.size w wr
  lo : w.heap.size + 3 ≤ g
  size : g + 1 ≤ wr.heap.size
  a : wr.heap[w.heap.size]? = some (.cells A TA (0, 0))
  b : wr.heap[w.heap.size + 1]? = some (.cells B TB (0, 0))
  z : wr.heap[w.heap.size + 1 + 1]? = some (.cells Z T (0, 0))
  o : wr.heap[g]? = some (.cells O T (0, 0))
theorem Sums.far {w w1 w4 : World} {g : Nat} {A B Z O : Array Value} {TA TB T : TypeId} (h : Sums w w1 g A B Z O TA TB T) (hb : Below (g + 1) w1 w4) : Sums w w4 g A B Z O TA TB T :=
  have hlo := h.lo
  ⟨h.below.trans (hb.mono (by omega)), h.lo, Nat.le_trans h.size hb.size, (hb.block _ (by omega)).trans h.a, (hb.block _ (by omega)).trans h.b, (hb.block _ (by omega)).trans h.z, (hb.block _ (by omega)).trans h.o⟩
theorem Sums.call {w w1 w4 : World} {g : Nat} {A B Z O : Array Value} {TA TB T : TypeId} (h : Sums w w1 g A B Z O TA TB T) (hb : Below w1.heap.size w1 w4) : Sums w w4 g A B Z O TA TB T := h.far (hb.mono h.size)
theorem Sums.store {w wr : World} {g : Nat} {A B Z O : Array Value} {TA TB T : TypeId} (h : Sums w wr g A B Z O TA TB T) (i : Nat) (v : Value) : Sums w (wr.setCell ⟨g, i, none⟩ v) g A B Z (O.setIfInBounds i v) TA TB T :=
  have hlo := h.lo
  ⟨h.below.setCell (p := ⟨g, i, none⟩) (by show w.heap.size ≤ g; omega) v, h.lo, by have := h.size; simpa using this,
    (heap_setCell_other _ _ _ _ (by show w.heap.size ≠ g; omega)).trans h.a, (heap_setCell_other _ _ _ _ (by show w.heap.size + 1 ≠ g; omega)).trans h.b, (heap_setCell_other _ _ _ _ (by show w.heap.size + 1 + 1 ≠ g; omega)).trans h.z,
    heap_setCell_same wr _ i O T v h.o⟩
theorem sums_end {w wr : World} {g : Nat} {A B : Array Value} {TA TB : TypeId} {v : Value} {L : Int} {q : Bool} {xs : List dRow} (h : Sums w wr g A B #[.slice none 0 0, .int .i64 0, .bool false] #[v, .int .i64 L, .bool q] TA TB 30) (hli : ListL ownRow 56 (g + 1) wr.heap.size wr v xs) (_ : Int) (_ : Bool) :
    (((wr.setCell ⟨w.heap.size + 1 + 1, 0, none⟩ v).setCell ⟨w.heap.size + 1 + 1, 1, none⟩ (.int .i64 L)).setCell ⟨w.heap.size + 1 + 1, 2, none⟩ (.bool q)).heap[w.heap.size + 1 + 1]? = some (.cells #[v, .int .i64 L, .bool q] 30 (0, 0)) ∧
    ownGrads.owns (FromB w.heap.size (((wr.setCell ⟨w.heap.size + 1 + 1, 0, none⟩ v).setCell ⟨w.heap.size + 1 + 1, 1, none⟩ (.int .i64 L)).setCell ⟨w.heap.size + 1 + 1, 2, none⟩ (.bool q)).heap.size) (((wr.setCell ⟨w.heap.size + 1 + 1, 0, none⟩ v).setCell ⟨w.heap.size + 1 + 1, 1, none⟩ (.int .i64 L)).setCell ⟨w.heap.size + 1 + 1, 2, none⟩ (.bool q)) [v, .int .i64 L, .bool q] (xs, L, q) ∧
    Below w.heap.size w (((wr.setCell ⟨w.heap.size + 1 + 1, 0, none⟩ v).setCell ⟨w.heap.size + 1 + 1, 1, none⟩ (.int .i64 L)).setCell ⟨w.heap.size + 1 + 1, 2, none⟩ (.bool q)) := by
  have hlo := h.lo
  refine ⟨store3 h.z _ _ _, ?_, ((h.below.setCell (p := ⟨w.heap.size + 1 + 1, 0, none⟩) (by show _ ≤ w.heap.size + 1 + 1; omega) _).setCell (p := ⟨w.heap.size + 1 + 1, 1, none⟩) (by show _ ≤ w.heap.size + 1 + 1; omega) _).setCell (p := ⟨w.heap.size + 1 + 1, 2, none⟩) (by show _ ≤ w.heap.size + 1 + 1; omega) _⟩
  have hfin := ((hli.stored (w.heap.size + 1 + 1) 0 v (by omega)).stored (w.heap.size + 1 + 1) 1 (.int .i64 L) (by omega)).stored (w.heap.size + 1 + 1) 2 (.bool q) (by omega)
  obtain ⟨a', cap, rfl, e2, e3, e4⟩ := hfin.list (by decide)
  exact ownGrads_owns.2 ⟨_, _, _, rfl, e2, e3, e4.sub (fun b o f => ⟨by have := f.1; omega, by have := f.2; simpa using this⟩)⟩
set_option maxRecDepth 100000 in
set_option maxHeartbeats 6400000 in
theorem implAddGrads_o (w : World) (es : List Value) (x : dGrads) (h : shGrads.reads (Under w.heap.size) w es x) (hb : shGrads.bulk x ≤ 1048576) (es' : List Value) (y : dGrads) (h' : shGrads.reads (Under w.heap.size) w es' y) (hb' : shGrads.bulk y ≤ 1048576) (hg : LaidE w) :
    Calls Tryz.prog 32 #[.agg es.toArray, .agg es'.toArray] w fun e w' => ∃ es', e = .returned (.agg es'.toArray) ∧ ownGrads.owns (FromB w.heap.size w'.heap.size) w' es' (addG x y) ∧ Below w.heap.size w w' := by
  obtain ⟨a, n, c, rfl, hc1, hc2, hl⟩ := shGrads_reads.1 h
  obtain ⟨a', n', c', rfl, hd1, hd2, hl'⟩ := shGrads_reads.1 h'
  obtain ⟨i0, hi, hz0, hz1, hz2⟩ := info_parts infoRow1
  rw [shGrads_bulk, bulk_list _ hl] at hb
  rw [shGrads_bulk, bulk_list _ hl'] at hb'
  have hlen := hl.1
  have hlen' := hl'.1
  have hlt := hg.lt
  obtain ⟨N, hN⟩ : ∃ N, min n n' = N := ⟨_, rfl⟩
  have hN1 : N ≤ n := by omega
  have hN2 : N ≤ n' := by omega
  obtain ⟨f, hf⟩ : ∃ f : Nat → List Int, f = fun j => addV (rowAt x.1 j) (rowAt y.1 j) := ⟨_, rfl⟩
  obtain ⟨fb, hfb⟩ : ∃ fb : Nat → Bool, fb = fun j => addVB (rowAt x.1 j) (rowAt y.1 j) := ⟨_, rfl⟩
  obtain ⟨L1, hL1⟩ : ∃ L, x.2.1 = L := ⟨_, rfl⟩
  obtain ⟨L2, hL2⟩ : ∃ L, y.2.1 = L := ⟨_, rfl⟩
  obtain ⟨s1, hs1⟩ : ∃ s, x.2.2 = s := ⟨_, rfl⟩
  obtain ⟨s2, hs2⟩ : ∃ s, y.2.2 = s := ⟨_, rfl⟩
  obtain ⟨LL, hLL⟩ : ∃ L, addN L1 L2 = L := ⟨_, rfl⟩
  obtain ⟨LB, hLB⟩ : ∃ b, addB L1 L2 = b := ⟨_, rfl⟩
  have hV : addG x y = (listK f N, LL, s1 || s2 || anyK fb N || LB) := by
    unfold addG addRows addRowsB
    rw [hlen, hlen', hN, hL1, hL2, hs1, hs2, hLL, hLB, hf, hfb]
  rw [hV, hL1, hL2, hs1, hs2]
  have HF := Lib.hid hf
  have HFB := Lib.hid hfb
  have HL := Lib.hid hl
  have HL' := Lib.hid hl'
  have HBU := Lib.hid hb
  have HBU' := Lib.hid hb'
  have hal := (((Below.refl w.heap.size w).alloc (Nat.le_refl _) (.cells #[.slice a n c, .int .i64 L1, .bool s1] 30 (0, 0))).alloc (by simp) (.cells #[.slice a' n' c', .int .i64 L2, .bool s2] 30 (0, 0))).alloc (by simp; omega) (.cells #[.slice none 0 0, .int .i64 0, .bool false] 30 (0, 0))
  have hA : (((w.alloc (.cells #[.slice a n c, .int .i64 L1, .bool s1] 30 (0, 0))).alloc (.cells #[.slice a' n' c', .int .i64 L2, .bool s2] 30 (0, 0))).alloc (.cells #[.slice none 0 0, .int .i64 0, .bool false] 30 (0, 0))).heap[w.heap.size]? = some (.cells #[.slice a n c, .int .i64 L1, .bool s1] 30 (0, 0)) := by
    rw [Below.heap_alloc _ _ _ (by simp; try omega), Below.heap_alloc _ _ _ (by simp)]
    exact heap_alloc_new w _
  have hB : (((w.alloc (.cells #[.slice a n c, .int .i64 L1, .bool s1] 30 (0, 0))).alloc (.cells #[.slice a' n' c', .int .i64 L2, .bool s2] 30 (0, 0))).alloc (.cells #[.slice none 0 0, .int .i64 0, .bool false] 30 (0, 0))).heap[w.heap.size + 1]? = some (.cells #[.slice a' n' c', .int .i64 L2, .bool s2] 30 (0, 0)) := by
    rw [Below.heap_alloc _ _ _ (by simp)]
    have := heap_alloc_new (w.alloc (.cells #[.slice a n c, .int .i64 L1, .bool s1] 30 (0, 0))) (.cells #[.slice a' n' c', .int .i64 L2, .bool s2] 30 (0, 0))
    simpa using this
  have hZ : (((w.alloc (.cells #[.slice a n c, .int .i64 L1, .bool s1] 30 (0, 0))).alloc (.cells #[.slice a' n' c', .int .i64 L2, .bool s2] 30 (0, 0))).alloc (.cells #[.slice none 0 0, .int .i64 0, .bool false] 30 (0, 0))).heap[w.heap.size + 1 + 1]? = some (.cells #[.slice none 0 0, .int .i64 0, .bool false] 30 (0, 0)) := by
    have := heap_alloc_new ((w.alloc (.cells #[.slice a n c, .int .i64 L1, .bool s1] 30 (0, 0))).alloc (.cells #[.slice a' n' c', .int .i64 L2, .bool s2] 30 (0, 0))) (.cells #[.slice none 0 0, .int .i64 0, .bool false] 30 (0, 0))
    simpa using this
  have hs3 : (((w.alloc (.cells #[.slice a n c, .int .i64 L1, .bool s1] 30 (0, 0))).alloc (.cells #[.slice a' n' c', .int .i64 L2, .bool s2] 30 (0, 0))).alloc (.cells #[.slice none 0 0, .int .i64 0, .bool false] 30 (0, 0))).heap.size = w.heap.size + 3 := by simp
  have HG := Lib.hid hg
  clear h h' hl hl' hb hb' hf hfb hL1 hL2 hs1 hs2 hV hg
  go_enter Tryz.func32, Tryz.ntmps32
  go_wp2_with fail
  generalize ((w.alloc (.cells #[.slice a n c, .int .i64 L1, .bool s1] 30 (0, 0))).alloc (.cells #[.slice a' n' c', .int .i64 L2, .bool s2] 30 (0, 0))).alloc (.cells #[.slice none 0 0, .int .i64 0, .bool false] 30 (0, 0)) = wa at hal hA hB hZ hs3 ⊢
  have hT := implFixAdd_any L1 L2 wa (HG.out.below hlt hal)
  rw [hLL, hLB] at hT
  have HA := Lib.hid hA
  have HB := Lib.hid hB
  have HZ := Lib.hid hZ
  have HAL := Lib.hid hal
  clear hA hB hZ hal hLL hLB
  refine hT.mono ?_
  rintro e w1 ⟨rfl, hb1⟩
  have hs1' := hb1.size
  obtain ⟨⟨a0, a1, a2⟩, -⟩ := cellsG ((hb1.block w.heap.size (by omega)).trans HA.out)
  obtain ⟨⟨b0, b1, b2⟩, -⟩ := cellsG ((hb1.block (w.heap.size + 1) (by omega)).trans HB.out)
  obtain ⟨⟨z0, z1, z2⟩, -⟩ := cellsG ((hb1.block (w.heap.size + 1 + 1) (by omega)).trans HZ.out)
  have HB1 := Lib.hid hb1
  have HBA := Lib.hid ((hb1.block w.heap.size (by omega)).trans HA.out)
  have HBB := Lib.hid ((hb1.block (w.heap.size + 1) (by omega)).trans HB.out)
  have HBZ := Lib.hid ((hb1.block (w.heap.size + 1 + 1) (by omega)).trans HZ.out)
  have HW1 := Lib.hid (HAL.out.trans (hb1.mono (by omega)))
  have hsum : ∀ q : Bool, Sums w (w1.alloc (.cells #[.slice none 0 0, .int .i64 LL, .bool q] 30 (0, 0))) w1.heap.size #[.slice a n c, .int .i64 L1, .bool s1] #[.slice a' n' c', .int .i64 L2, .bool s2] #[.slice none 0 0, .int .i64 0, .bool false] #[.slice none 0 0, .int .i64 LL, .bool q] 30 30 30 := fun q =>
    have hq := (Below.refl w1.heap.size w1).alloc (Nat.le_refl _) (.cells #[.slice none 0 0, .int .i64 LL, .bool q] 30 (0, 0))
    ⟨HW1.out.trans (hq.mono (by omega)), by omega, by simp, (hq.block _ (by omega)).trans HBA.out, (hq.block _ (by omega)).trans HBB.out, (hq.block _ (by omega)).trans HBZ.out, heap_alloc_new w1 _⟩
  have HSUM := Lib.hid hsum
  have hsumb : ∀ q : Bool, Below w1.heap.size w1 (w1.alloc (.cells #[.slice none 0 0, .int .i64 LL, .bool q] 30 (0, 0))) := fun q => (Below.refl w1.heap.size w1).alloc (Nat.le_refl _) _
  have HSB := Lib.hid hsumb
  clear hT hb1 hsum hsumb
  go_upto_region 2 with fail
  go_cut [7] (fun p wx => p = .pointer (some ⟨w1.heap.size, 0, none⟩) ∧ Sums w wx w1.heap.size #[.slice a n c, .int .i64 L1, .bool s1] #[.slice a' n' c', .int .i64 L2, .bool s2] #[.slice none 0 0, .int .i64 0, .bool false] #[.slice none 0 0, .int .i64 LL, .bool (s1 || s2 || LB)] 30 30 30 ∧ Below w1.heap.size w1 wx)
  case first =>
    cases s1
    · cases s2
      · go_wp2_with fail
        go_meet
        case rel => exact ⟨rfl, by simpa using HSUM.out LB, HSB.out _⟩
      · go_wp2_with fail
        go_meet
        case rel => exact ⟨rfl, by simpa using HSUM.out true, HSB.out _⟩
    · go_wp2_with fail
      go_meet
      case rel => exact ⟨rfl, by simpa using HSUM.out true, HSB.out _⟩
  case rest =>
    obtain ⟨rfl, hsu, hbu⟩ := hcut
    obtain ⟨g, hgd⟩ : ∃ g, w1.heap.size = g := ⟨_, rfl⟩
    obtain ⟨S, hS⟩ : ∃ S, (s1 || s2 || LB) = S := ⟨_, rfl⟩
    rw [hgd, hS] at hsu
    rw [hgd]
    obtain ⟨wq, rfl⟩ : ∃ W, W = wc := ⟨_, rfl⟩
    have HSU := Lib.hid hsu
    have HSS := Lib.hid hS
    have hsz0 := hsu.size
    have hlo := hsu.lo
    have HBW := Lib.hid hsu.below
    obtain ⟨⟨a0, a1, a2⟩, -⟩ := cellsG hsu.a
    obtain ⟨⟨b0, b1, b2⟩, -⟩ := cellsG hsu.b
    clear hsu hS hbu HSUM HSB HBA HBB HBZ HW1 HB1 hgd hs1'
    go_upto_region 3 with fail
    go_cut [36, 37] (fun b i wx => b = .int .i64 N ∧ i = .int .i64 0 ∧ wx = wq)
    case first =>
      rcases Nat.lt_or_ge n' n with hm | hm
      · have hm' : ((n' : Int) < (n : Int)) := by omega
        obtain rfl : N = n' := by omega
        go_wp2_with fail
        go_meet
        case rel => exact ⟨rfl, rfl, rfl⟩
      · have hm' : ¬ ((n' : Int) < (n : Int)) := by omega
        obtain rfl : N = n := by omega
        go_wp2_with fail
        go_meet
        case rel => exact ⟨rfl, rfl, rfl⟩
    case rest =>
      obtain ⟨rfl, rfl, rfl⟩ := hcut
      clear a0 a1 a2 b0 b1 b2
      go_wp2_with fail
      go_loopw [37] (fun i wr => ∃ (k : Nat) (v : Value) (o : Bool), k ≤ N ∧ i = .int .i64 k ∧ Hid (o = (S || anyK fb k)) ∧ Sums w wr g #[.slice a n c, .int .i64 L1, .bool s1] #[.slice a' n' c', .int .i64 L2, .bool s2] #[.slice none 0 0, .int .i64 0, .bool false] #[v, .int .i64 LL, .bool o] 30 30 30 ∧ ListL ownRow 56 (g + 1) wr.heap.size wr v (listK f k)) (fun i _ => N - (intOf i).toNat)
      case atStart => exact ⟨0, .slice none 0 0, _, Nat.zero_le _, rfl, Lib.hid (by simp [anyK]), HSU.out, ListL.nil _ _ (Nat.le_refl _)⟩
      case round =>
        obtain ⟨k, v, o, hk, rfl, ho, hfo, hli⟩ := hrel
        obtain ⟨av, cv, rfl, -, -⟩ := hli.form
        have hkl := listK_length f k
        rw [hkl] at hfo hli
        have hsz4 := hfo.size
        have HFO := Lib.hid hfo
        have HLI := Lib.hid hli
        obtain ⟨⟨a0, a1, a2_⟩, -⟩ := cellsG hfo.a
        obtain ⟨⟨b0, b1, b2⟩, -⟩ := cellsG hfo.b
        obtain ⟨⟨z0, z1, z2⟩, y0, y1, y2⟩ := cellsG hfo.z
        obtain ⟨⟨d0, d1, d2⟩, f0, f1, f2⟩ := cellsG hfo.o
        clear hfo hli
        by_cases hlt' : k < N
        · have hk1 : k < n := by omega
          have hk2 : k < n' := by omega
          obtain ⟨p, hp⟩ : ∃ p, x.1[k]? = some p := ⟨_, List.getElem?_eq_getElem (by rw [hlen]; exact hk1)⟩
          obtain ⟨r, hr⟩ : ∃ r, y.1[k]? = some r := ⟨_, List.getElem?_eq_getElem (by rw [hlen']; exact hk2)⟩
          obtain ⟨b, o1, es, rfl, hbB, hrg, hs⟩ := HL.out.2 k p hp
          obtain ⟨b', o2, es', rfl, hbB', hrg', hs'⟩ := HL'.out.2 k r hr
          have hrr := rangeAt_kept hrg (show b < w.heap.size from hbB) (Kept.of_below (I := Under w.heap.size) HFO.out.below fun b hb => hb)
          have hrr' := rangeAt_kept hrg' (show b' < w.heap.size from hbB') (Kept.of_below (I := Under w.heap.size) HFO.out.below fun b hb => hb)
          have hdr : Below w.heap.size w wr.drew := HFO.out.below.trans ⟨rfl, rfl, rfl, Nat.le_refl _, fun _ _ => rfl⟩
          have hsw := shRow.below hs hdr (Nat.le_refl _)
          have hsw' := shRow.below hs' hdr (Nat.le_refl _)
          have hbx : shRow.bulk p ≤ 1048576 := by have h1 := bulk_mem shRow.bulk x.1 k p hp; have h2 := HBU.out; omega
          have hby : shRow.bulk r ≤ 1048576 := by have h1 := bulk_mem shRow.bulk y.1 k r hr; have h2 := HBU'.out; omega
          rw [shRow_bulk, bulk_ints] at hbx hby
          obtain ⟨ax, nx, cx, rfl, -, -, mx⟩ := shRow_reads.1 hsw
          obtain ⟨ay, ny, cy, rfl, -, -, my⟩ := shRow_reads.1 hsw'
          have hlx : p.length = nx := mx.1
          have hly : r.length = ny := my.1
          have hC := implAddAsFar_any wr.drew ax nx cx p ay ny cy r ((mx.ints (by omega)).le hdr.size) ((my.ints (by omega)).le hdr.size) (HG.out.below hlt hdr)
          have hfk : f k = addV p r := by
            rw [HF.out]
            show addV (rowAt x.1 k) (rowAt y.1 k) = _
            rw [rowAt_get hp, rowAt_get hr]
          have hgk : fb k = addVB p r := by
            rw [HFB.out]
            show addVB (rowAt x.1 k) (rowAt y.1 k) = _
            rw [rowAt_get hp, rowAt_get hr]
          rw [← hfk, ← hgk] at hC
          obtain ⟨fl, hfl⟩ : ∃ q, fb k = q := ⟨_, rfl⟩
          rw [hfl] at hC
          have HC := Lib.hid hC
          have HFL := Lib.hid hfl
          rw [shRow_size, Nat.mul_one] at hrr hrr'
          have c0 := hrr 0 _ rfl
          have c0' := hrr' 0 _ rfl
          simp only [Nat.add_zero] at c0 c0'
          have hkN : (k : Int) < (N : Int) := by omega
          clear hrg hrg' hrr hrr' hs hs' hsw hsw' mx my hp hr hbx hby hlx hly hfk hgk hfl hC hbB hbB' hdr
          go_upto_region 6 with fail
          go_cut [9, 10] (fun t u wx => u = .bool fl ∧ Row wr.heap.size wx t (f k) ∧ Below wr.heap.size wr wx)
          case first =>
            go_region_law (first
              | (go_simp; go_at_call 102; (with_reducible refine HC.out.mono ?_); rintro e wt ⟨v', rfl, hr, hb⟩; have HR := Lib.hid hr; have HBT := Lib.hid hb; clear hr hb))
            all_goals
              go_wp2_with fail
              go_meet
              case rel => exact ⟨rfl, HR.out, ((Below.refl wr.heap.size wr).drew).trans HBT.out⟩
          case rest =>
            obtain ⟨rfl, hr, hb⟩ := hcut
            obtain ⟨w2, rfl⟩ : ∃ W, W = wc := ⟨_, rfl⟩
            obtain ⟨u2, hu2⟩ : ∃ u, u = f k := ⟨_, rfl⟩
            rw [← hu2] at hr
            obtain ⟨a2, c2, rfl, -⟩ := hr.form
            have hfo := HFO.out.call hb
            have hl2 := (HLI.out.below hb (Nat.le_refl _)).wide (hi' := wr.heap.size) (Nat.le_refl _) (Nat.le_refl _) hb.size
            have hsz5 := hfo.size
            obtain ⟨us, G, h1, h2, h3, h4, h5⟩ := hl2.all
            obtain ⟨n2, hn2⟩ : ∃ q, u2.length = q := ⟨_, rfl⟩
            rw [hn2] at hr ⊢
            have hP : Hid (∀ (w4 : World) (g' cap : Nat), w4.ownsRow (g + 1) 56 1 (.slice (some ⟨g', 0, none⟩) (k + 1) cap) (k + 1) (us ++ [.slice a2 n2 c2]) → (w2.alloc (.cells #[.slice a2 n2 c2] 56 (0, 0))).grownBy w4 (Value.slice av k cv).ownBlock →
                ((Value.slice av k cv).ownBlock = some g' ∨ g' = (w2.alloc (.cells #[.slice a2 n2 c2] 56 (0, 0))).heap.size) → ListL ownRow 56 (g + 1) w4.heap.size w4 (.slice (some ⟨g', 0, none⟩) (k + 1) cap) (listK f (k + 1)) ∧ Below (g + 1) w2 w4) := Lib.hid fun w4 g' cap ho hgr hat => by
              have hp := ListL.put (S := ownRow) (T := 56) (lo := g + 1) (hi := wr.heap.size) (w := w2) (w' := w4) (v := .slice av k cv) (v' := .slice (some ⟨g', 0, none⟩) (k + 1) cap) (xs := listK f k) (o := (.cells #[.slice a2 n2 c2] 56 (0, 0))) (x := u2) (F := FromB wr.heap.size w2.heap.size)
                hsz4 h1 h2 hb.size h3 h4 h5 (Row.ownRow hr) (fun b o f => f) rfl (by rw [hkl]; exact ho) hgr (by
                  rcases hat with e | e
                  · exact .inl e.symm
                  · exact .inr (congrArg some e))
              rw [hu2] at hp
              exact hp
            rw [hkl] at h1
            have HRD : Hid ((w2.alloc (.cells #[.slice a2 n2 c2] 56 (0, 0))).ownsRow (g + 1) 56 1 (.slice av k cv) k us) := Lib.hid (World.ownsRow.alloc h1 _)
            have HND : Hid (∀ j u, ([Value.slice a2 n2 c2] : List Value)[j]? = some u → (w2.alloc (.cells #[.slice a2 n2 c2] 56 (0, 0))).cell? ((⟨w2.heap.size, 0, none⟩ : Addr).add j) = some u) := Lib.hid (World.news_of_block (heap_alloc_new w2 (.cells #[.slice a2 n2 c2] 56 (0, 0))))
            have HBS : Hid (g + 1 ≤ (w2.alloc (.cells #[.slice a2 n2 c2] 56 (0, 0))).heap.size) := Lib.hid (by rw [size_one']; omega)
            have HF2 := Lib.hid hfo
            have hk2' : k ≤ 1048576 := by have h2 := HBU.out; omega
            clear a0 a1 a2_ b0 b1 b2 z0 z1 z2 y0 y1 y2 d0 d1 d2 f0 f1 f2 c0 c0' h1 h2 h3 h4 h5 hl2 hb hr HFO HLI HC
            obtain ⟨⟨d0, d1, d2⟩, f0, f1, f2⟩ := cellsG hfo.o
            clear hfo
            cases o
            all_goals
              go_wp2_with (at_builtin; refine wpList_append_lies _ rfl _ _ 27 rfl (g + 1) 56 i0 (.agg #[.slice none 0 0]) 1 24 Tryz.underlying27 hi hz0 hz1 hz2 rfl (by decide) _ _ _ rfl HRD.out ⟨w2.heap.size, 0, none⟩ 1 1 [.slice a2 n2 c2] rfl rfl HND.out (slices_one _ _ _) (by omega) (by unfold maxLen; omega) (by omega) HBS.out _ rfl ?_; intro g' cap w4 hown4 hgrow4 hat4 _; obtain ⟨hli4, hb4⟩ := hP.out w4 g' cap hown4 hgrow4 hat4; have hfo4 := HF2.out.far hb4; clear d0 d1 d2 f0 f1 f2 hown4 hgrow4 hat4; obtain ⟨⟨d0, d1, d2⟩, f0, f1, f2⟩ := cellsG hfo4.o; have HLI4 := Lib.hid hli4; have HFO4 := Lib.hid hfo4; clear hli4 hfo4 hb4)
              go_roundw
              case rel => first | exact ⟨k + 1, .slice (some ⟨g', 0, none⟩) (k + 1) cap, fl, by omega, by go_num, Lib.hid (by show _ = (S || (anyK fb k || fb k)); rw [HFL.out, ← Bool.or_assoc, ← ho.out] <;> rfl), by simpa using (HFO4.out.store 0 (.slice (some ⟨g', 0, none⟩) (k + 1) cap)).store 2 (.bool fl), by simpa using (HLI4.out.stored g 0 (.slice (some ⟨g', 0, none⟩) (k + 1) cap) (by omega)).stored g 2 (.bool fl) (by omega)⟩ | exact ⟨k + 1, .slice (some ⟨g', 0, none⟩) (k + 1) cap, true, by omega, by go_num, Lib.hid (by show _ = (S || (anyK fb k || fb k)); rw [HFL.out, ← Bool.or_assoc, ← ho.out] <;> rfl), by simpa using (HFO4.out.store 0 (.slice (some ⟨g', 0, none⟩) (k + 1) cap)).store 2 (.bool true), by simpa using (HLI4.out.stored g 0 (.slice (some ⟨g', 0, none⟩) (k + 1) cap) (by omega)).stored g 2 (.bool true) (by omega)⟩
              case measure => simp [intOf]; omega
        · obtain rfl : k = N := by omega
          go_wp2_with fail
          have hE := sums_end HFO.out HLI.out LL o
          refine bodyPost_ret (results_cell_row rfl _ _ (w.heap.size + 1 + 1) 30 #[.slice av k cv, .int .i64 LL, .bool o] (0, 0) _ rfl hE.1 Tryz.underlying30 rfl (by kernel_rfl)) rfl ?_
          have hO : (s1 || s2 || anyK fb k || LB) = o := by rw [ho.out, ← HSS.out]; cases s1 <;> cases s2 <;> cases LB <;> cases anyK fb k <;> rfl
          exact ⟨_, rfl, by rw [hO]; exact hE.2.1, hE.2.2⟩
end Go.Proofs.YtpnifgpmleaohaaGreatDoor

end
