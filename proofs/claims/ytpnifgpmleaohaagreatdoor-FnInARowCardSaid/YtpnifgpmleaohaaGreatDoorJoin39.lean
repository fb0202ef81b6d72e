import Derived.Test.YtpnifgpmleaohaaGreatDoorJoin18
import Derived.Test.YtpnifgpmleaohaaGreatDoorJoin38
/-! YtpnifgpmleaohaaGreatDoorZModJ -/
section

namespace Go.Proofs.YtpnifgpmleaohaaGreatDoor
open Go.RowKit Go.Sort
set_option linter.unusedVariables false

theorem batchOk_inner {m : List dOp} {b : List dPair} (h1 : 1 ≤ b.length) (h5 : b.length ≤ 5) (h : ∀ (j : Nat) (x : dPair), b[j]? = some x → pairOkB (inOfN m) (outOfN m) x = true) : batchOkB m b = true :=
  batchOk_yes (pair_model (h 0 _ (List.getElem?_eq_getElem (by omega)))) (inB_yes (by omega) (by omega)) h
set_option maxRecDepth 100000 in
set_option maxHeartbeats 3200000 in
theorem implBatchOk_d (w : World) (es : List Value) (m : dModel) (h : shModel.reads (Under w.heap.size) w es m) (hb : shModel.bulk m ≤ 1048576) (a' : Option Addr) (n' c' : Nat) (ps : List dPair) (h' : ListAt shPair (Under w.heap.size) w a' n' ps) (g1 : n' ≤ c') (g2 : c' ≤ 9223372036854775807) (hb' : (Shape.list shPair).bulk ps ≤ 1048576) :
    Calls Tryz.prog 24 #[.agg es.toArray, .slice a' n' c'] w fun e w' => e = .returned (.bool (batchOkB m ps)) ∧ Below w.heap.size w w' := by
  obtain ⟨a, n, c, rfl, h1, h2, h3⟩ := shModel_reads.1 h
  have hal : Below w.heap.size w (w.alloc (.cells #[.slice a n c] 50 (0, 0))) := (Below.refl _ _).alloc (Nat.le_refl _) _
  have HM := Lib.hid (implModelOf_c _ a n c m ((h3.below hal (Nat.le_refl _)).le hal.size) h1 h2 hb)
  have hle := goodN_le m
  have h8 := hle.1
  have hbk := bulk_list shPair h'
  rw [hbk] at hb'
  have HL := Lib.hid h'
  have HB := Lib.hid hb'
  have hlen := h'.1
  have HA := Lib.hid hal
  have HI := Lib.hid (inG_good m)
  have HO := Lib.hid (outG_good m)
  obtain ⟨d, hd⟩ : ∃ d, batchOkB m ps = d := ⟨_, rfl⟩
  rw [hd]
  have HD := Lib.hid hd
  clear h h3 hb hal hle h' hb' hbk hd
  by_cases n0 : n' = 0
  · have q1 : ((n' : Int) == 0) = true := by simp [n0]
    have hdf : d = false := by
      rw [← HD.out]
      exact batchOk_l (inB_no (by omega))
    subst hdf
    subst n0
    go_enter Tryz.func24, Tryz.ntmps24
    go_wp2_with fail
    go_ret
    exact ⟨rfl, HA.out⟩
  · have q1 : ((n' : Int) == 0) = false := by simp [n0]
    by_cases n5 : 5 < n'
    · have q2 : decide ((n' : Int) > 5) = true := decide_eq_true (by omega)
      have hdf : d = false := by
        rw [← HD.out]
        exact batchOk_l (inB_no (by omega))
      subst hdf
      go_enter Tryz.func24, Tryz.ntmps24
      go_wp2_with fail
      go_ret
      exact ⟨rfl, HA.out⟩
    · have q2 : decide ((n' : Int) > 5) = false := decide_eq_false (by omega)
      go_enter Tryz.func24, Tryz.ntmps24
      go_wp2_with fail
      refine HM.out.mono ?_
      rintro e w1 ⟨ag, ng, cg, rfl, hl, e1, e2, hb⟩
      have hng := hl.1
      have hb1 := (Below.refl w1.heap.size w1).alloc (Nat.le_refl _) (.cells #[.slice ag ng cg] 132 (0, 0))
      have hbx := heap_alloc_new w1 (.cells #[.slice ag ng cg] 132 (0, 0))
      have hsz1 : w1.heap.size < (w1.alloc (.cells #[.slice ag ng cg] 132 (0, 0))).heap.size := by simp
      have HW1 := Lib.hid (HA.out.trans (hb.mono HA.out.size))
      have HG := Lib.hid ((hl.below hb (Nat.le_refl _)).le hb.size)
      have HB1 := Lib.hid hb1
      have HBX := Lib.hid hbx
      clear hl hb hb1 hbx
      go_wp2_with fail
      generalize hwb : w1.alloc (.cells #[.slice ag ng cg] 132 (0, 0)) = wb at HB1 HBX hsz1 ⊢
      have HWB := Lib.hid (HW1.out.trans (HB1.out.mono HW1.out.size))
      have HGG := Lib.hid (fun (w2 : World) (hb2 : Below wb.heap.size wb w2) => (HG.out.below (HB1.out.trans (hb2.mono HB1.out.size)) (Nat.le_refl _)).le (Nat.le_trans HB1.out.size hb2.size))
      clear hwb
      go_loopw [20] (fun i wr => ∃ k : Nat, k ≤ n' ∧ i = .int .i64 k ∧ Hid (∀ j x, j < k → ps[j]? = some x → pairOkB (inOfN m) (outOfN m) x = true) ∧ Below wb.heap.size wb wr) (fun i _ => n' - (intOf i).toNat)
      case atStart => exact ⟨0, Nat.zero_le _, rfl, Lib.hid fun j x hj => absurd hj (Nat.not_lt_zero _), Below.refl _ _⟩
      case round =>
        obtain ⟨k, hk, rfl, hall, hbw⟩ := hrel
        have hsz := hbw.size
        have hww : Below w.heap.size w wr := HWB.out.trans (hbw.mono HWB.out.size)
        by_cases hlt : k < n'
        · obtain ⟨x, hx⟩ : ∃ x, ps[k]? = some x := ⟨_, List.getElem?_eq_getElem (by rw [HL.out.1]; exact hlt)⟩
          obtain ⟨b, o, es, rfl, hbB, hr, hs⟩ := HL.out.2 k x hx
          have hrr := rangeAt_kept hr (show b < w.heap.size from hbB) (Kept.of_below (I := Under w.heap.size) hww fun b hb => hb)
          have hsw := shPair.below hs hww (Nat.le_refl _)
          have hbx' : shPair.bulk x ≤ 1048576 := by have h1 := bulk_mem shPair.bulk ps k x hx; have h2 := HB.out; omega
          rw [shPair_bulk, bulk_ints, bulk_ints] at hbx'
          obtain ⟨ax, nx, cx, at', nt, ct, rfl, ⟨-, -, mx⟩, ⟨-, -, mt⟩⟩ := shPair_reads.1 hsw
          rw [shPair_size] at hrr
          have c0 := hrr 0 _ rfl
          have c1 := hrr 1 _ rfl
          simp only [Nat.add_zero] at c0
          have hal := (Below.refl wr.heap.size wr).alloc (Nat.le_refl _) (.cells #[.slice ax nx cx, .slice at' nt ct] 66 (0, 0))
          have hbw2 := hbw.trans (hal.mono hsz)
          have z0 : (wr.alloc (.cells #[.slice ax nx cx, .slice at' nt ct] 66 (0, 0))).cell? ⟨w1.heap.size, 0, none⟩ = some (.slice ag ng cg) := by
            rw [cell_of_row _ _ _ _ _ _ ((hbw2.block _ hsz1).trans HBX.out)]
            rfl
          have HC := Lib.hid (implFits_c (wr.alloc (.cells #[.slice ax nx cx, .slice at' nt ct] 66 (0, 0))) ag ng cg (goodN m) (HGG.out _ hbw2) (by omega) ax at' nx cx nt ct x
            (((mx.below (hal.mono hww.size) (Nat.le_refl _)).ints (by have := mx.1; omega)).le (Nat.le_trans hww.size hal.size)) (((mt.below (hal.mono hww.size) (Nat.le_refl _)).ints (by have := mt.1; omega)).le (Nat.le_trans hww.size hal.size)))
          rw [HI.out, HO.out] at HC
          obtain ⟨p, hp⟩ : ∃ p, pairOkB (inOfN m) (outOfN m) x = p := ⟨_, rfl⟩
          rw [hp] at HC
          have HX := Lib.hid hx
          have HP := Lib.hid hp
          have HBW := Lib.hid hbw2
          clear hr hrr hs hsw mx mt hx hp hbw hbx' hal hww hbw2
          cases p
          · have hdf : d = false := by rw [← HD.out]; exact batchOk_no HX.out HP.out
            subst hdf
            go_wp2_with fail
            refine HC.out.mono ?_
            rintro e w3 ⟨rfl, hb3⟩
            have HW3 := Lib.hid (HBW.out.trans (hb3.mono HBW.out.size))
            clear hb3
            go_wp2_with fail
            go_ret
            exact ⟨rfl, HWB.out.trans (HW3.out.mono HWB.out.size)⟩
          · go_wp2_with fail
            refine HC.out.mono ?_
            rintro e w3 ⟨rfl, hb3⟩
            have HW3 := Lib.hid (HBW.out.trans (hb3.mono HBW.out.size))
            clear hb3
            go_wp2_with fail
            go_round
            case rel =>
              refine ⟨k + 1, by omega, by go_num, Lib.hid fun i y hi hy => ?_, HW3.out⟩
              by_cases e : i = k
              · subst e
                have e2 := HX.out.symm.trans hy
                cases e2
                exact HP.out
              · exact hall.out i y (by omega) hy
            case measure => simp [intOf]; omega
        · obtain rfl : k = n' := by omega
          have hdt : d = true := by
            rw [← HD.out]
            exact batchOk_inner (by omega) (by omega) fun j x hx => hall.out j x (by rw [← HL.out.1]; exact (List.getElem?_eq_some_iff.1 hx).1) hx
          subst hdt
          have HWW := Lib.hid hww
          clear hbw hww
          go_wp2_with fail
          go_ret
          exact ⟨rfl, HWW.out⟩
end Go.Proofs.YtpnifgpmleaohaaGreatDoor

end

/-! YtpnifgpmleaohaaGreatDoorZSeqF -/
section

namespace Go.Proofs.YtpnifgpmleaohaaGreatDoor
open Go.RowKit Go.Sort
set_option linter.unusedVariables false

set_option maxRecDepth 100000 in
set_option maxHeartbeats 6400000 in
theorem implSequential_o (w : World) (es : List Value) (m : dModel) (h : shModel.reads (Under w.heap.size) w es m) (hb : shModel.bulk m ≤ 1048576) (a' : Option Addr) (n' c' : Nat) (ps : List dPair) (h' : ListAt shPair (Under w.heap.size) w a' n' ps) (g1 : n' ≤ c') (g2 : c' ≤ 9223372036854775807) (hb' : (Shape.list shPair).bulk ps ≤ 1048576) (hg : LaidE w) :
    Calls Tryz.prog 34 #[.agg es.toArray, .slice a' n' c'] w fun e w' => ∃ es', e = .returned (.agg es'.toArray) ∧ ownGrads.owns (FromB w.heap.size w'.heap.size) w' es' (seqG m ps) ∧ Below w.heap.size w w' := by
  obtain ⟨a, n, c, rfl, hc1, hc2, hl⟩ := shModel_reads.1 h
  have hlp := h'.1
  have hal2 : Below w.heap.size w ((w.alloc (.cells #[.slice a n c] 50 (0, 0))).alloc (.cells #[.slice none 0 0, .int .i64 0, .bool false] 30 (0, 0))) := ((Below.refl _ _).alloc (Nat.le_refl _) _).alloc (by simp) _
  have hA : ((w.alloc (.cells #[.slice a n c] 50 (0, 0))).alloc (.cells #[.slice none 0 0, .int .i64 0, .bool false] 30 (0, 0))).heap[w.heap.size]? = some (.cells #[.slice a n c] 50 (0, 0)) := by
    rw [Below.heap_alloc _ _ _ (by simp)]
    exact heap_alloc_new w _
  have hZ : ((w.alloc (.cells #[.slice a n c] 50 (0, 0))).alloc (.cells #[.slice none 0 0, .int .i64 0, .bool false] 30 (0, 0))).heap[w.heap.size + 1]? = some (.cells #[.slice none 0 0, .int .i64 0, .bool false] 30 (0, 0)) := by
    have := heap_alloc_new (w.alloc (.cells #[.slice a n c] 50 (0, 0))) (.cells #[.slice none 0 0, .int .i64 0, .bool false] 30 (0, 0))
    simpa using this
  have hs2 : w.heap.size + 2 = ((w.alloc (.cells #[.slice a n c] 50 (0, 0))).alloc (.cells #[.slice none 0 0, .int .i64 0, .bool false] 30 (0, 0))).heap.size := by simp
  have HL := Lib.hid hl
  have HP := Lib.hid h'
  have HBM := Lib.hid hb
  have HBP := Lib.hid hb'
  have HA := Lib.hid hA
  have HZ := Lib.hid hZ
  have H2 := Lib.hid hal2
  obtain ⟨k, hk⟩ : ∃ k, batchOkB m ps = k := ⟨_, rfl⟩
  have HK := Lib.hid hk
  have hmr : ∀ (w1 : World), Below w.heap.size w w1 → shModel.reads (Under w1.heap.size) w1 [.slice a n c] m := fun w1 hb1 => shModel_reads.2 ⟨a, n, c, rfl, hc1, hc2, (hl.below hb1 (Nat.le_refl _)).le hb1.size⟩
  have HMR := Lib.hid hmr
  have hlt := hg.lt
  have HG0 := Lib.hid hg
  clear h hl h' hb hb' hA hZ hal2 hk hmr hg
  go_enter Tryz.func34, Tryz.ntmps34
  go_wp2_with fail
  generalize hw2 : (w.alloc (.cells #[.slice a n c] 50 (0, 0))).alloc (.cells #[.slice none 0 0, .int .i64 0, .bool false] 30 (0, 0)) = w2 at HA HZ H2 hs2 ⊢
  clear hw2
  have hC := implBatchOk_d w2 [.slice a n c] m (HMR.out w2 H2.out) HBM.out a' n' c' ps ((HP.out.below H2.out (Nat.le_refl _)).le H2.out.size) g1 g2 HBP.out
  rw [HK.out] at hC
  refine hC.mono ?_
  rintro e w3 ⟨rfl, hb3⟩
  have hs3 := hb3.size
  have h3 := Lib.hid (H2.out.trans (hb3.mono H2.out.size))
  have HA3 := Lib.hid ((hb3.block w.heap.size (by omega)).trans HA.out)
  have HZ3 := Lib.hid ((hb3.block (w.heap.size + 1) (by omega)).trans HZ.out)
  clear hC hb3 HA HZ
  have z0 := box1 HA3.out
  cases k
  · obtain ⟨⟨d0, d1, d2⟩, f0, f1, f2⟩ := cellsG HZ3.out
    go_wp2_with fail
    refine bodyPost_ret (results_cell_row rfl _ _ (w.heap.size + 1) 30 #[.slice none 0 0, .int .i64 0, .bool false] (0, 0) _ rfl (store3 HZ3.out _ _ _) Tryz.underlying30 rfl (by kernel_rfl)) rfl ?_
    have hmg : seqG m ps = dNone := by unfold seqG; rw [HK.out]; rfl
    refine ⟨[.slice none 0 0, .int .i64 0, .bool false], rfl, ?_, ((h3.out.setCell (p := ⟨w.heap.size + 1, 0, none⟩) (by show _ ≤ w.heap.size + 1; omega) _).setCell (p := ⟨w.heap.size + 1, 1, none⟩) (by show _ ≤ w.heap.size + 1; omega) _).setCell (p := ⟨w.heap.size + 1, 2, none⟩) (by show _ ≤ w.heap.size + 1; omega) _⟩
    rw [hmg]
    exact ownGrads_owns.2 ⟨none, 0, 0, rfl, Nat.le_refl _, by omega, rfl, .inl rfl⟩
  · have HC := Lib.hid (implZeroGrads_o w3 [.slice a n c] m (HMR.out w3 h3.out) HBM.out)
    go_wp2_with fail
    refine HC.out.mono ?_
    rintro e w4 ⟨e4, rfl, hr4, hb4⟩
    obtain ⟨a4, n4, c4, rfl, -⟩ := ownGrads_owns.1 hr4
    have hs4 := hb4.size
    have h4 := h3.out.trans (hb4.mono h3.out.size)
    have hA4 := (hb4.block w.heap.size (by omega)).trans HA3.out
    have hZ4 := (hb4.block (w.heap.size + 1) (by omega)).trans HZ3.out
    have hp5 : Below w4.heap.size w4 (w4.alloc (.cells #[.slice a4 n4 c4, .int .i64 (zeroG m).2.1, .bool (zeroG m).2.2] 30 (0, 0))) := (Below.refl _ _).alloc (Nat.le_refl _) _
    have hs5 : (w4.alloc (.cells #[.slice a4 n4 c4, .int .i64 (zeroG m).2.1, .bool (zeroG m).2.2] 30 (0, 0))).heap.size = w4.heap.size + 1 := by simp
    have hG5 := heap_alloc_new w4 (.cells #[.slice a4 n4 c4, .int .i64 (zeroG m).2.1, .bool (zeroG m).2.2] 30 (0, 0))
    have hb5 := hb4.trans (hp5.mono hs4)
    have h5 := h3.out.trans (hb5.mono h3.out.size)
    have HA5 := Lib.hid ((hp5.block w.heap.size (by omega)).trans hA4)
    have HZ5 := Lib.hid ((hp5.block (w.heap.size + 1) (by omega)).trans hZ4)
    have H5 := Lib.hid h5
    have HG5 := Lib.hid hG5
    have HR5 := Lib.hid (ownGrads.owns_sub (G := fun b _ => w.heap.size + 2 ≤ b ∧ b < w4.heap.size + 1 ∧ b ≠ w4.heap.size) (ownGrads.owns_keep hr4 (.of_below hp5 fun b o f => f.2)) fun b o hb => ⟨by have := hb.1; omega, by have := hb.2; omega, by have := hb.2; omega⟩)
    have hq5 : seqG m ps = seqK m ps n' := by unfold seqG; rw [HK.out, if_pos rfl, hlp]
    have HQ5 := Lib.hid hq5
    clear hr4 hb4 h4 hA4 hZ4 hp5 hG5 hb5 h5 hq5 z0 HC
    go_wp2_with fail
    generalize hw5 : w4.alloc (.cells #[.slice a4 n4 c4, .int .i64 (zeroG m).2.1, .bool (zeroG m).2.2] 30 (0, 0)) = w5 at HA5 HZ5 H5 HG5 HR5 hs5 ⊢
    clear hw5
    go_loopw [17] (fun i wr => ∃ (k : Nat) (ag : Option Addr) (ng cg : Nat), k ≤ n' ∧ i = .int .i64 k ∧ wr.heap[w4.heap.size]? = some (.cells #[.slice ag ng cg, .int .i64 (seqK m ps k).2.1, .bool (seqK m ps k).2.2] 30 (0, 0)) ∧ ownGrads.owns (fun b _ => w.heap.size + 2 ≤ b ∧ b < wr.heap.size ∧ b ≠ w4.heap.size) wr [.slice ag ng cg, .int .i64 (seqK m ps k).2.1, .bool (seqK m ps k).2.2] (seqK m ps k) ∧
      wr.heap[w.heap.size]? = some (.cells #[.slice a n c] 50 (0, 0)) ∧ wr.heap[w.heap.size + 1]? = some (.cells #[.slice none 0 0, .int .i64 0, .bool false] 30 (0, 0)) ∧ w4.heap.size + 1 ≤ wr.heap.size ∧ Below w.heap.size w wr) (fun i _ => n' - (intOf i).toNat)
    case atStart => exact ⟨0, a4, n4, c4, Nat.zero_le _, rfl, HG5.out, by rw [hs5]; exact HR5.out, HA5.out, HZ5.out, Nat.le_of_eq hs5.symm, H5.out⟩
    case round =>
      obtain ⟨k, ag, ng, cg, hk, rfl, hgb, hgr, hab, hzb, hsr, hbw⟩ := hrel
      obtain ⟨G, hG⟩ : ∃ G, seqK m ps k = G := ⟨_, rfl⟩
      have hGb : shGrads.bulk G ≤ 1048576 := by rw [← hG]; exact seqK_bulk m ps k
      rw [hG] at hgb hgr
      have z0 := box1 hab
      obtain ⟨⟨d0, d1, d2⟩, f0, f1, f2⟩ := cellsG hgb
      have HGB := Lib.hid hgb
      have HGR := Lib.hid hgr
      have HAB := Lib.hid hab
      have HZB := Lib.hid hzb
      have HBW := Lib.hid hbw
      have HG := Lib.hid hG
      have hsz := hbw.size
      by_cases hltk : k < n'
      · obtain ⟨x, hx⟩ : ∃ x, ps[k]? = some x := ⟨_, List.getElem?_eq_getElem (by rw [hlp]; exact hltk)⟩
        obtain ⟨b1, o1, es, rfl, hbB1, hr, hs⟩ := HP.out.2 k x hx
        have hrr := rangeAt_kept hr (show b1 < w.heap.size from hbB1) (Kept.of_below (I := Under w.heap.size) hbw fun b hb => hb)
        obtain ⟨ax, nx, cx, at', nt, ct, rfl, -⟩ := shPair_reads.1 hs
        have hq := (Below.refl wr.heap.size wr).alloc (Nat.le_refl _) (.cells #[.slice ax nx cx, .slice at' nt ct] 66 (0, 0))
        have hqn := heap_alloc_new wr (.cells #[.slice ax nx cx, .slice at' nt ct] 66 (0, 0))
        have hqs : (wr.alloc (.cells #[.slice ax nx cx, .slice at' nt ct] 66 (0, 0))).heap.size = wr.heap.size + 1 := by simp
        rw [shPair_size] at hrr
        have e0 := hrr 0 _ rfl
        have e1 := hrr 1 _ rfl
        simp only [Nat.add_zero] at e0
        clear d0 d1 d2 f0 f1 f2 z0
        go_upto_region 7 with fail
        generalize wr.alloc (.cells #[.slice ax nx cx, .slice at' nt ct] 66 (0, 0)) = wq at hq hqn hqs ⊢
        have hgbq := (hq.block w4.heap.size (by omega)).trans HGB.out
        have habq := (hq.block w.heap.size (by omega)).trans HAB.out
        have hzbq := (hq.block (w.heap.size + 1) (by omega)).trans HZB.out
        have hbwq := HBW.out.trans (hq.mono hsz)
        have hgrq := ownGrads.owns_keep HGR.out (.of_below hq fun b o f => f.2.1)
        have hgrd := ownGrads.owns_keep (w' := wq.drew) hgrq fun b o f => ⟨rfl, rfl⟩
        have z0 := box1 habq
        obtain ⟨⟨d0, d1, d2⟩, f0, f1, f2⟩ := cellsG hgbq
        have p0 : wq.cell? ⟨wr.heap.size, 0, none⟩ = some (.slice ax nx cx) := by rw [cell_of_row _ _ _ _ _ _ hqn]; rfl
        have p1 : wq.cell? ⟨wr.heap.size, 1, none⟩ = some (.slice at' nt ct) := by rw [cell_of_row _ _ _ _ _ _ hqn]; rfl
        have hdr : Below w.heap.size w wq.drew := hbwq.trans ⟨rfl, rfl, rfl, Nat.le_refl _, fun _ _ => rfl⟩
        have hsw := shPair.le (shPair.below hs hdr (Nat.le_refl _)) hdr.size
        have hbx' : shPair.bulk x ≤ 1048576 := by have h1 := bulk_mem shPair.bulk ps k x hx; have h2 := HBP.out; rw [bulk_list _ HP.out] at h2; omega
        have HC1 := Lib.hid (implMicroGrads_o wq.drew [.slice a n c] m (HMR.out wq.drew hdr) HBM.out _ x hsw hbx' (HG0.out.below hlt hdr))
        obtain ⟨M, hM⟩ : ∃ M, microG m x = M := ⟨_, rfl⟩
        have hMb : shGrads.bulk M ≤ 1048576 := by rw [← hM]; exact micro_small m x
        rw [hM] at HC1
        have hnext : seqK m ps (k + 1) = addG G M := by
          show addG (seqK m ps k) (microG m (pairAt ps k)) = _
          rw [HG.out, pairAt_get hx, hM]
        have HNX := Lib.hid hnext
        have hHG : w.heap.size ≤ wq.drew.heap.size := hdr.size
        have HC2 := Lib.hid fun (wt : World) (eg : List Value) (hb : Below wq.drew.heap.size wq.drew wt) (hr : ownGrads.owns (FromB wq.drew.heap.size wt.heap.size) wt eg M) =>
          implAddGrads_o wt [.slice ag ng cg, .int .i64 G.2.1, .bool G.2.2] G (ownGrads.owns_reads (I := Under wt.heap.size) (ownGrads.owns_keep hgrd (.of_below hb fun b o f => Nat.lt_of_lt_of_le f.2.1 (by show wr.heap.size ≤ wq.heap.size; omega))) fun b o f => Nat.lt_of_lt_of_le (Nat.lt_of_lt_of_le f.2.1 (by show wr.heap.size ≤ wq.heap.size; omega)) hb.size) hGb eg M (ownGrads.owns_reads (I := Under wt.heap.size) hr fun b o f => f.2) hMb (HG0.out.below hlt (hdr.trans (hb.mono hHG)))
        have HGBQ := Lib.hid hgbq
        have HABQ := Lib.hid habq
        have HZBQ := Lib.hid hzbq
        have HBWQ := Lib.hid hbwq
        have hsrq : w4.heap.size + 1 ≤ wq.heap.size := by omega
        have hszq : w.heap.size ≤ wq.heap.size := by omega
        clear hr hrr hs hsw hx hbx' hdr hnext hM hG hgb hgr hab hzb hbw hbB1 hgbq habq hzbq hbwq hgrq hgrd hq hqn e0 e1 hHG
        go_region_law (first
          | (go_simp; go_at_call 35; (with_reducible refine HC1.out.mono ?_); rintro e wt ⟨eg, rfl, hr, hb⟩; have hq := HC2.out wt eg hb hr; obtain ⟨aq, nq, cq, rfl, -⟩ := ownGrads_owns.1 hr; obtain ⟨⟨t0, t1, t2⟩, -⟩ := cellsG ((hb.block w4.heap.size (by show w4.heap.size < wq.heap.size; omega)).trans HGBQ.out); have HQ := Lib.hid hq; have HBT := Lib.hid hb; clear hb hr hq)
          | (go_simp; go_at_call 32; (with_reducible refine HQ.out.mono ?_); rintro e wu ⟨eh, rfl, hr, hb⟩; obtain ⟨ah, nh, ch, rfl, -⟩ := ownGrads_owns.1 hr; have hbu : Below wq.heap.size wq wu := ((Below.refl wq.heap.size wq).drew).trans (HBT.out.trans (hb.mono HBT.out.size)); have hgu := (hbu.block w4.heap.size (by omega)).trans HGBQ.out; obtain ⟨⟨q0, q1, q2⟩, r0, r1, r2⟩ := cellsG hgu; have HGU := Lib.hid hgu; have HBU := Lib.hid hbu; have HRU := Lib.hid hr; have HTS := Lib.hid HBT.out.size; clear hb hr hbu hgu))
        all_goals
          go_wp2_with fail
          go_roundw
          case rel =>
            have hts : wq.heap.size ≤ wt.heap.size := HTS.out
            have hus := HBU.out.size
            refine ⟨k + 1, ah, nh, ch, by omega, by go_num, ?_, ?_, ?_, ?_, ?_, ?_⟩
            · rw [HNX.out]
              exact store3 HGU.out _ _ _
            · rw [HNX.out, set3_size]
              refine ownGrads.owns_sub (ownGrads.owns_keep HRU.out fun b o f => ?_) fun b o f => ⟨by have := f.1; omega, f.2, by have := f.1; omega⟩
              have hne : b ≠ w4.heap.size := by have := f.1; omega
              exact ⟨World.cell?_of_block (a := ⟨b, o, none⟩) (set3_other _ _ _ hne), World.frozen?_of_block (a := ⟨b, o, none⟩) (set3_other _ _ _ hne)⟩
            · exact (set3_other _ _ _ (by omega)).trans ((HBU.out.block w.heap.size (by omega)).trans HABQ.out)
            · exact (set3_other _ _ _ (by omega)).trans ((HBU.out.block (w.heap.size + 1) (by omega)).trans HZBQ.out)
            · rw [set3_size]
              omega
            · exact set3_below (HBWQ.out.trans (HBU.out.mono hszq)) (by omega) _ _ _
          case measure => simp [intOf]; omega
      · obtain rfl : k = n' := by omega
        obtain ⟨⟨y0, y1, y2⟩, l0, l1, l2⟩ := cellsG hzb
        clear hgb hgr hab hzb hbw
        go_wp2_with fail
        refine bodyPost_ret (results_cell_row rfl _ _ (w.heap.size + 1) 30 #[.slice ag ng cg, .int .i64 G.2.1, .bool G.2.2] (0, 0) _ rfl (store3 HZB.out _ _ _) Tryz.underlying30 rfl (by kernel_rfl)) rfl ?_
        refine ⟨[.slice ag ng cg, .int .i64 G.2.1, .bool G.2.2], rfl, ?_, set3_below HBW.out (by omega) _ _ _⟩
        rw [HQ5.out, HG.out, set3_size]
        refine ownGrads.owns_sub (ownGrads.owns_keep HGR.out fun b o f => ?_) fun b o f => ⟨by have := f.1; omega, f.2.1⟩
        have hne : b ≠ w.heap.size + 1 := by have := f.1; omega
        exact ⟨World.cell?_of_block (a := ⟨b, o, none⟩) (set3_other _ _ _ hne), World.frozen?_of_block (a := ⟨b, o, none⟩) (set3_other _ _ _ hne)⟩
end Go.Proofs.YtpnifgpmleaohaaGreatDoor

end
