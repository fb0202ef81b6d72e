import Derived.Test.YtpnifgpmleaohaaGreatDoorJoin19
import Derived.Test.YtpnifgpmleaohaaGreatDoorJoin34
import Derived.Test.YtpnifgpmleaohaaGreatDoorJoin35
import Derived.Deep.DeepCutAuto
import Derived.Deep.RegionLaw
import Derived.Test.YtpnifgpmleaohaaGreatDoorJoin30
import Derived.Test.YtpnifgpmleaohaaGreatDoorJoin31
import Derived.Test.YtpnifgpmleaohaaGreatDoorJoin8
/-! YtpnifgpmleaohaaGreatDoorModJ -/
section

namespace Go.Proofs.YtpnifgpmleaohaaGreatDoor
open Go.RowKit Go.Sort
set_option linter.unusedVariables false

theorem batchOk_inner {m : List dOp} {b : List dPair} (h1 : 1 ≤ b.length) (h5 : b.length ≤ 5) (h : ∀ (j : Nat) (x : dPair), b[j]? = some x → pairOkB (inOfN m) (outOfN m) x = true) : batchOkB m b = true :=
  batchOk_yes (pair_model (h 0 _ (List.getElem?_eq_getElem (by omega)))) (inB_yes (by omega) (by omega)) h
set_option maxRecDepth 100000 in
set_option maxHeartbeats 3200000 in
theorem implBatchOk_d (w : World) (es : List Value) (m : dModel) (h : shModel.reads (Under w.heap.size) w es m) (hb : shModel.bulk m ≤ 1048576) (a' : Option Addr) (n' c' : Nat) (ps : List dPair) (h' : ListAt shPair (Under w.heap.size) w a' n' ps) (g1 : n' ≤ c') (g2 : c' ≤ 9223372036854775807) (hb' : (Shape.list shPair).bulk ps ≤ 1048576) :
    Calls Tryz.prog 24 #[.agg es.toArray, .slice a' n' c'] w fun e w' => e = .returned (.bool (batchOkB m ps)) ∧ Below w.heap.size w w' := by
  obtain ⟨a, n, c, rfl, h1, h2, h3⟩ := shModel_reads.1 h
  have hal : Below w.heap.size w (w.alloc (.cells #[.slice a n c] 50 (0, 0))) := (Below.refl _ _).alloc (Nat.le_refl _) _
  have HM := Lib.hid (implModelOf_c _ a n c m ((h3.below hal (Nat.le_refl _)).le hal.size) h1 h2 hb)
  have hle := goodN_le m
  have h8 := hle.1
  have hbk := bulk_list shPair h'
  rw [hbk] at hb'
  have HL := Lib.hid h'
  have HB := Lib.hid hb'
  have hlen := h'.1
  have HA := Lib.hid hal
  have HI := Lib.hid (inG_good m)
  have HO := Lib.hid (outG_good m)
  obtain ⟨d, hd⟩ : ∃ d, batchOkB m ps = d := ⟨_, rfl⟩
  rw [hd]
  have HD := Lib.hid hd
  clear h h3 hb hal hle h' hb' hbk hd
  by_cases n0 : n' = 0
  · have q1 : ((n' : Int) == 0) = true := by simp [n0]
    have hdf : d = false := by
      rw [← HD.out]
      exact batchOk_l (inB_no (by omega))
    subst hdf
    subst n0
    go_enter Tryz.func24, Tryz.ntmps24
    go_wp2_with fail
    go_ret
    exact ⟨rfl, HA.out⟩
  · have q1 : ((n' : Int) == 0) = false := by simp [n0]
    by_cases n5 : 5 < n'
    · have q2 : decide ((n' : Int) > 5) = true := decide_eq_true (by omega)
      have hdf : d = false := by
        rw [← HD.out]
        exact batchOk_l (inB_no (by omega))
      subst hdf
      go_enter Tryz.func24, Tryz.ntmps24
      go_wp2_with fail
      go_ret
      exact ⟨rfl, HA.out⟩
    · have q2 : decide ((n' : Int) > 5) = false := decide_eq_false (by omega)
      go_enter Tryz.func24, Tryz.ntmps24
      go_wp2_with fail
      refine HM.out.mono ?_
      rintro e w1 ⟨ag, ng, cg, rfl, hl, e1, e2, hb⟩
      have hng := hl.1
      have hb1 := (Below.refl w1.heap.size w1).alloc (Nat.le_refl _) (.cells #[.slice ag ng cg] 132 (0, 0))
      have hbx := heap_alloc_new w1 (.cells #[.slice ag ng cg] 132 (0, 0))
      have hsz1 : w1.heap.size < (w1.alloc (.cells #[.slice ag ng cg] 132 (0, 0))).heap.size := by simp
      have HW1 := Lib.hid (HA.out.trans (hb.mono HA.out.size))
      have HG := Lib.hid ((hl.below hb (Nat.le_refl _)).le hb.size)
      have HB1 := Lib.hid hb1
      have HBX := Lib.hid hbx
      clear hl hb hb1 hbx
      go_wp2_with fail
      generalize hwb : w1.alloc (.cells #[.slice ag ng cg] 132 (0, 0)) = wb at HB1 HBX hsz1 ⊢
      have HWB := Lib.hid (HW1.out.trans (HB1.out.mono HW1.out.size))
      have HGG := Lib.hid (fun (w2 : World) (hb2 : Below wb.heap.size wb w2) => (HG.out.below (HB1.out.trans (hb2.mono HB1.out.size)) (Nat.le_refl _)).le (Nat.le_trans HB1.out.size hb2.size))
      clear hwb
      go_loopw [20] (fun i wr => ∃ k : Nat, k ≤ n' ∧ i = .int .i64 k ∧ Hid (∀ j x, j < k → ps[j]? = some x → pairOkB (inOfN m) (outOfN m) x = true) ∧ Below wb.heap.size wb wr) (fun i _ => n' - (intOf i).toNat)
      case atStart => exact ⟨0, Nat.zero_le _, rfl, Lib.hid fun j x hj => absurd hj (Nat.not_lt_zero _), Below.refl _ _⟩
      case round =>
        obtain ⟨k, hk, rfl, hall, hbw⟩ := hrel
        have hsz := hbw.size
        have hww : Below w.heap.size w wr := HWB.out.trans (hbw.mono HWB.out.size)
        by_cases hlt : k < n'
        · obtain ⟨x, hx⟩ : ∃ x, ps[k]? = some x := ⟨_, List.getElem?_eq_getElem (by rw [HL.out.1]; exact hlt)⟩
          obtain ⟨b, o, es, rfl, hbB, hr, hs⟩ := HL.out.2 k x hx
          have hrr := rangeAt_kept hr (show b < w.heap.size from hbB) (Kept.of_below (I := Under w.heap.size) hww fun b hb => hb)
          have hsw := shPair.below hs hww (Nat.le_refl _)
          have hbx' : shPair.bulk x ≤ 1048576 := by have h1 := bulk_mem shPair.bulk ps k x hx; have h2 := HB.out; omega
          rw [shPair_bulk, bulk_ints, bulk_ints] at hbx'
          obtain ⟨ax, nx, cx, at', nt, ct, rfl, ⟨-, -, mx⟩, ⟨-, -, mt⟩⟩ := shPair_reads.1 hsw
          rw [shPair_size] at hrr
          have c0 := hrr 0 _ rfl
          have c1 := hrr 1 _ rfl
          simp only [Nat.add_zero] at c0
          have hal := (Below.refl wr.heap.size wr).alloc (Nat.le_refl _) (.cells #[.slice ax nx cx, .slice at' nt ct] 66 (0, 0))
          have hbw2 := hbw.trans (hal.mono hsz)
          have z0 : (wr.alloc (.cells #[.slice ax nx cx, .slice at' nt ct] 66 (0, 0))).cell? ⟨w1.heap.size, 0, none⟩ = some (.slice ag ng cg) := by
            rw [cell_of_row _ _ _ _ _ _ ((hbw2.block _ hsz1).trans HBX.out)]
            rfl
          have HC := Lib.hid (implFits_c (wr.alloc (.cells #[.slice ax nx cx, .slice at' nt ct] 66 (0, 0))) ag ng cg (goodN m) (HGG.out _ hbw2) (by omega) ax at' nx cx nt ct x
            (((mx.below (hal.mono hww.size) (Nat.le_refl _)).ints (by have := mx.1; omega)).le (Nat.le_trans hww.size hal.size)) (((mt.below (hal.mono hww.size) (Nat.le_refl _)).ints (by have := mt.1; omega)).le (Nat.le_trans hww.size hal.size)))
          rw [HI.out, HO.out] at HC
          obtain ⟨p, hp⟩ : ∃ p, pairOkB (inOfN m) (outOfN m) x = p := ⟨_, rfl⟩
          rw [hp] at HC
          have HX := Lib.hid hx
          have HP := Lib.hid hp
          have HBW := Lib.hid hbw2
          clear hr hrr hs hsw mx mt hx hp hbw hbx' hal hww hbw2
          cases p
          · have hdf : d = false := by rw [← HD.out]; exact batchOk_no HX.out HP.out
            subst hdf
            go_wp2_with fail
            refine HC.out.mono ?_
            rintro e w3 ⟨rfl, hb3⟩
            have HW3 := Lib.hid (HBW.out.trans (hb3.mono HBW.out.size))
            clear hb3
            go_wp2_with fail
            go_ret
            exact ⟨rfl, HWB.out.trans (HW3.out.mono HWB.out.size)⟩
          · go_wp2_with fail
            refine HC.out.mono ?_
            rintro e w3 ⟨rfl, hb3⟩
            have HW3 := Lib.hid (HBW.out.trans (hb3.mono HBW.out.size))
            clear hb3
            go_wp2_with fail
            go_round
            case rel =>
              refine ⟨k + 1, by omega, by go_num, Lib.hid fun i y hi hy => ?_, HW3.out⟩
              by_cases e : i = k
              · subst e
                have e2 := HX.out.symm.trans hy
                cases e2
                exact HP.out
              · exact hall.out i y (by omega) hy
            case measure => simp [intOf]; omega
        · obtain rfl : k = n' := by omega
          have hdt : d = true := by
            rw [← HD.out]
            exact batchOk_inner (by omega) (by omega) fun j x hx => hall.out j x (by rw [← HL.out.1]; exact (List.getElem?_eq_some_iff.1 hx).1) hx
          subst hdt
          have HWW := Lib.hid hww
          clear hbw hww
          go_wp2_with fail
          go_ret
          exact ⟨rfl, HWW.out⟩
end Go.Proofs.YtpnifgpmleaohaaGreatDoor

end

/-! YtpnifgpmleaohaaGreatDoorSeqF -/
section

namespace Go.Proofs.YtpnifgpmleaohaaGreatDoor
open Go.RowKit Go.Sort
set_option linter.unusedVariables false

set_option maxRecDepth 100000 in
set_option maxHeartbeats 6400000 in
theorem implSequential_o (w : World) (es : List Value) (m : dModel) (h : shModel.reads (Under w.heap.size) w es m) (hb : shModel.bulk m ≤ 1048576) (a' : Option Addr) (n' c' : Nat) (ps : List dPair) (h' : ListAt shPair (Under w.heap.size) w a' n' ps) (g1 : n' ≤ c') (g2 : c' ≤ 9223372036854775807) (hb' : (Shape.list shPair).bulk ps ≤ 1048576) (hg : LaidE w) :
    Calls Tryz.prog 34 #[.agg es.toArray, .slice a' n' c'] w fun e w' => ∃ es', e = .returned (.agg es'.toArray) ∧ ownGrads.owns (FromB w.heap.size w'.heap.size) w' es' (seqG m ps) ∧ Below w.heap.size w w' := by
  obtain ⟨a, n, c, rfl, hc1, hc2, hl⟩ := shModel_reads.1 h
  have hlp := h'.1
  have hal2 : Below w.heap.size w ((w.alloc (.cells #[.slice a n c] 50 (0, 0))).alloc (.cells #[.slice none 0 0, .int .i64 0, .bool false] 30 (0, 0))) := ((Below.refl _ _).alloc (Nat.le_refl _) _).alloc (by simp) _
  have hA : ((w.alloc (.cells #[.slice a n c] 50 (0, 0))).alloc (.cells #[.slice none 0 0, .int .i64 0, .bool false] 30 (0, 0))).heap[w.heap.size]? = some (.cells #[.slice a n c] 50 (0, 0)) := by
    rw [Below.heap_alloc _ _ _ (by simp)]
    exact heap_alloc_new w _
  have hZ : ((w.alloc (.cells #[.slice a n c] 50 (0, 0))).alloc (.cells #[.slice none 0 0, .int .i64 0, .bool false] 30 (0, 0))).heap[w.heap.size + 1]? = some (.cells #[.slice none 0 0, .int .i64 0, .bool false] 30 (0, 0)) := by
    have := heap_alloc_new (w.alloc (.cells #[.slice a n c] 50 (0, 0))) (.cells #[.slice none 0 0, .int .i64 0, .bool false] 30 (0, 0))
    simpa using this
  have hs2 : w.heap.size + 2 = ((w.alloc (.cells #[.slice a n c] 50 (0, 0))).alloc (.cells #[.slice none 0 0, .int .i64 0, .bool false] 30 (0, 0))).heap.size := by simp
  have HL := Lib.hid hl
  have HP := Lib.hid h'
  have HBM := Lib.hid hb
  have HBP := Lib.hid hb'
  have HA := Lib.hid hA
  have HZ := Lib.hid hZ
  have H2 := Lib.hid hal2
  obtain ⟨k, hk⟩ : ∃ k, batchOkB m ps = k := ⟨_, rfl⟩
  have HK := Lib.hid hk
  have hmr : ∀ (w1 : World), Below w.heap.size w w1 → shModel.reads (Under w1.heap.size) w1 [.slice a n c] m := fun w1 hb1 => shModel_reads.2 ⟨a, n, c, rfl, hc1, hc2, (hl.below hb1 (Nat.le_refl _)).le hb1.size⟩
  have HMR := Lib.hid hmr
  have hlt := hg.lt
  have HG0 := Lib.hid hg
  clear h hl h' hb hb' hA hZ hal2 hk hmr hg
  go_enter Tryz.func34, Tryz.ntmps34
  go_wp2_with fail
  generalize hw2 : (w.alloc (.cells #[.slice a n c] 50 (0, 0))).alloc (.cells #[.slice none 0 0, .int .i64 0, .bool false] 30 (0, 0)) = w2 at HA HZ H2 hs2 ⊢
  clear hw2
  have hC := implBatchOk_d w2 [.slice a n c] m (HMR.out w2 H2.out) HBM.out a' n' c' ps ((HP.out.below H2.out (Nat.le_refl _)).le H2.out.size) g1 g2 HBP.out
  rw [HK.out] at hC
  refine hC.mono ?_
  rintro e w3 ⟨rfl, hb3⟩
  have hs3 := hb3.size
  have h3 := Lib.hid (H2.out.trans (hb3.mono H2.out.size))
  have HA3 := Lib.hid ((hb3.block w.heap.size (by omega)).trans HA.out)
  have HZ3 := Lib.hid ((hb3.block (w.heap.size + 1) (by omega)).trans HZ.out)
  clear hC hb3 HA HZ
  have z0 := box1 HA3.out
  cases k
  · obtain ⟨⟨d0, d1, d2⟩, f0, f1, f2⟩ := cellsG HZ3.out
    go_wp2_with fail
    refine bodyPost_ret (results_cell_row rfl _ _ (w.heap.size + 1) 30 #[.slice none 0 0, .int .i64 0, .bool false] (0, 0) _ rfl (store3 HZ3.out _ _ _) Tryz.underlying30 rfl (by kernel_rfl)) rfl ?_
    have hmg : seqG m ps = dNone := by unfold seqG; rw [HK.out]; rfl
    refine ⟨[.slice none 0 0, .int .i64 0, .bool false], rfl, ?_, ((h3.out.setCell (p := ⟨w.heap.size + 1, 0, none⟩) (by show _ ≤ w.heap.size + 1; omega) _).setCell (p := ⟨w.heap.size + 1, 1, none⟩) (by show _ ≤ w.heap.size + 1; omega) _).setCell (p := ⟨w.heap.size + 1, 2, none⟩) (by show _ ≤ w.heap.size + 1; omega) _⟩
    rw [hmg]
    exact ownGrads_owns.2 ⟨none, 0, 0, rfl, Nat.le_refl _, by omega, rfl, .inl rfl⟩
  · have HC := Lib.hid (implZeroGrads_o w3 [.slice a n c] m (HMR.out w3 h3.out) HBM.out)
    go_wp2_with fail
    refine HC.out.mono ?_
    rintro e w4 ⟨e4, rfl, hr4, hb4⟩
    obtain ⟨a4, n4, c4, rfl, -⟩ := ownGrads_owns.1 hr4
    have hs4 := hb4.size
    have h4 := h3.out.trans (hb4.mono h3.out.size)
    have hA4 := (hb4.block w.heap.size (by omega)).trans HA3.out
    have hZ4 := (hb4.block (w.heap.size + 1) (by omega)).trans HZ3.out
    have hp5 : Below w4.heap.size w4 (w4.alloc (.cells #[.slice a4 n4 c4, .int .i64 (zeroG m).2.1, .bool (zeroG m).2.2] 30 (0, 0))) := (Below.refl _ _).alloc (Nat.le_refl _) _
    have hs5 : (w4.alloc (.cells #[.slice a4 n4 c4, .int .i64 (zeroG m).2.1, .bool (zeroG m).2.2] 30 (0, 0))).heap.size = w4.heap.size + 1 := by simp
    have hG5 := heap_alloc_new w4 (.cells #[.slice a4 n4 c4, .int .i64 (zeroG m).2.1, .bool (zeroG m).2.2] 30 (0, 0))
    have hb5 := hb4.trans (hp5.mono hs4)
    have h5 := h3.out.trans (hb5.mono h3.out.size)
    have HA5 := Lib.hid ((hp5.block w.heap.size (by omega)).trans hA4)
    have HZ5 := Lib.hid ((hp5.block (w.heap.size + 1) (by omega)).trans hZ4)
    have H5 := Lib.hid h5
    have HG5 := Lib.hid hG5
    have HR5 := Lib.hid (ownGrads.owns_sub (G := fun b _ => w.heap.size + 2 ≤ b ∧ b < w4.heap.size + 1 ∧ b ≠ w4.heap.size) (ownGrads.owns_keep hr4 (.of_below hp5 fun b o f => f.2)) fun b o hb => ⟨by have := hb.1; omega, by have := hb.2; omega, by have := hb.2; omega⟩)
    have hq5 : seqG m ps = seqK m ps n' := by unfold seqG; rw [HK.out, if_pos rfl, hlp]
    have HQ5 := Lib.hid hq5
    clear hr4 hb4 h4 hA4 hZ4 hp5 hG5 hb5 h5 hq5 z0 HC
    go_wp2_with fail
    generalize hw5 : w4.alloc (.cells #[.slice a4 n4 c4, .int .i64 (zeroG m).2.1, .bool (zeroG m).2.2] 30 (0, 0)) = w5 at HA5 HZ5 H5 HG5 HR5 hs5 ⊢
    clear hw5
    go_loopw [17] (fun i wr => ∃ (k : Nat) (ag : Option Addr) (ng cg : Nat), k ≤ n' ∧ i = .int .i64 k ∧ wr.heap[w4.heap.size]? = some (.cells #[.slice ag ng cg, .int .i64 (seqK m ps k).2.1, .bool (seqK m ps k).2.2] 30 (0, 0)) ∧ ownGrads.owns (fun b _ => w.heap.size + 2 ≤ b ∧ b < wr.heap.size ∧ b ≠ w4.heap.size) wr [.slice ag ng cg, .int .i64 (seqK m ps k).2.1, .bool (seqK m ps k).2.2] (seqK m ps k) ∧
      wr.heap[w.heap.size]? = some (.cells #[.slice a n c] 50 (0, 0)) ∧ wr.heap[w.heap.size + 1]? = some (.cells #[.slice none 0 0, .int .i64 0, .bool false] 30 (0, 0)) ∧ w4.heap.size + 1 ≤ wr.heap.size ∧ Below w.heap.size w wr) (fun i _ => n' - (intOf i).toNat)
    case atStart => exact ⟨0, a4, n4, c4, Nat.zero_le _, rfl, HG5.out, by rw [hs5]; exact HR5.out, HA5.out, HZ5.out, Nat.le_of_eq hs5.symm, H5.out⟩
    case round =>
      obtain ⟨k, ag, ng, cg, hk, rfl, hgb, hgr, hab, hzb, hsr, hbw⟩ := hrel
      obtain ⟨G, hG⟩ : ∃ G, seqK m ps k = G := ⟨_, rfl⟩
      have hGb : shGrads.bulk G ≤ 1048576 := by rw [← hG]; exact seqK_bulk m ps k
      rw [hG] at hgb hgr
      have z0 := box1 hab
      obtain ⟨⟨d0, d1, d2⟩, f0, f1, f2⟩ := cellsG hgb
      have HGB := Lib.hid hgb
      have HGR := Lib.hid hgr
      have HAB := Lib.hid hab
      have HZB := Lib.hid hzb
      have HBW := Lib.hid hbw
      have HG := Lib.hid hG
      have hsz := hbw.size
      by_cases hltk : k < n'
      · obtain ⟨x, hx⟩ : ∃ x, ps[k]? = some x := ⟨_, List.getElem?_eq_getElem (by rw [hlp]; exact hltk)⟩
        obtain ⟨b1, o1, es, rfl, hbB1, hr, hs⟩ := HP.out.2 k x hx
        have hrr := rangeAt_kept hr (show b1 < w.heap.size from hbB1) (Kept.of_below (I := Under w.heap.size) hbw fun b hb => hb)
        obtain ⟨ax, nx, cx, at', nt, ct, rfl, -⟩ := shPair_reads.1 hs
        have hq := (Below.refl wr.heap.size wr).alloc (Nat.le_refl _) (.cells #[.slice ax nx cx, .slice at' nt ct] 66 (0, 0))
        have hqn := heap_alloc_new wr (.cells #[.slice ax nx cx, .slice at' nt ct] 66 (0, 0))
        have hqs : (wr.alloc (.cells #[.slice ax nx cx, .slice at' nt ct] 66 (0, 0))).heap.size = wr.heap.size + 1 := by simp
        rw [shPair_size] at hrr
        have e0 := hrr 0 _ rfl
        have e1 := hrr 1 _ rfl
        simp only [Nat.add_zero] at e0
        clear d0 d1 d2 f0 f1 f2 z0
        go_upto_region 7 with fail
        generalize wr.alloc (.cells #[.slice ax nx cx, .slice at' nt ct] 66 (0, 0)) = wq at hq hqn hqs ⊢
        have hgbq := (hq.block w4.heap.size (by omega)).trans HGB.out
        have habq := (hq.block w.heap.size (by omega)).trans HAB.out
        have hzbq := (hq.block (w.heap.size + 1) (by omega)).trans HZB.out
        have hbwq := HBW.out.trans (hq.mono hsz)
        have hgrq := ownGrads.owns_keep HGR.out (.of_below hq fun b o f => f.2.1)
        have hgrd := ownGrads.owns_keep (w' := wq.drew) hgrq fun b o f => ⟨rfl, rfl⟩
        have z0 := box1 habq
        obtain ⟨⟨d0, d1, d2⟩, f0, f1, f2⟩ := cellsG hgbq
        have p0 : wq.cell? ⟨wr.heap.size, 0, none⟩ = some (.slice ax nx cx) := by rw [cell_of_row _ _ _ _ _ _ hqn]; rfl
        have p1 : wq.cell? ⟨wr.heap.size, 1, none⟩ = some (.slice at' nt ct) := by rw [cell_of_row _ _ _ _ _ _ hqn]; rfl
        have hdr : Below w.heap.size w wq.drew := hbwq.trans ⟨rfl, rfl, rfl, Nat.le_refl _, fun _ _ => rfl⟩
        have hsw := shPair.le (shPair.below hs hdr (Nat.le_refl _)) hdr.size
        have hbx' : shPair.bulk x ≤ 1048576 := by have h1 := bulk_mem shPair.bulk ps k x hx; have h2 := HBP.out; rw [bulk_list _ HP.out] at h2; omega
        have HC1 := Lib.hid (implMicroGrads_o wq.drew [.slice a n c] m (HMR.out wq.drew hdr) HBM.out _ x hsw hbx' (HG0.out.below hlt hdr))
        obtain ⟨M, hM⟩ : ∃ M, microG m x = M := ⟨_, rfl⟩
        have hMb : shGrads.bulk M ≤ 1048576 := by rw [← hM]; exact micro_small m x
        rw [hM] at HC1
        have hnext : seqK m ps (k + 1) = addG G M := by
          show addG (seqK m ps k) (microG m (pairAt ps k)) = _
          rw [HG.out, pairAt_get hx, hM]
        have HNX := Lib.hid hnext
        have hHG : w.heap.size ≤ wq.drew.heap.size := hdr.size
        have HC2 := Lib.hid fun (wt : World) (eg : List Value) (hb : Below wq.drew.heap.size wq.drew wt) (hr : ownGrads.owns (FromB wq.drew.heap.size wt.heap.size) wt eg M) =>
          implAddGrads_o wt [.slice ag ng cg, .int .i64 G.2.1, .bool G.2.2] G (ownGrads.owns_reads (I := Under wt.heap.size) (ownGrads.owns_keep hgrd (.of_below hb fun b o f => Nat.lt_of_lt_of_le f.2.1 (by show wr.heap.size ≤ wq.heap.size; omega))) fun b o f => Nat.lt_of_lt_of_le (Nat.lt_of_lt_of_le f.2.1 (by show wr.heap.size ≤ wq.heap.size; omega)) hb.size) hGb eg M (ownGrads.owns_reads (I := Under wt.heap.size) hr fun b o f => f.2) hMb (HG0.out.below hlt (hdr.trans (hb.mono hHG)))
        have HGBQ := Lib.hid hgbq
        have HABQ := Lib.hid habq
        have HZBQ := Lib.hid hzbq
        have HBWQ := Lib.hid hbwq
        have hsrq : w4.heap.size + 1 ≤ wq.heap.size := by omega
        have hszq : w.heap.size ≤ wq.heap.size := by omega
        clear hr hrr hs hsw hx hbx' hdr hnext hM hG hgb hgr hab hzb hbw hbB1 hgbq habq hzbq hbwq hgrq hgrd hq hqn e0 e1 hHG
        go_region_law (first
          | (go_simp; go_at_call 35; (with_reducible refine HC1.out.mono ?_); rintro e wt ⟨eg, rfl, hr, hb⟩; have hq := HC2.out wt eg hb hr; obtain ⟨aq, nq, cq, rfl, -⟩ := ownGrads_owns.1 hr; obtain ⟨⟨t0, t1, t2⟩, -⟩ := cellsG ((hb.block w4.heap.size (by show w4.heap.size < wq.heap.size; omega)).trans HGBQ.out); have HQ := Lib.hid hq; have HBT := Lib.hid hb; clear hb hr hq)
          | (go_simp; go_at_call 32; (with_reducible refine HQ.out.mono ?_); rintro e wu ⟨eh, rfl, hr, hb⟩; obtain ⟨ah, nh, ch, rfl, -⟩ := ownGrads_owns.1 hr; have hbu : Below wq.heap.size wq wu := ((Below.refl wq.heap.size wq).drew).trans (HBT.out.trans (hb.mono HBT.out.size)); have hgu := (hbu.block w4.heap.size (by omega)).trans HGBQ.out; obtain ⟨⟨q0, q1, q2⟩, r0, r1, r2⟩ := cellsG hgu; have HGU := Lib.hid hgu; have HBU := Lib.hid hbu; have HRU := Lib.hid hr; have HTS := Lib.hid HBT.out.size; clear hb hr hbu hgu))
        all_goals
          go_wp2_with fail
          go_roundw
          case rel =>
            have hts : wq.heap.size ≤ wt.heap.size := HTS.out
            have hus := HBU.out.size
            refine ⟨k + 1, ah, nh, ch, by omega, by go_num, ?_, ?_, ?_, ?_, ?_, ?_⟩
            · rw [HNX.out]
              exact store3 HGU.out _ _ _
            · rw [HNX.out, set3_size]
              refine ownGrads.owns_sub (ownGrads.owns_keep HRU.out fun b o f => ?_) fun b o f => ⟨by have := f.1; omega, f.2, by have := f.1; omega⟩
              have hne : b ≠ w4.heap.size := by have := f.1; omega
              exact ⟨World.cell?_of_block (a := ⟨b, o, none⟩) (set3_other _ _ _ hne), World.frozen?_of_block (a := ⟨b, o, none⟩) (set3_other _ _ _ hne)⟩
            · exact (set3_other _ _ _ (by omega)).trans ((HBU.out.block w.heap.size (by omega)).trans HABQ.out)
            · exact (set3_other _ _ _ (by omega)).trans ((HBU.out.block (w.heap.size + 1) (by omega)).trans HZBQ.out)
            · rw [set3_size]
              omega
            · exact set3_below (HBWQ.out.trans (HBU.out.mono hszq)) (by omega) _ _ _
          case measure => simp [intOf]; omega
      · obtain rfl : k = n' := by omega
        obtain ⟨⟨y0, y1, y2⟩, l0, l1, l2⟩ := cellsG hzb
        clear hgb hgr hab hzb hbw
        go_wp2_with fail
        refine bodyPost_ret (results_cell_row rfl _ _ (w.heap.size + 1) 30 #[.slice ag ng cg, .int .i64 G.2.1, .bool G.2.2] (0, 0) _ rfl (store3 HZB.out _ _ _) Tryz.underlying30 rfl (by kernel_rfl)) rfl ?_
        refine ⟨[.slice ag ng cg, .int .i64 G.2.1, .bool G.2.2], rfl, ?_, set3_below HBW.out (by omega) _ _ _⟩
        rw [HQ5.out, HG.out, set3_size]
        refine ownGrads.owns_sub (ownGrads.owns_keep HGR.out fun b o f => ?_) fun b o f => ⟨by have := f.1; omega, f.2.1⟩
        have hne : b ≠ w.heap.size + 1 := by have := f.1; omega
        exact ⟨World.cell?_of_block (a := ⟨b, o, none⟩) (set3_other _ _ _ hne), World.frozen?_of_block (a := ⟨b, o, none⟩) (set3_other _ _ _ hne)⟩
end Go.Proofs.YtpnifgpmleaohaaGreatDoor

end

/-! YtpnifgpmleaohaaGreatDoorSeqOS -/
section

namespace Go.Proofs.YtpnifgpmleaohaaGreatDoor
open Go.RowKit
set_option linter.unusedVariables false
set_option linter.unusedSimpArgs false

set_option maxRecDepth 100000 in
set_option maxHeartbeats 12800000 in
theorem lawSequential_any (w : World) (es0 : List Value) (x0 : dModel) (h0 : shModel.reads (Under w.heap.size) w es0 x0) (a1 : Option Addr) (n1 c1 : Nat) (x1 : List dPair) (h1 : ListAt shPair (Under w.heap.size) w a1 n1 x1) (m1 : n1 ≤ 9223372036854775807) (hg : LaidE w) :
    Calls Tryz.prog 7 #[(.agg es0.toArray), (.slice a1 n1 c1)] w fun e w' => e = .returned (.bool true) ∧ Below w.heap.size w w' := by
  obtain ⟨a0_0, n0_0, c0_0, rfl, -⟩ := shModel_reads.1 h0
  obtain ⟨u0, hu0⟩ : ∃ u, shModel.bulk x0 = u := ⟨_, rfl⟩
  obtain ⟨k0, hk0⟩ : ∃ k, ownModel.ctT x0 = k := ⟨_, rfl⟩
  have K0 := Lib.hid hk0
  have fw0 : k0 ≤ 16 * u0 := by rw [← hk0, ← hu0]; exact ownModel_few x0
  have U0 := Lib.hid hu0
  have F0 := Lib.hid h0
  obtain ⟨u1, hu1⟩ : ∃ u, (Shape.list shPair).bulk x1 = u := ⟨_, rfl⟩
  obtain ⟨k1, hk1⟩ : ∃ k, (Shape.sum ownPair.ct x1) = k := ⟨_, rfl⟩
  have K1 := Lib.hid hk1
  have fw1 : k1 ≤ 16 * u1 := by rw [← hk1, ← hu1]; exact few_PairS x1
  have U1 := Lib.hid hu1
  have F1 := Lib.hid h1
  have T := Lib.hid (Below.refl w.heap.size w)
  have hlt := hg.lt
  have HG := Lib.hid hg
  clear hu0 hk0 h0 hu1 hk1 h1 hg
  by_cases f0 : ((u0 : Nat) : Int) ≤ 1048576
  · skip
    by_cases f1 : ((u0 + u1 : Nat) : Int) ≤ 1048576
    · have hk0 : (w.alloc (.cells #[.slice a0_0 n0_0 c0_0] 69 (0, 0))).heap[w.heap.size]? = some (.cells #[.slice a0_0 n0_0 c0_0] 69 (0, 0)) := by
        have := heap_alloc_new w (.cells #[.slice a0_0 n0_0 c0_0] 69 (0, 0))
        simpa using this
      have hb := (Below.refl w.heap.size w).alloc (Nat.le_refl _) (.cells #[.slice a0_0 n0_0 c0_0] 69 (0, 0))
      have szw1 : w.heap.size + 1 = (w.alloc (.cells #[.slice a0_0 n0_0 c0_0] 69 (0, 0))).heap.size := by simp
      go_enter Tryz.func7, Tryz.ntmps7
      go_wp2_with fail
      generalize (w.alloc (.cells #[.slice a0_0 n0_0 c0_0] 69 (0, 0))) = w1 at hb szw1 hk0 ⊢
      replace F0 := Lib.hid (shModel.below F0.out hb (by omega))
      replace F1 := Lib.hid (F1.out.below hb (by omega))
      replace T := Lib.hid (T.out.trans (hb.mono (by omega)))
      have AB0 := Lib.hid hk0
      clear hb hk0
      have hc := szModel_c _ _ _ x0 (1048576) F0.out (by omega) (by omega) (by omega)
      rw [U0.out, szN_yes (by omega)] at hc
      obtain ⟨l0, hl0⟩ : ∃ l, 1048576 - (u0 : Int) = l := ⟨_, rfl⟩
      rw [hl0] at hc
      have t0 : decide (l0 < 0) = false := decide_eq_false (by omega)
      have HC := Lib.hid hc
      clear hc
      refine HC.out.mono ?_
      rintro e w2 ⟨rfl, hb⟩
      clear HC
      have szw2 := hb.size
      replace F0 := Lib.hid (shModel.below F0.out hb (by omega))
      replace F1 := Lib.hid (F1.out.below hb (by omega))
      replace AB0 := Lib.hid ((hb.block w.heap.size (by omega)).trans AB0.out)
      replace T := Lib.hid (T.out.trans (hb.mono (by omega)))
      clear hb
      have hc := szPairS_c _ _ a1 n1 c1 x1 (l0) F1.out (by omega) m1 (by omega) (by omega)
      rw [U1.out, szN_yes (by omega)] at hc
      obtain ⟨l1, hl1⟩ : ∃ l, l0 - (u1 : Int) = l := ⟨_, rfl⟩
      rw [hl1] at hc
      have t1 : decide (l1 < 0) = false := decide_eq_false (by omega)
      have HC := Lib.hid hc
      clear hc
      go_wp2_with fail
      refine HC.out.mono ?_
      rintro e w3 ⟨rfl, hb⟩
      clear HC
      have szw3 := hb.size
      replace F0 := Lib.hid (shModel.below F0.out hb (by omega))
      replace F1 := Lib.hid (F1.out.below hb (by omega))
      replace AB0 := Lib.hid ((hb.block w.heap.size (by omega)).trans AB0.out)
      replace T := Lib.hid (T.out.trans (hb.mono (by omega)))
      clear hb
      have ub : u0 + u1 ≤ 1048576 := by omega
      have ln1 : n1 ≤ 1048576 := by have e1 := bulk_list shPair F1.out; have e2 := U1.out; omega
      obtain ⟨v, hv⟩ : ∃ v, seqG x0 x1 = v := ⟨_, rfl⟩
      have vb : shGrads.bulk v ≤ 1048576 := by
        rw [← hv]
        exact seq_small x0 x1
      obtain ⟨kv, hkv⟩ : ∃ k, ownGrads.ctT v = k := ⟨_, rfl⟩
      have fwv : kv ≤ 16777216 := by rw [← hkv]; have := ownGrads_few v; omega
      have KV := Lib.hid hkv
      have HV := Lib.hid hv
      clear hv hkv
      have HC := Lib.hid (toModel_c _ _ _ x0 F0.out (by omega) (by rw [U0.out]; omega))
      have za_0 := cell_of_row _ w.heap.size 0 _ _ _ AB0.out
      simp only [List.getElem?_toArray, List.getElem?_cons_zero, List.getElem?_cons_succ] at za_0
      go_wp2_with fail
      clear za_0
      refine HC.out.mono ?_
      rintro e w4 ⟨eY0, rfl, hr, hb⟩
      clear HC
      have szw4 := hb.size
      replace F0 := Lib.hid (shModel.below F0.out hb (by omega))
      replace F1 := Lib.hid (F1.out.below hb (by omega))
      replace AB0 := Lib.hid ((hb.block w.heap.size (by omega)).trans AB0.out)
      replace T := Lib.hid (T.out.trans (hb.mono (by omega)))
      clear hb
      have hY0 := shModel.under hr
      obtain ⟨aY0_0, nY0_0, cY0_0, rfl, -⟩ := shModel_reads.1 hY0
      have Y0 := Lib.hid hY0
      clear hr hY0
      have HC := Lib.hid (toPairS_c _ _ a1 n1 c1 x1 F1.out (by omega) (by rw [U1.out]; omega))
      go_wp2_with fail
      refine HC.out.mono ?_
      rintro e w5 ⟨rfl, hr, hb⟩
      clear HC
      have szw5 := hb.size
      replace F0 := Lib.hid (shModel.below F0.out hb (by omega))
      replace F1 := Lib.hid (F1.out.below hb (by omega))
      replace AB0 := Lib.hid ((hb.block w.heap.size (by omega)).trans AB0.out)
      replace Y0 := Lib.hid (shModel.below Y0.out hb (by omega))
      replace T := Lib.hid (T.out.trans (hb.mono (by omega)))
      clear hb
      have Y1 := Lib.hid hr.under
      clear hr
      have hc := specSequential_o _ _ x0 (shModel.le Y0.out (by omega)) (by rw [U0.out]; omega) _ n1 n1 x1 (Y1.out.le (by omega)) (Nat.le_refl _) (by omega) (by rw [U1.out]; omega)
      rw [HV.out] at hc
      have HC := Lib.hid hc
      clear hc
      go_wp2_with fail
      refine HC.out.mono ?_
      rintro e w6 ⟨eW, rfl, hr, hb⟩
      clear HC
      have szw6 := hb.size
      replace F0 := Lib.hid (shModel.below F0.out hb (by omega))
      replace F1 := Lib.hid (F1.out.below hb (by omega))
      replace AB0 := Lib.hid ((hb.block w.heap.size (by omega)).trans AB0.out)
      replace T := Lib.hid (T.out.trans (hb.mono (by omega)))
      clear hb
      obtain ⟨aW_0, nW_0, cW_0, rfl, -⟩ := shGrads_reads.1 hr
      have W := Lib.hid (shGrads.under hr)
      clear hr
      clear Y0 Y1
      have hb := (Below.refl w6.heap.size w6).alloc (Nat.le_refl _) (.cells #[.slice aW_0 nW_0 cW_0, .int .i64 v.2.1, .bool v.2.2] 30 (0, 0))
      have hk := heap_alloc_new w6 (.cells #[.slice aW_0 nW_0 cW_0, .int .i64 v.2.1, .bool v.2.2] 30 (0, 0))
      have szw7 : w6.heap.size < (w6.alloc (.cells #[.slice aW_0 nW_0 cW_0, .int .i64 v.2.1, .bool v.2.2] 30 (0, 0))).heap.size := by simp
      obtain ⟨w7, hww7⟩ : ∃ W, w6.alloc (.cells #[.slice aW_0 nW_0 cW_0, .int .i64 v.2.1, .bool v.2.2] 30 (0, 0)) = W := ⟨_, rfl⟩
      rw [hww7] at hb hk szw7
      replace F0 := Lib.hid (shModel.below F0.out hb (by omega))
      replace F1 := Lib.hid (F1.out.below hb (by omega))
      replace AB0 := Lib.hid ((hb.block w.heap.size (by omega)).trans AB0.out)
      replace W := Lib.hid (shGrads.below W.out hb (by omega))
      replace T := Lib.hid (T.out.trans (hb.mono (by omega)))
      have BW := Lib.hid hk
      clear hb hk
      have HC := Lib.hid (toModel_o _ _ _ x0 F0.out (by omega) (by rw [U0.out]; omega))
      have za_0 := cell_of_row _ w.heap.size 0 _ _ _ AB0.out
      simp only [List.getElem?_toArray, List.getElem?_cons_zero, List.getElem?_cons_succ] at za_0
      go_wp2_with fail
      clear hww7
      clear za_0
      refine HC.out.mono ?_
      rintro e w8 ⟨eX0, rfl, hr, hb⟩
      clear HC
      have szw8 := hb.size
      replace F0 := Lib.hid (shModel.below F0.out hb (by omega))
      replace F1 := Lib.hid (F1.out.below hb (by omega))
      replace AB0 := Lib.hid ((hb.block w.heap.size (by omega)).trans AB0.out)
      replace W := Lib.hid (shGrads.below W.out hb (by omega))
      replace BW := Lib.hid ((hb.block w6.heap.size (by omega)).trans BW.out)
      replace T := Lib.hid (T.out.trans (hb.mono (by omega)))
      clear hb
      obtain ⟨aX0_0, nX0_0, cX0_0, rfl, -⟩ := ownModel_owns.1 hr
      have X0 := Lib.hid hr
      clear hr
      have hb := (Below.refl w8.heap.size w8).alloc (Nat.le_refl _) (.cells #[.slice aX0_0 nX0_0 cX0_0] 50 (0, 0))
      have hk := heap_alloc_new w8 (.cells #[.slice aX0_0 nX0_0 cX0_0] 50 (0, 0))
      have szw9 : w8.heap.size < (w8.alloc (.cells #[.slice aX0_0 nX0_0 cX0_0] 50 (0, 0))).heap.size := by simp
      obtain ⟨w9, hww9⟩ : ∃ W, w8.alloc (.cells #[.slice aX0_0 nX0_0 cX0_0] 50 (0, 0)) = W := ⟨_, rfl⟩
      rw [hww9] at hb hk szw9
      replace F0 := Lib.hid (shModel.below F0.out hb (by omega))
      replace F1 := Lib.hid (F1.out.below hb (by omega))
      replace AB0 := Lib.hid ((hb.block w.heap.size (by omega)).trans AB0.out)
      replace W := Lib.hid (shGrads.below W.out hb (by omega))
      replace BW := Lib.hid ((hb.block w6.heap.size (by omega)).trans BW.out)
      replace X0 := Lib.hid (ownModel.owns_keep X0.out (.of_below hb fun b o f => by have := f.2; omega))
      replace T := Lib.hid (T.out.trans (hb.mono (by omega)))
      have BX0 := Lib.hid hk
      clear hb hk
      have HC := Lib.hid (toPairS_o _ _ a1 n1 c1 x1 F1.out (by omega) (by rw [U1.out]; omega))
      go_wp2_with fail
      clear hww9
      refine HC.out.mono ?_
      rintro e w10 ⟨rfl, hr, hb⟩
      clear HC
      have szw10 := hb.size
      replace F0 := Lib.hid (shModel.below F0.out hb (by omega))
      replace F1 := Lib.hid (F1.out.below hb (by omega))
      replace AB0 := Lib.hid ((hb.block w.heap.size (by omega)).trans AB0.out)
      replace W := Lib.hid (shGrads.below W.out hb (by omega))
      replace BW := Lib.hid ((hb.block w6.heap.size (by omega)).trans BW.out)
      replace X0 := Lib.hid (ownModel.owns_keep X0.out (.of_below hb fun b o f => by have := f.2; omega))
      replace BX0 := Lib.hid ((hb.block w8.heap.size (by omega)).trans BX0.out)
      replace T := Lib.hid (T.out.trans (hb.mono (by omega)))
      clear hb
      have X1 := Lib.hid hr
      clear hr
      have hc := implSequential_o _ _ x0 (ownModel.owns_reads X0.out fun b o f => by have := f.2; exact Nat.lt_of_lt_of_le this (by omega)) (by rw [U0.out]; omega) _ n1 n1 x1 (X1.out.listAt (fun b o f => by have := f.2; exact Nat.lt_of_lt_of_le this (by omega)) (by decide)) (Nat.le_refl _) (by omega) (by rw [U1.out]; omega) (HG.out.below hlt T.out)
      rw [HV.out] at hc
      have HC := Lib.hid hc
      clear hc
      have zx0_0 := cell_of_row _ w8.heap.size 0 _ _ _ BX0.out
      simp only [List.getElem?_toArray, List.getElem?_cons_zero, List.getElem?_cons_succ] at zx0_0
      go_wp2_with fail
      clear zx0_0
      refine HC.out.mono ?_
      rintro e w11 ⟨eG, rfl, hr, hb⟩
      clear HC
      have szw11 := hb.size
      replace F0 := Lib.hid (shModel.below F0.out hb (by omega))
      replace F1 := Lib.hid (F1.out.below hb (by omega))
      replace AB0 := Lib.hid ((hb.block w.heap.size (by omega)).trans AB0.out)
      replace W := Lib.hid (shGrads.below W.out hb (by omega))
      replace BW := Lib.hid ((hb.block w6.heap.size (by omega)).trans BW.out)
      replace X0 := Lib.hid (ownModel.owns_keep X0.out (.of_below hb fun b o f => by have := f.2; omega))
      replace BX0 := Lib.hid ((hb.block w8.heap.size (by omega)).trans BX0.out)
      replace X1 := Lib.hid (X1.out.keep (.of_below hb fun b o f => by have := f.2; omega))
      replace T := Lib.hid (T.out.trans (hb.mono (by omega)))
      clear hb
      obtain ⟨aG_0, nG_0, cG_0, rfl, -⟩ := ownGrads_owns.1 hr
      have G := Lib.hid hr
      clear hr
      have hb := (Below.refl w11.heap.size w11).alloc (Nat.le_refl _) (.cells #[.slice aG_0 nG_0 cG_0, .int .i64 v.2.1, .bool v.2.2] 30 (0, 0))
      have hk := heap_alloc_new w11 (.cells #[.slice aG_0 nG_0 cG_0, .int .i64 v.2.1, .bool v.2.2] 30 (0, 0))
      have szw12 : w11.heap.size < (w11.alloc (.cells #[.slice aG_0 nG_0 cG_0, .int .i64 v.2.1, .bool v.2.2] 30 (0, 0))).heap.size := by simp
      obtain ⟨w12, hww12⟩ : ∃ W, w11.alloc (.cells #[.slice aG_0 nG_0 cG_0, .int .i64 v.2.1, .bool v.2.2] 30 (0, 0)) = W := ⟨_, rfl⟩
      rw [hww12] at hb hk szw12
      replace F0 := Lib.hid (shModel.below F0.out hb (by omega))
      replace F1 := Lib.hid (F1.out.below hb (by omega))
      replace AB0 := Lib.hid ((hb.block w.heap.size (by omega)).trans AB0.out)
      replace W := Lib.hid (shGrads.below W.out hb (by omega))
      replace BW := Lib.hid ((hb.block w6.heap.size (by omega)).trans BW.out)
      replace X0 := Lib.hid (ownModel.owns_keep X0.out (.of_below hb fun b o f => by have := f.2; omega))
      replace BX0 := Lib.hid ((hb.block w8.heap.size (by omega)).trans BX0.out)
      replace X1 := Lib.hid (X1.out.keep (.of_below hb fun b o f => by have := f.2; omega))
      replace G := Lib.hid (ownGrads.owns_keep G.out (.of_below hb fun b o f => by have := f.2; omega))
      replace T := Lib.hid (T.out.trans (hb.mono (by omega)))
      have BG := Lib.hid hk
      clear hb hk
      have HC := Lib.hid (eqGrads_c _ _ _ _ _ v (ownGrads.owns_reads (I := Under w11.heap.size) G.out fun b o f => f.2) W.out (by omega) (by omega) vb)
      have zg_0 := cell_of_row _ w11.heap.size 0 _ _ _ BG.out
      have zg_1 := cell_of_row _ w11.heap.size 1 _ _ _ BG.out
      have zg_2 := cell_of_row _ w11.heap.size 2 _ _ _ BG.out
      simp only [List.getElem?_toArray, List.getElem?_cons_zero, List.getElem?_cons_succ] at zg_0 zg_1 zg_2
      have zw_0 := cell_of_row _ w6.heap.size 0 _ _ _ BW.out
      have zw_1 := cell_of_row _ w6.heap.size 1 _ _ _ BW.out
      have zw_2 := cell_of_row _ w6.heap.size 2 _ _ _ BW.out
      simp only [List.getElem?_toArray, List.getElem?_cons_zero, List.getElem?_cons_succ] at zw_0 zw_1 zw_2
      go_wp2_with fail
      clear hww12
      clear zg_0 zg_1 zg_2
      clear zw_0 zw_1 zw_2
      refine HC.out.mono ?_
      rintro e w13 ⟨rfl, hb⟩
      clear HC
      have szw13 := hb.size
      replace F0 := Lib.hid (shModel.below F0.out hb (by omega))
      replace F1 := Lib.hid (F1.out.below hb (by omega))
      replace AB0 := Lib.hid ((hb.block w.heap.size (by omega)).trans AB0.out)
      replace W := Lib.hid (shGrads.below W.out hb (by omega))
      replace BW := Lib.hid ((hb.block w6.heap.size (by omega)).trans BW.out)
      replace X0 := Lib.hid (ownModel.owns_keep X0.out (.of_below hb fun b o f => by have := f.2; omega))
      replace BX0 := Lib.hid ((hb.block w8.heap.size (by omega)).trans BX0.out)
      replace X1 := Lib.hid (X1.out.keep (.of_below hb fun b o f => by have := f.2; omega))
      replace G := Lib.hid (ownGrads.owns_keep G.out (.of_below hb fun b o f => by have := f.2; omega))
      replace BG := Lib.hid ((hb.block w11.heap.size (by omega)).trans BG.out)
      replace T := Lib.hid (T.out.trans (hb.mono (by omega)))
      clear hb
      have zx_0 := cell_of_row _ w8.heap.size 0 _ _ _ BX0.out
      simp only [List.getElem?_toArray, List.getElem?_cons_zero, List.getElem?_cons_succ] at zx_0
      have za_0 := cell_of_row _ w.heap.size 0 _ _ _ AB0.out
      simp only [List.getElem?_toArray, List.getElem?_cons_zero, List.getElem?_cons_succ] at za_0
      go_upto_region 14 with fail
      go_cut [44] (fun t wx => t = .bool false ∧ Below w13.heap.size w13 wx)
      case first =>
        have hdr : Below w13.heap.size w13 w13.drew := (Below.refl _ _).drew
        have FD := Lib.hid (shModel.below F0.out hdr (by omega))
        have XD := Lib.hid (shModel.below (ownModel.owns_reads (I := Under w8.heap.size) X0.out fun b o f => f.2) hdr (by omega))
        have DR := Lib.hid hdr
        have szd : w13.heap.size ≤ w13.drew.heap.size := hdr.size
        have XBD : Hid (w13.drew.heap[w8.heap.size]? = _) := Lib.hid BX0.out
        clear hdr
        have HC1 := Lib.hid (toModel_c w13.drew _ _ x0 FD.out (by omega) (by rw [U0.out]; omega))
        have HC2 := Lib.hid fun (w1 : World) (es : List Value) (hb : Below w13.drew.heap.size w13.drew w1) (hr : shModel.reads (From w13.drew.heap.size w1.heap.size) w1 es x0) => eqModel_c w1 _ _ _ es x0 (shModel.below XD.out hb (by omega)) (shModel.under hr) (by have := hb.size; omega) (Nat.le_refl _) (by rw [U0.out]; omega)
        go_region_law (first
          | (go_simp; go_at_call 39; (with_reducible refine HC1.out.mono ?_); rintro e wt ⟨eg, rfl, hr, hb⟩; have hq := HC2.out wt eg hb hr; have zz_0 := cell_of_row _ w8.heap.size 0 _ _ _ ((hb.block w8.heap.size (by omega)).trans XBD.out); simp only [List.getElem?_toArray, List.getElem?_cons_zero, List.getElem?_cons_succ] at zz_0; obtain ⟨ag_0, ng_0, cg_0, rfl, -⟩ := shModel_reads.1 hr; have HQ := Lib.hid hq; have HBT := Lib.hid hb; have szt := hb.size; clear hb hr hq)
          | (go_simp; go_at_call 42; (with_reducible refine HQ.out.mono ?_); rintro e wq ⟨rfl, hb⟩; have BQ := Lib.hid (DR.out.trans ((HBT.out.mono szd).trans (hb.mono (by omega)))); clear hb))
        all_goals
          go_wp2_with fail
          go_meet
          case rel => exact ⟨rfl, BQ.out⟩
      case rest =>
        obtain ⟨rfl, hb⟩ := hcut
        clear zx_0
        clear za_0
        obtain ⟨w14, rfl⟩ : ∃ x, x = wc := ⟨_, rfl⟩
        have szw14 := hb.size
        replace F0 := Lib.hid (shModel.below F0.out hb (by omega))
        replace F1 := Lib.hid (F1.out.below hb (by omega))
        replace AB0 := Lib.hid ((hb.block w.heap.size (by omega)).trans AB0.out)
        replace W := Lib.hid (shGrads.below W.out hb (by omega))
        replace BW := Lib.hid ((hb.block w6.heap.size (by omega)).trans BW.out)
        replace X0 := Lib.hid (ownModel.owns_keep X0.out (.of_below hb fun b o f => by have := f.2; omega))
        replace BX0 := Lib.hid ((hb.block w8.heap.size (by omega)).trans BX0.out)
        replace X1 := Lib.hid (X1.out.keep (.of_below hb fun b o f => by have := f.2; omega))
        replace G := Lib.hid (ownGrads.owns_keep G.out (.of_below hb fun b o f => by have := f.2; omega))
        replace BG := Lib.hid ((hb.block w11.heap.size (by omega)).trans BG.out)
        replace T := Lib.hid (T.out.trans (hb.mono (by omega)))
        clear hb
        have HC := Lib.hid (toPairS_c _ _ a1 n1 c1 x1 F1.out (by omega) (by rw [U1.out]; omega))
        go_wp2_with fail
        refine HC.out.mono ?_
        rintro e w15 ⟨rfl, hr, hb⟩
        clear HC
        have szw15 := hb.size
        replace F0 := Lib.hid (shModel.below F0.out hb (by omega))
        replace F1 := Lib.hid (F1.out.below hb (by omega))
        replace AB0 := Lib.hid ((hb.block w.heap.size (by omega)).trans AB0.out)
        replace W := Lib.hid (shGrads.below W.out hb (by omega))
        replace BW := Lib.hid ((hb.block w6.heap.size (by omega)).trans BW.out)
        replace X0 := Lib.hid (ownModel.owns_keep X0.out (.of_below hb fun b o f => by have := f.2; omega))
        replace BX0 := Lib.hid ((hb.block w8.heap.size (by omega)).trans BX0.out)
        replace X1 := Lib.hid (X1.out.keep (.of_below hb fun b o f => by have := f.2; omega))
        replace G := Lib.hid (ownGrads.owns_keep G.out (.of_below hb fun b o f => by have := f.2; omega))
        replace BG := Lib.hid ((hb.block w11.heap.size (by omega)).trans BG.out)
        replace T := Lib.hid (T.out.trans (hb.mono (by omega)))
        clear hb
        have Z1 := Lib.hid hr.under
        clear hr
        have HC := Lib.hid (eqPairS_c _ _ _ _ _ n1 n1 n1 x1 (X1.out.listAt (I := Under w10.heap.size) (fun b o f => f.2) (by decide)) Z1.out (by omega) (by omega) (by rw [U1.out]; omega))
        go_wp2_with fail
        refine HC.out.mono ?_
        rintro e w16 ⟨rfl, hb⟩
        clear HC Z1
        have szw16 := hb.size
        replace F0 := Lib.hid (shModel.below F0.out hb (by omega))
        replace F1 := Lib.hid (F1.out.below hb (by omega))
        replace AB0 := Lib.hid ((hb.block w.heap.size (by omega)).trans AB0.out)
        replace W := Lib.hid (shGrads.below W.out hb (by omega))
        replace BW := Lib.hid ((hb.block w6.heap.size (by omega)).trans BW.out)
        replace X0 := Lib.hid (ownModel.owns_keep X0.out (.of_below hb fun b o f => by have := f.2; omega))
        replace BX0 := Lib.hid ((hb.block w8.heap.size (by omega)).trans BX0.out)
        replace X1 := Lib.hid (X1.out.keep (.of_below hb fun b o f => by have := f.2; omega))
        replace G := Lib.hid (ownGrads.owns_keep G.out (.of_below hb fun b o f => by have := f.2; omega))
        replace BG := Lib.hid ((hb.block w11.heap.size (by omega)).trans BG.out)
        replace T := Lib.hid (T.out.trans (hb.mono (by omega)))
        clear hb
        have hc := markModel_o _ _ _ x0 (1) X0.out (fun b o f => Nat.lt_of_lt_of_le f.2 (by omega)) (by rw [U0.out]; omega) (by omega) (by rw [K0.out]; omega)
        have zx_0 := cell_of_row _ w8.heap.size 0 _ _ _ BX0.out
        simp only [List.getElem?_toArray, List.getElem?_cons_zero, List.getElem?_cons_succ] at zx_0
        rw [K0.out] at hc
        have HC := Lib.hid hc
        clear hc
        go_wp2_with fail
        clear zx_0
        refine HC.out.mono ?_
        rintro e w18 ⟨rfl, ho, w17, hb, ht⟩
        clear HC
        have szw17 := hb.size
        replace F0 := Lib.hid (shModel.below F0.out hb (by omega))
        replace F1 := Lib.hid (F1.out.below hb (by omega))
        replace AB0 := Lib.hid ((hb.block w.heap.size (by omega)).trans AB0.out)
        replace W := Lib.hid (shGrads.below W.out hb (by omega))
        replace BW := Lib.hid ((hb.block w6.heap.size (by omega)).trans BW.out)
        replace BX0 := Lib.hid ((hb.block w8.heap.size (by omega)).trans BX0.out)
        replace X1 := Lib.hid (X1.out.keep (.of_below hb fun b o f => by have := f.2; omega))
        replace G := Lib.hid (ownGrads.owns_keep G.out (.of_below hb fun b o f => by have := f.2; omega))
        replace BG := Lib.hid ((hb.block w11.heap.size (by omega)).trans BG.out)
        replace T := Lib.hid (T.out.trans (hb.mono (by omega)))
        clear hb
        have hq := ht.below (B := w7.heap.size) fun b o f => f.1
        replace F0 := Lib.hid (shModel.below F0.out hq (by omega))
        replace F1 := Lib.hid (F1.out.below hq (by omega))
        replace AB0 := Lib.hid ((ht.block w.heap.size fun o f => by have h1 := f.1; have h2 := f.2; omega).trans AB0.out)
        replace W := Lib.hid (shGrads.below W.out hq (by omega))
        replace BW := Lib.hid ((ht.block w6.heap.size fun o f => by have h1 := f.1; have h2 := f.2; omega).trans BW.out)
        replace BX0 := Lib.hid ((ht.block w8.heap.size fun o f => by have h1 := f.1; have h2 := f.2; omega).trans BX0.out)
        replace X1 := Lib.hid (X1.out.keep (ht.same fun b o f f' => by have h1 := f.1; have h2 := f.2; have h3 := f'.1; have h4 := f'.2; omega))
        replace G := Lib.hid (ownGrads.owns_keep G.out (ht.same fun b o f f' => by have h1 := f.1; have h2 := f.2; have h3 := f'.1; have h4 := f'.2; omega))
        replace BG := Lib.hid ((ht.block w11.heap.size fun o f => by have h1 := f.1; have h2 := f.2; omega).trans BG.out)
        replace T := Lib.hid (T.out.trans (hq.mono (by omega)))
        have szt := ht.size
        clear hq
        have szw18 : w17.heap.size ≤ w18.heap.size := Nat.le_of_eq szt.symm
        clear ht szt ho X0
        have hc := markPairS_o _ _ (some ⟨w9.heap.size, 0, none⟩) n1 n1 x1 (1 + (k0 : Nat)) X1.out (by rw [U1.out]; omega) (by omega) (by rw [K1.out]; omega)
        rw [K1.out] at hc
        have HC := Lib.hid hc
        clear hc
        go_wp2_with fail
        refine HC.out.mono ?_
        rintro e w19 ⟨rfl, ho, ht⟩
        clear HC
        have hq := ht.below (B := w9.heap.size) fun b o f => f.1
        replace F0 := Lib.hid (shModel.below F0.out hq (by omega))
        replace F1 := Lib.hid (F1.out.below hq (by omega))
        replace AB0 := Lib.hid ((ht.block w.heap.size fun o f => by have h1 := f.1; have h2 := f.2; omega).trans AB0.out)
        replace W := Lib.hid (shGrads.below W.out hq (by omega))
        replace BW := Lib.hid ((ht.block w6.heap.size fun o f => by have h1 := f.1; have h2 := f.2; omega).trans BW.out)
        replace BX0 := Lib.hid ((ht.block w8.heap.size fun o f => by have h1 := f.1; have h2 := f.2; omega).trans BX0.out)
        replace G := Lib.hid (ownGrads.owns_keep G.out (ht.same fun b o f f' => by have h1 := f.1; have h2 := f.2; have h3 := f'.1; have h4 := f'.2; omega))
        replace BG := Lib.hid ((ht.block w11.heap.size fun o f => by have h1 := f.1; have h2 := f.2; omega).trans BG.out)
        replace T := Lib.hid (T.out.trans (hq.mono (by omega)))
        have szt := ht.size
        clear hq
        have szw19 : w18.heap.size ≤ w19.heap.size := Nat.le_of_eq szt.symm
        clear ht szt ho X1
        have tk : decide ((1 : Int) + (k0 : Int) + (k1 : Int) < 0) = false := decide_eq_false (by omega)
        have HC := Lib.hid (eqGrads_c _ _ _ _ _ v (ownGrads.owns_reads (I := Under w11.heap.size) G.out fun b o f => f.2) W.out (by omega) (by omega) vb)
        have zg_0 := cell_of_row _ w11.heap.size 0 _ _ _ BG.out
        have zg_1 := cell_of_row _ w11.heap.size 1 _ _ _ BG.out
        have zg_2 := cell_of_row _ w11.heap.size 2 _ _ _ BG.out
        simp only [List.getElem?_toArray, List.getElem?_cons_zero, List.getElem?_cons_succ] at zg_0 zg_1 zg_2
        have zw_0 := cell_of_row _ w6.heap.size 0 _ _ _ BW.out
        have zw_1 := cell_of_row _ w6.heap.size 1 _ _ _ BW.out
        have zw_2 := cell_of_row _ w6.heap.size 2 _ _ _ BW.out
        simp only [List.getElem?_toArray, List.getElem?_cons_zero, List.getElem?_cons_succ] at zw_0 zw_1 zw_2
        go_wp2_with fail
        clear zg_0 zg_1 zg_2
        clear zw_0 zw_1 zw_2
        refine HC.out.mono ?_
        rintro e w20 ⟨rfl, hb⟩
        clear HC
        have szw20 := hb.size
        replace F0 := Lib.hid (shModel.below F0.out hb (by omega))
        replace F1 := Lib.hid (F1.out.below hb (by omega))
        replace AB0 := Lib.hid ((hb.block w.heap.size (by omega)).trans AB0.out)
        replace W := Lib.hid (shGrads.below W.out hb (by omega))
        replace BW := Lib.hid ((hb.block w6.heap.size (by omega)).trans BW.out)
        replace BX0 := Lib.hid ((hb.block w8.heap.size (by omega)).trans BX0.out)
        replace G := Lib.hid (ownGrads.owns_keep G.out (.of_below hb fun b o f => by have := f.2; omega))
        replace BG := Lib.hid ((hb.block w11.heap.size (by omega)).trans BG.out)
        replace T := Lib.hid (T.out.trans (hb.mono (by omega)))
        clear hb
        have hc := markGrads_o _ _ _ v 1 G.out (fun b o f => Nat.lt_of_lt_of_le f.2 (by omega)) vb (by omega) (by rw [KV.out]; omega)
        rw [KV.out] at hc
        have HC := Lib.hid hc
        clear hc
        have zg_0 := cell_of_row _ w11.heap.size 0 _ _ _ BG.out
        have zg_1 := cell_of_row _ w11.heap.size 1 _ _ _ BG.out
        have zg_2 := cell_of_row _ w11.heap.size 2 _ _ _ BG.out
        simp only [List.getElem?_toArray, List.getElem?_cons_zero, List.getElem?_cons_succ] at zg_0 zg_1 zg_2
        go_wp2_with fail
        clear zg_0 zg_1 zg_2
        refine HC.out.mono ?_
        rintro e w22 ⟨rfl, ho, w21, hb, ht⟩
        clear HC
        have szw21 := hb.size
        replace F0 := Lib.hid (shModel.below F0.out hb (by omega))
        replace F1 := Lib.hid (F1.out.below hb (by omega))
        replace AB0 := Lib.hid ((hb.block w.heap.size (by omega)).trans AB0.out)
        replace W := Lib.hid (shGrads.below W.out hb (by omega))
        replace BW := Lib.hid ((hb.block w6.heap.size (by omega)).trans BW.out)
        replace BX0 := Lib.hid ((hb.block w8.heap.size (by omega)).trans BX0.out)
        replace BG := Lib.hid ((hb.block w11.heap.size (by omega)).trans BG.out)
        replace T := Lib.hid (T.out.trans (hb.mono (by omega)))
        clear hb
        have hq := ht.below (B := w10.heap.size) fun b o f => f.1
        replace F0 := Lib.hid (shModel.below F0.out hq (by omega))
        replace F1 := Lib.hid (F1.out.below hq (by omega))
        replace AB0 := Lib.hid ((ht.block w.heap.size fun o f => by have h1 := f.1; have h2 := f.2; omega).trans AB0.out)
        replace W := Lib.hid (shGrads.below W.out hq (by omega))
        replace BW := Lib.hid ((ht.block w6.heap.size fun o f => by have h1 := f.1; have h2 := f.2; omega).trans BW.out)
        replace BX0 := Lib.hid ((ht.block w8.heap.size fun o f => by have h1 := f.1; have h2 := f.2; omega).trans BX0.out)
        replace BG := Lib.hid ((ht.block w11.heap.size fun o f => by have h1 := f.1; have h2 := f.2; omega).trans BG.out)
        replace T := Lib.hid (T.out.trans (hq.mono (by omega)))
        have szt := ht.size
        clear hq
        have szw22 : w21.heap.size ≤ w22.heap.size := Nat.le_of_eq szt.symm
        replace G := Lib.hid ho
        clear ht szt ho
        have tv : decide ((1 : Int) + (kv : Int) < 0) = false := decide_eq_false (by omega)
        have tn : ((1 : Int) + (kv : Int) != 1 + (kv : Int)) = false := by simp
        have hc := heldGrads_o _ w11.heap.size _ v 1 (ownGrads.owns_reads (I := Under w11.heap.size) G.out fun b o f => f.2) (by omega) vb (by omega) (by rw [KV.out]; omega)
        rw [KV.out] at hc
        have HC := Lib.hid hc
        clear hc
        have zg_0 := cell_of_row _ w11.heap.size 0 _ _ _ BG.out
        have zg_1 := cell_of_row _ w11.heap.size 1 _ _ _ BG.out
        have zg_2 := cell_of_row _ w11.heap.size 2 _ _ _ BG.out
        simp only [List.getElem?_toArray, List.getElem?_cons_zero, List.getElem?_cons_succ] at zg_0 zg_1 zg_2
        go_wp2_with fail
        clear zg_0 zg_1 zg_2
        refine HC.out.mono ?_
        rintro e w23 ⟨rfl, hb⟩
        clear HC
        have szw23 := hb.size
        replace F0 := Lib.hid (shModel.below F0.out hb (by omega))
        replace F1 := Lib.hid (F1.out.below hb (by omega))
        replace AB0 := Lib.hid ((hb.block w.heap.size (by omega)).trans AB0.out)
        replace W := Lib.hid (shGrads.below W.out hb (by omega))
        replace BW := Lib.hid ((hb.block w6.heap.size (by omega)).trans BW.out)
        replace BX0 := Lib.hid ((hb.block w8.heap.size (by omega)).trans BX0.out)
        replace BG := Lib.hid ((hb.block w11.heap.size (by omega)).trans BG.out)
        replace G := Lib.hid (ownGrads.owns_keep G.out (.of_below hb fun b o f => by have := f.2; omega))
        replace T := Lib.hid (T.out.trans (hb.mono (by omega)))
        clear hb
        have HC := Lib.hid (toModel_c _ _ _ x0 F0.out (by omega) (by rw [U0.out]; omega))
        have za_0 := cell_of_row _ w.heap.size 0 _ _ _ AB0.out
        simp only [List.getElem?_toArray, List.getElem?_cons_zero, List.getElem?_cons_succ] at za_0
        go_wp2_with fail
        clear za_0
        refine HC.out.mono ?_
        rintro e w24 ⟨eH0, rfl, hr, hb⟩
        clear HC
        have szw24 := hb.size
        replace F0 := Lib.hid (shModel.below F0.out hb (by omega))
        replace F1 := Lib.hid (F1.out.below hb (by omega))
        replace AB0 := Lib.hid ((hb.block w.heap.size (by omega)).trans AB0.out)
        replace W := Lib.hid (shGrads.below W.out hb (by omega))
        replace BW := Lib.hid ((hb.block w6.heap.size (by omega)).trans BW.out)
        replace BX0 := Lib.hid ((hb.block w8.heap.size (by omega)).trans BX0.out)
        replace BG := Lib.hid ((hb.block w11.heap.size (by omega)).trans BG.out)
        replace G := Lib.hid (ownGrads.owns_keep G.out (.of_below hb fun b o f => by have := f.2; omega))
        replace T := Lib.hid (T.out.trans (hb.mono (by omega)))
        clear hb
        have hH0 := shModel.under hr
        obtain ⟨aH0_0, nH0_0, cH0_0, rfl, -⟩ := shModel_reads.1 hH0
        have H0 := Lib.hid hH0
        clear hr hH0
        have HC := Lib.hid (toPairS_c _ _ a1 n1 c1 x1 F1.out (by omega) (by rw [U1.out]; omega))
        go_wp2_with fail
        refine HC.out.mono ?_
        rintro e w25 ⟨rfl, hr, hb⟩
        clear HC
        have szw25 := hb.size
        replace F0 := Lib.hid (shModel.below F0.out hb (by omega))
        replace F1 := Lib.hid (F1.out.below hb (by omega))
        replace AB0 := Lib.hid ((hb.block w.heap.size (by omega)).trans AB0.out)
        replace W := Lib.hid (shGrads.below W.out hb (by omega))
        replace BW := Lib.hid ((hb.block w6.heap.size (by omega)).trans BW.out)
        replace BX0 := Lib.hid ((hb.block w8.heap.size (by omega)).trans BX0.out)
        replace BG := Lib.hid ((hb.block w11.heap.size (by omega)).trans BG.out)
        replace G := Lib.hid (ownGrads.owns_keep G.out (.of_below hb fun b o f => by have := f.2; omega))
        replace H0 := Lib.hid (shModel.below H0.out hb (by omega))
        replace T := Lib.hid (T.out.trans (hb.mono (by omega)))
        clear hb
        have H1 := Lib.hid hr.under
        clear hr
        have hc := implSequential_o _ _ x0 (shModel.le H0.out (by omega)) (by rw [U0.out]; omega) _ n1 n1 x1 (H1.out.le (by omega)) (Nat.le_refl _) (by omega) (by rw [U1.out]; omega) (HG.out.below hlt T.out)
        rw [HV.out] at hc
        have HC := Lib.hid hc
        clear hc
        go_wp2_with fail
        refine HC.out.mono ?_
        rintro e w26 ⟨eJ, rfl, hr, hb⟩
        clear HC
        have szw26 := hb.size
        replace F0 := Lib.hid (shModel.below F0.out hb (by omega))
        replace F1 := Lib.hid (F1.out.below hb (by omega))
        replace AB0 := Lib.hid ((hb.block w.heap.size (by omega)).trans AB0.out)
        replace W := Lib.hid (shGrads.below W.out hb (by omega))
        replace BW := Lib.hid ((hb.block w6.heap.size (by omega)).trans BW.out)
        replace BX0 := Lib.hid ((hb.block w8.heap.size (by omega)).trans BX0.out)
        replace BG := Lib.hid ((hb.block w11.heap.size (by omega)).trans BG.out)
        replace G := Lib.hid (ownGrads.owns_keep G.out (.of_below hb fun b o f => by have := f.2; omega))
        replace T := Lib.hid (T.out.trans (hb.mono (by omega)))
        clear hb
        obtain ⟨aJ_0, nJ_0, cJ_0, rfl, -⟩ := ownGrads_owns.1 hr
        have J := Lib.hid hr
        clear hr
        clear H0 H1
        have hb := (Below.refl w26.heap.size w26).alloc (Nat.le_refl _) (.cells #[.slice aJ_0 nJ_0 cJ_0, .int .i64 v.2.1, .bool v.2.2] 30 (0, 0))
        have hk := heap_alloc_new w26 (.cells #[.slice aJ_0 nJ_0 cJ_0, .int .i64 v.2.1, .bool v.2.2] 30 (0, 0))
        have szw27 : w26.heap.size < (w26.alloc (.cells #[.slice aJ_0 nJ_0 cJ_0, .int .i64 v.2.1, .bool v.2.2] 30 (0, 0))).heap.size := by simp
        obtain ⟨w27, hww27⟩ : ∃ W, w26.alloc (.cells #[.slice aJ_0 nJ_0 cJ_0, .int .i64 v.2.1, .bool v.2.2] 30 (0, 0)) = W := ⟨_, rfl⟩
        rw [hww27] at hb hk szw27
        replace F0 := Lib.hid (shModel.below F0.out hb (by omega))
        replace F1 := Lib.hid (F1.out.below hb (by omega))
        replace AB0 := Lib.hid ((hb.block w.heap.size (by omega)).trans AB0.out)
        replace W := Lib.hid (shGrads.below W.out hb (by omega))
        replace BW := Lib.hid ((hb.block w6.heap.size (by omega)).trans BW.out)
        replace BX0 := Lib.hid ((hb.block w8.heap.size (by omega)).trans BX0.out)
        replace BG := Lib.hid ((hb.block w11.heap.size (by omega)).trans BG.out)
        replace G := Lib.hid (ownGrads.owns_keep G.out (.of_below hb fun b o f => by have := f.2; omega))
        replace J := Lib.hid (ownGrads.owns_keep J.out (.of_below hb fun b o f => by have := f.2; omega))
        replace T := Lib.hid (T.out.trans (hb.mono (by omega)))
        have BJ := Lib.hid hk
        clear hb hk
        have HC := Lib.hid (eqGrads_c _ _ _ _ _ v (ownGrads.owns_reads (I := Under w26.heap.size) J.out fun b o f => f.2) W.out (by omega) (by omega) vb)
        have zg_0 := cell_of_row _ w26.heap.size 0 _ _ _ BJ.out
        have zg_1 := cell_of_row _ w26.heap.size 1 _ _ _ BJ.out
        have zg_2 := cell_of_row _ w26.heap.size 2 _ _ _ BJ.out
        simp only [List.getElem?_toArray, List.getElem?_cons_zero, List.getElem?_cons_succ] at zg_0 zg_1 zg_2
        have zw_0 := cell_of_row _ w6.heap.size 0 _ _ _ BW.out
        have zw_1 := cell_of_row _ w6.heap.size 1 _ _ _ BW.out
        have zw_2 := cell_of_row _ w6.heap.size 2 _ _ _ BW.out
        simp only [List.getElem?_toArray, List.getElem?_cons_zero, List.getElem?_cons_succ] at zw_0 zw_1 zw_2
        go_wp2_with fail
        clear hww27
        clear zg_0 zg_1 zg_2
        clear zw_0 zw_1 zw_2
        refine HC.out.mono ?_
        rintro e w28 ⟨rfl, hb⟩
        clear HC
        have szw28 := hb.size
        replace F0 := Lib.hid (shModel.below F0.out hb (by omega))
        replace F1 := Lib.hid (F1.out.below hb (by omega))
        replace AB0 := Lib.hid ((hb.block w.heap.size (by omega)).trans AB0.out)
        replace W := Lib.hid (shGrads.below W.out hb (by omega))
        replace BW := Lib.hid ((hb.block w6.heap.size (by omega)).trans BW.out)
        replace BX0 := Lib.hid ((hb.block w8.heap.size (by omega)).trans BX0.out)
        replace BG := Lib.hid ((hb.block w11.heap.size (by omega)).trans BG.out)
        replace G := Lib.hid (ownGrads.owns_keep G.out (.of_below hb fun b o f => by have := f.2; omega))
        replace J := Lib.hid (ownGrads.owns_keep J.out (.of_below hb fun b o f => by have := f.2; omega))
        replace BJ := Lib.hid ((hb.block w26.heap.size (by omega)).trans BJ.out)
        replace T := Lib.hid (T.out.trans (hb.mono (by omega)))
        clear hb
        have hc := heldGrads_o _ w11.heap.size _ v 1 (ownGrads.owns_reads (I := Under w11.heap.size) G.out fun b o f => f.2) (by omega) vb (by omega) (by rw [KV.out]; omega)
        rw [KV.out] at hc
        have HC := Lib.hid hc
        clear hc
        have zg_0 := cell_of_row _ w11.heap.size 0 _ _ _ BG.out
        have zg_1 := cell_of_row _ w11.heap.size 1 _ _ _ BG.out
        have zg_2 := cell_of_row _ w11.heap.size 2 _ _ _ BG.out
        simp only [List.getElem?_toArray, List.getElem?_cons_zero, List.getElem?_cons_succ] at zg_0 zg_1 zg_2
        go_wp2_with fail
        clear zg_0 zg_1 zg_2
        refine HC.out.mono ?_
        rintro e w29 ⟨rfl, hb⟩
        clear HC
        have szw29 := hb.size
        replace F0 := Lib.hid (shModel.below F0.out hb (by omega))
        replace F1 := Lib.hid (F1.out.below hb (by omega))
        replace AB0 := Lib.hid ((hb.block w.heap.size (by omega)).trans AB0.out)
        replace W := Lib.hid (shGrads.below W.out hb (by omega))
        replace BW := Lib.hid ((hb.block w6.heap.size (by omega)).trans BW.out)
        replace BX0 := Lib.hid ((hb.block w8.heap.size (by omega)).trans BX0.out)
        replace BG := Lib.hid ((hb.block w11.heap.size (by omega)).trans BG.out)
        replace G := Lib.hid (ownGrads.owns_keep G.out (.of_below hb fun b o f => by have := f.2; omega))
        replace J := Lib.hid (ownGrads.owns_keep J.out (.of_below hb fun b o f => by have := f.2; omega))
        replace BJ := Lib.hid ((hb.block w26.heap.size (by omega)).trans BJ.out)
        replace T := Lib.hid (T.out.trans (hb.mono (by omega)))
        clear hb
        go_wp2_with fail
        go_ret
        exact ⟨rfl, T.out⟩
    · have hk0 : (w.alloc (.cells #[.slice a0_0 n0_0 c0_0] 69 (0, 0))).heap[w.heap.size]? = some (.cells #[.slice a0_0 n0_0 c0_0] 69 (0, 0)) := by
        have := heap_alloc_new w (.cells #[.slice a0_0 n0_0 c0_0] 69 (0, 0))
        simpa using this
      have hb := (Below.refl w.heap.size w).alloc (Nat.le_refl _) (.cells #[.slice a0_0 n0_0 c0_0] 69 (0, 0))
      have szw1 : w.heap.size + 1 = (w.alloc (.cells #[.slice a0_0 n0_0 c0_0] 69 (0, 0))).heap.size := by simp
      go_enter Tryz.func7, Tryz.ntmps7
      go_wp2_with fail
      generalize (w.alloc (.cells #[.slice a0_0 n0_0 c0_0] 69 (0, 0))) = w1 at hb szw1 hk0 ⊢
      replace F0 := Lib.hid (shModel.below F0.out hb (by omega))
      replace F1 := Lib.hid (F1.out.below hb (by omega))
      replace T := Lib.hid (T.out.trans (hb.mono (by omega)))
      have AB0 := Lib.hid hk0
      clear hb hk0
      have hc := szModel_c _ _ _ x0 (1048576) F0.out (by omega) (by omega) (by omega)
      rw [U0.out, szN_yes (by omega)] at hc
      obtain ⟨l0, hl0⟩ : ∃ l, 1048576 - (u0 : Int) = l := ⟨_, rfl⟩
      rw [hl0] at hc
      have t0 : decide (l0 < 0) = false := decide_eq_false (by omega)
      have HC := Lib.hid hc
      clear hc
      refine HC.out.mono ?_
      rintro e w2 ⟨rfl, hb⟩
      clear HC
      have szw2 := hb.size
      replace F0 := Lib.hid (shModel.below F0.out hb (by omega))
      replace F1 := Lib.hid (F1.out.below hb (by omega))
      replace AB0 := Lib.hid ((hb.block w.heap.size (by omega)).trans AB0.out)
      replace T := Lib.hid (T.out.trans (hb.mono (by omega)))
      clear hb
      have hc := szPairS_c _ _ a1 n1 c1 x1 (l0) F1.out (by omega) m1 (by omega) (by omega)
      rw [U1.out, szN_no (by omega)] at hc
      have HC := Lib.hid hc
      clear hc
      go_wp2_with fail
      refine HC.out.mono ?_
      rintro e w3 ⟨rfl, hb⟩
      clear HC
      have szw3 := hb.size
      replace F0 := Lib.hid (shModel.below F0.out hb (by omega))
      replace F1 := Lib.hid (F1.out.below hb (by omega))
      replace AB0 := Lib.hid ((hb.block w.heap.size (by omega)).trans AB0.out)
      replace T := Lib.hid (T.out.trans (hb.mono (by omega)))
      clear hb
      go_wp2_with fail
      go_ret
      exact ⟨rfl, T.out⟩
  · have hk0 : (w.alloc (.cells #[.slice a0_0 n0_0 c0_0] 69 (0, 0))).heap[w.heap.size]? = some (.cells #[.slice a0_0 n0_0 c0_0] 69 (0, 0)) := by
      have := heap_alloc_new w (.cells #[.slice a0_0 n0_0 c0_0] 69 (0, 0))
      simpa using this
    have hb := (Below.refl w.heap.size w).alloc (Nat.le_refl _) (.cells #[.slice a0_0 n0_0 c0_0] 69 (0, 0))
    have szw1 : w.heap.size + 1 = (w.alloc (.cells #[.slice a0_0 n0_0 c0_0] 69 (0, 0))).heap.size := by simp
    go_enter Tryz.func7, Tryz.ntmps7
    go_wp2_with fail
    generalize (w.alloc (.cells #[.slice a0_0 n0_0 c0_0] 69 (0, 0))) = w1 at hb szw1 hk0 ⊢
    replace F0 := Lib.hid (shModel.below F0.out hb (by omega))
    replace F1 := Lib.hid (F1.out.below hb (by omega))
    replace T := Lib.hid (T.out.trans (hb.mono (by omega)))
    have AB0 := Lib.hid hk0
    clear hb hk0
    have hc := szModel_c _ _ _ x0 (1048576) F0.out (by omega) (by omega) (by omega)
    rw [U0.out, szN_no (by omega)] at hc
    have HC := Lib.hid hc
    clear hc
    refine HC.out.mono ?_
    rintro e w2 ⟨rfl, hb⟩
    clear HC
    have szw2 := hb.size
    replace F0 := Lib.hid (shModel.below F0.out hb (by omega))
    replace F1 := Lib.hid (F1.out.below hb (by omega))
    replace AB0 := Lib.hid ((hb.block w.heap.size (by omega)).trans AB0.out)
    replace T := Lib.hid (T.out.trans (hb.mono (by omega)))
    clear hb
    go_wp2_with fail
    go_ret
    exact ⟨rfl, T.out⟩
end Go.Proofs.YtpnifgpmleaohaaGreatDoor

end

/-! YtpnifgpmleaohaaGreatDoorLaws -/
section

namespace Go.Proofs.YtpnifgpmleaohaaGreatDoor
open Go.RowKit
set_option linter.unusedVariables false

theorem big_no (a : Option Addr) (cap : Nat) (bs : List UInt8) (hroom : bs.length ≤ 1048576) (w : World) :
    Calls Tryz.prog 10 #[.slice a bs.length cap] w fun e w' => e = .returned (.bool false) ∧ w = w' := by
  have hd : decide (1048576 < (bs.length : Int)) = false := by simp; omega
  go_enter Tryz.func10, Tryz.ntmps10
  go_wp2
  go_ret
  exact ⟨rfl, rfl⟩
theorem big_yes (a : Option Addr) (len cap : Nat) (hbig : 1048576 < len) (hm : len ≤ 9223372036854775807) (w : World) :
    Calls Tryz.prog 10 #[.slice a len cap] w fun e w' => e = .returned (.bool true) ∧ w = w' := by
  have hd : decide (1048576 < (len : Int)) = true := by simp; omega
  go_enter Tryz.func10, Tryz.ntmps10
  go_wp2
  go_ret
  exact ⟨rfl, rfl⟩
/-- A slice of bytes that came in, as a code. -/
theorem codeRow (W : World) (x : Addr) (len : Nat) (zs : List Int) (hl : len ≤ zs.length) (hcell : ∀ i, i < zs.length → W.cell? (x.add i) = some (.int .u8 (zs.getD i 0))) (hwz : ∀ n ∈ zs, (Lit.int .u8 n).wf = true) :
    ∃ bs : List UInt8, bs.length = len ∧ ∀ j (hj : j < bs.length), ∃ b o, (some x : Option Addr) = some ⟨b, o, none⟩ ∧ b < W.heap.size ∧ W.cell? ⟨b, o + j, none⟩ = some (.int .u8 (bs[j].toNat : Int)) := by
  refine ⟨(zs.take len).map (fun n => UInt8.ofNat n.toNat), by simp [hl], fun j hj => ?_⟩
  have hj' : j < len := by simpa [hl] using hj
  obtain ⟨b, off, spot⟩ := x
  have hc := hcell j (by omega)
  have hspot : spot = none := by
    have := World.cell?_spot (hcell 0 (by omega))
    simpa [Addr.add] using this
  subst hspot
  rw [Addr.add_lit] at hc
  have hg : zs.getD j 0 = zs[j] := by simp [List.getD, (by omega : j < zs.length)]
  have hb := bounds_u8 (hwz zs[j] (List.getElem_mem _))
  refine ⟨b, off, rfl, World.block_lt_of_cell? W _ hc, ?_⟩
  rw [hc, hg]
  have e : ((zs.take len).map (fun n => UInt8.ofNat n.toNat))[j] = UInt8.ofNat zs[j].toNat := by simp
  rw [e, u8_ofNat_toNat _ (by omega)]
  congr 2
  omega
theorem CodeIn.le {B B' : Nat} {w : World} {a : Option Addr} {bs : List UInt8} (h : CodeIn B w a bs) (hB : B ≤ B') : CodeIn B' w a bs :=
  ⟨h.room, fun j hj => by
    obtain ⟨b, o, e1, e2, e3⟩ := h.code j hj
    exact ⟨b, o, e1, Nat.lt_of_lt_of_le e2 hB, e3⟩⟩
/-- A law over a code that is too long, and over one that is not. -/
theorem law_of (F : FuncId) (w : World) (a : Option Addr) (len cap : Nat) (hm : len ≤ 9223372036854775807)
    (hb : ∃ bs : List UInt8, bs.length = len ∧ ∀ j (hj : j < bs.length), ∃ b o, a = some ⟨b, o, none⟩ ∧ b < w.heap.size ∧ w.cell? ⟨b, o + j, none⟩ = some (.int .u8 (bs[j].toNat : Int)))
    (hbig : 1048576 < len → Calls Tryz.prog F #[.slice a len cap] w fun e w' => e = .returned (.bool true) ∧ Below w.heap.size w w')
    (hsmall : ∀ bs : List UInt8, CodeIn w.heap.size w a bs → Calls Tryz.prog F #[.slice a bs.length cap] w fun e w' => e = .returned (.bool true) ∧ Below w.heap.size w w') :
    Calls Tryz.prog F #[.slice a len cap] w fun e w' => e = .returned (.bool true) ∧ Below w.heap.size w w' := by
  by_cases h : 1048576 < len
  · exact hbig h
  · obtain ⟨bs, rfl, hcode⟩ := hb
    exact hsmall bs ⟨by omega, hcode⟩
end Go.Proofs.YtpnifgpmleaohaaGreatDoor

end

/-! YtpnifgpmleaohaaGreatDoorDrawMat -/
section

namespace Go.Proofs.YtpnifgpmleaohaaGreatDoor
open Go.RowKit
set_option linter.unusedVariables false

/-- A table was drawn. -/
def DrewM (B : Nat) (w : World) (C : Nat) (e : Ending) (w' : World) : Prop := ∃ r c v xs, e = .returned (.agg #[.int .i64 r, .int .i64 c, v]) ∧ xs.length ≤ 9 ∧ Row w.heap.size w' v xs ∧ Turned B w w' C
theorem grownBy_setCell (w : World) (a : Addr) (u : Value) : w.grownBy (w.setCell a u) (some a.block) :=
  ⟨rfl, rfl, rfl, by simp [World.setCell], fun k _ hk => heap_setCell_other w a k u (fun e => hk (by rw [e]))⟩
theorem Turned.setCell {B : Nat} {w w1 : World} {C : Nat} (h : Turned B w w1 C) (hC : C < w.heap.size) (a : Addr) (u : Value) (ha : w.heap.size ≤ a.block) : Turned B w (w1.setCell a u) C :=
  h.store hC (grownBy_setCell w1 a u) ha
theorem Turned.block {B : Nat} {w w1 : World} {C : Nat} (h : Turned B w w1 C) {k : Nat} (hk : k < w.heap.size) (hne : k ≠ C) : w1.heap[k]? = w.heap[k]? := h.2.block k hk (fun e => hne (Option.some.inj e))

theorem l3Vec_i (B : Nat) (w : World) (C : Nat) (n : Int) (h0 : 0 ≤ n) (h1 : n ≤ 6) (hc : Cu B w C) :
    Calls Tryz.prog 65 #[.pointer (some ⟨C, 0, none⟩), .int .i64 n] w (DrewV (fun xs => (xs.length : Int) ≤ 6) B w C) := by
  obtain ⟨m, rfl⟩ : ∃ m : Nat, n = m := ⟨n.toNat, by omega⟩
  exact (l3Vec_e B w C m (by omega) hc).mono fun e w' ⟨v, xs, he, hl, hr, ht⟩ => ⟨v, xs, he, by show (xs.length : Int) ≤ 6; omega, hr, ht⟩
/-- A table and a row were drawn. -/
def DrewMB (w : World) (e : Ending) (w' : World) : Prop := ∃ r c v xs u ys, e = .returned (.tuple #[.agg #[.int .i64 r, .int .i64 c, v], u]) ∧ (xs.length ≤ 9 ∧ ys.length ≤ 7) ∧ Row w.heap.size w' v xs ∧ Row w.heap.size w' u ys ∧ Below w.heap.size w w'
end Go.Proofs.YtpnifgpmleaohaaGreatDoor

end
