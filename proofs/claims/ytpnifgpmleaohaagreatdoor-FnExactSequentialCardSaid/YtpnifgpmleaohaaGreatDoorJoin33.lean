import Derived.Test.YtpnifgpmleaohaaGreatDoorJoin31
import Derived.Test.YtpnifgpmleaohaaGreatDoorJoin32
import Derived.Deep.RegionLaw
import Derived.Test.YtpnifgpmleaohaaGreatDoorJoin15
import Derived.Test.YtpnifgpmleaohaaGreatDoorJoin19
/-! YtpnifgpmleaohaaGreatDoorSeqQ -/
section

namespace Go.Proofs.YtpnifgpmleaohaaGreatDoor
open Go.RowKit Go.Sort
set_option linter.unusedVariables false

theorem pair_at {l : List dPair} {j : Nat} (h : j < l.length) : l[j]? = some (pairAt l j) := by
  rw [List.getElem?_eq_getElem h, pairAt_get (List.getElem?_eq_getElem h)]
theorem set3_other {w : World} {g b : Nat} (x y z : Value) (h : b ≠ g) : (((w.setCell ⟨g, 0, none⟩ x).setCell ⟨g, 1, none⟩ y).setCell ⟨g, 2, none⟩ z).heap[b]? = w.heap[b]? :=
  (heap_setCell_other _ _ _ _ h).trans ((heap_setCell_other _ _ _ _ h).trans (heap_setCell_other _ _ _ _ h))
theorem set3_size {w : World} {g : Nat} (x y z : Value) : (((w.setCell ⟨g, 0, none⟩ x).setCell ⟨g, 1, none⟩ y).setCell ⟨g, 2, none⟩ z).heap.size = w.heap.size := by simp
theorem set3_below {B g : Nat} {w w' : World} (h : Below B w w') (hg : B ≤ g) (x y z : Value) : Below B w (((w'.setCell ⟨g, 0, none⟩ x).setCell ⟨g, 1, none⟩ y).setCell ⟨g, 2, none⟩ z) :=
  ((h.setCell (p := ⟨g, 0, none⟩) hg x).setCell (p := ⟨g, 1, none⟩) hg y).setCell (p := ⟨g, 2, none⟩) hg z
set_option maxRecDepth 100000 in
set_option maxHeartbeats 6400000 in
theorem specSequential_o (w : World) (es : List Value) (m : dModel) (h : shModel.reads (Under w.heap.size) w es m) (hb : shModel.bulk m ≤ 1048576) (a' : Option Addr) (n' c' : Nat) (ps : List dPair) (h' : ListAt shPair (Under w.heap.size) w a' n' ps) (g1 : n' ≤ c') (g2 : c' ≤ 9223372036854775807) (hb' : (Shape.list shPair).bulk ps ≤ 1048576) :
    Calls Tryz.prog 49 #[.agg es.toArray, .slice a' n' c'] w fun e w' => ∃ es', e = .returned (.agg es'.toArray) ∧ shGrads.reads (From w.heap.size w'.heap.size) w' es' (seqG m ps) ∧ Below w.heap.size w w' := by
  obtain ⟨a, n, c, rfl, hc1, hc2, hl⟩ := shModel_reads.1 h
  have hlp := h'.1
  have hal2 : Below w.heap.size w ((w.alloc (.cells #[.slice a n c] 50 (0, 0))).alloc (.cells #[.slice none 0 0, .int .i64 0, .bool false] 30 (0, 0))) := ((Below.refl _ _).alloc (Nat.le_refl _) _).alloc (by simp) _
  have hA : ((w.alloc (.cells #[.slice a n c] 50 (0, 0))).alloc (.cells #[.slice none 0 0, .int .i64 0, .bool false] 30 (0, 0))).heap[w.heap.size]? = some (.cells #[.slice a n c] 50 (0, 0)) := by
    rw [Below.heap_alloc _ _ _ (by simp)]
    exact heap_alloc_new w _
  have hZ : ((w.alloc (.cells #[.slice a n c] 50 (0, 0))).alloc (.cells #[.slice none 0 0, .int .i64 0, .bool false] 30 (0, 0))).heap[w.heap.size + 1]? = some (.cells #[.slice none 0 0, .int .i64 0, .bool false] 30 (0, 0)) := by
    have := heap_alloc_new (w.alloc (.cells #[.slice a n c] 50 (0, 0))) (.cells #[.slice none 0 0, .int .i64 0, .bool false] 30 (0, 0))
    simpa using this
  have hs2 : w.heap.size + 2 = ((w.alloc (.cells #[.slice a n c] 50 (0, 0))).alloc (.cells #[.slice none 0 0, .int .i64 0, .bool false] 30 (0, 0))).heap.size := by simp
  have HL := Lib.hid hl
  have HP := Lib.hid h'
  have HBM := Lib.hid hb
  have HBP := Lib.hid hb'
  have HA := Lib.hid hA
  have HZ := Lib.hid hZ
  have H2 := Lib.hid hal2
  obtain ⟨k, hk⟩ : ∃ k, batchOkB m ps = k := ⟨_, rfl⟩
  have HK := Lib.hid hk
  have hmr : ∀ (w1 : World), Below w.heap.size w w1 → shModel.reads (Under w1.heap.size) w1 [.slice a n c] m := fun w1 hb1 => shModel_reads.2 ⟨a, n, c, rfl, hc1, hc2, (hl.below hb1 (Nat.le_refl _)).le hb1.size⟩
  have HMR := Lib.hid hmr
  clear h hl h' hb hb' hA hZ hal2 hk hmr
  go_enter Tryz.func49, Tryz.ntmps49
  go_wp2_with fail
  generalize hw2 : (w.alloc (.cells #[.slice a n c] 50 (0, 0))).alloc (.cells #[.slice none 0 0, .int .i64 0, .bool false] 30 (0, 0)) = w2 at HA HZ H2 hs2 ⊢
  clear hw2
  have hC := specBatchOk_c w2 a n c m ((HL.out.below H2.out (Nat.le_refl _)).le H2.out.size) hc1 hc2 HBM.out a' n' c' ps ((HP.out.below H2.out (Nat.le_refl _)).le H2.out.size) (Nat.le_trans HBP.out (by decide))
  rw [HK.out] at hC
  refine hC.mono ?_
  rintro e w3 ⟨rfl, hb3⟩
  have hs3 := hb3.size
  have h3 := Lib.hid (H2.out.trans (hb3.mono H2.out.size))
  have HA3 := Lib.hid ((hb3.block w.heap.size (by omega)).trans HA.out)
  have HZ3 := Lib.hid ((hb3.block (w.heap.size + 1) (by omega)).trans HZ.out)
  clear hC hb3 HA HZ
  have z0 := box1 HA3.out
  cases k
  · obtain ⟨⟨d0, d1, d2⟩, f0, f1, f2⟩ := cellsG HZ3.out
    go_wp2_with fail
    refine bodyPost_ret (results_cell_row rfl _ _ (w.heap.size + 1) 30 #[.slice none 0 0, .int .i64 0, .bool false] (0, 0) _ rfl (store3 HZ3.out _ _ _) Tryz.underlying30 rfl (by kernel_rfl)) rfl ?_
    have hmg : seqG m ps = dNone := by unfold seqG; rw [HK.out]; rfl
    refine ⟨[.slice none 0 0, .int .i64 0, .bool false], rfl, ?_, ((h3.out.setCell (p := ⟨w.heap.size + 1, 0, none⟩) (by show _ ≤ w.heap.size + 1; omega) _).setCell (p := ⟨w.heap.size + 1, 1, none⟩) (by show _ ≤ w.heap.size + 1; omega) _).setCell (p := ⟨w.heap.size + 1, 2, none⟩) (by show _ ≤ w.heap.size + 1; omega) _⟩
    rw [hmg]
    exact shGrads_reads.2 ⟨none, 0, 0, rfl, Nat.le_refl _, by omega, rfl, fun j x hx => by simp [dNone] at hx⟩
  · have HC := Lib.hid (specZeroGrads_o w3 [.slice a n c] m (HMR.out w3 h3.out) HBM.out)
    go_wp2_with fail
    refine HC.out.mono ?_
    rintro e w4 ⟨e4, rfl, hr4, hb4⟩
    obtain ⟨a4, n4, c4, rfl, -⟩ := shGrads_reads.1 hr4
    have hs4 := hb4.size
    have h4 := h3.out.trans (hb4.mono h3.out.size)
    have hA4 := (hb4.block w.heap.size (by omega)).trans HA3.out
    have hZ4 := (hb4.block (w.heap.size + 1) (by omega)).trans HZ3.out
    have hp5 : Below w4.heap.size w4 (w4.alloc (.cells #[.slice a4 n4 c4, .int .i64 (zeroG m).2.1, .bool (zeroG m).2.2] 30 (0, 0))) := (Below.refl _ _).alloc (Nat.le_refl _) _
    have hs5 : (w4.alloc (.cells #[.slice a4 n4 c4, .int .i64 (zeroG m).2.1, .bool (zeroG m).2.2] 30 (0, 0))).heap.size = w4.heap.size + 1 := by simp
    have hG5 := heap_alloc_new w4 (.cells #[.slice a4 n4 c4, .int .i64 (zeroG m).2.1, .bool (zeroG m).2.2] 30 (0, 0))
    have hb5 := hb4.trans (hp5.mono hs4)
    have h5 := h3.out.trans (hb5.mono h3.out.size)
    have HA5 := Lib.hid ((hp5.block w.heap.size (by omega)).trans hA4)
    have HZ5 := Lib.hid ((hp5.block (w.heap.size + 1) (by omega)).trans hZ4)
    have H5 := Lib.hid h5
    have HG5 := Lib.hid hG5
    have HR5 := Lib.hid (shGrads.sub (shGrads.keep hr4 (w' := w4.alloc (.cells #[.slice a4 n4 c4, .int .i64 (zeroG m).2.1, .bool (zeroG m).2.2] 30 (0, 0))) fun b hb => hp5.block b hb.2) (J := fun b => w.heap.size + 2 ≤ b ∧ b < w4.heap.size + 1 ∧ b ≠ w4.heap.size) fun b hb => ⟨by have := hb.1; omega, by have := hb.2; omega, by have := hb.2; omega⟩)
    have hq5 : seqG m ps = seqK m ps n' := by unfold seqG; rw [HK.out, if_pos rfl, hlp]
    have HQ5 := Lib.hid hq5
    clear hr4 hb4 h4 hA4 hZ4 hp5 hG5 hb5 h5 hq5 z0 HC
    go_wp2_with fail
    generalize hw5 : w4.alloc (.cells #[.slice a4 n4 c4, .int .i64 (zeroG m).2.1, .bool (zeroG m).2.2] 30 (0, 0)) = w5 at HA5 HZ5 H5 HG5 HR5 hs5 ⊢
    clear hw5
    go_loopw [6] (fun i wr => ∃ (k : Nat) (ag : Option Addr) (ng cg : Nat), k ≤ n' ∧ i = .int .i64 k ∧ wr.heap[w4.heap.size]? = some (.cells #[.slice ag ng cg, .int .i64 (seqK m ps k).2.1, .bool (seqK m ps k).2.2] 30 (0, 0)) ∧ shGrads.reads (fun b => w.heap.size + 2 ≤ b ∧ b < wr.heap.size ∧ b ≠ w4.heap.size) wr [.slice ag ng cg, .int .i64 (seqK m ps k).2.1, .bool (seqK m ps k).2.2] (seqK m ps k) ∧
      wr.heap[w.heap.size]? = some (.cells #[.slice a n c] 50 (0, 0)) ∧ wr.heap[w.heap.size + 1]? = some (.cells #[.slice none 0 0, .int .i64 0, .bool false] 30 (0, 0)) ∧ w4.heap.size + 1 ≤ wr.heap.size ∧ Below w.heap.size w wr) (fun i _ => n' - (intOf i).toNat)
    case atStart => exact ⟨0, a4, n4, c4, Nat.zero_le _, rfl, HG5.out, by rw [hs5]; exact HR5.out, HA5.out, HZ5.out, Nat.le_of_eq hs5.symm, H5.out⟩
    case round =>
      obtain ⟨k, ag, ng, cg, hk, rfl, hgb, hgr, hab, hzb, hsr, hbw⟩ := hrel
      obtain ⟨G, hG⟩ : ∃ G, seqK m ps k = G := ⟨_, rfl⟩
      have hGb : shGrads.bulk G ≤ 1048576 := by rw [← hG]; exact seqK_bulk m ps k
      rw [hG] at hgb hgr
      have z0 := box1 hab
      obtain ⟨⟨d0, d1, d2⟩, f0, f1, f2⟩ := cellsG hgb
      have HGB := Lib.hid hgb
      have HGR := Lib.hid hgr
      have HAB := Lib.hid hab
      have HZB := Lib.hid hzb
      have HBW := Lib.hid hbw
      have HG := Lib.hid hG
      have hsz := hbw.size
      by_cases hlt : k < n'
      · obtain ⟨x, hx⟩ : ∃ x, ps[k]? = some x := ⟨_, List.getElem?_eq_getElem (by rw [hlp]; exact hlt)⟩
        obtain ⟨b1, o1, es, rfl, hbB1, hr, hs⟩ := HP.out.2 k x hx
        have hrr := rangeAt_kept hr (show b1 < w.heap.size from hbB1) (Kept.of_below (I := Under w.heap.size) hbw fun b hb => hb)
        have hdr : Below w.heap.size w wr.drew := hbw.trans ⟨rfl, rfl, rfl, Nat.le_refl _, fun _ _ => rfl⟩
        have hsw := shPair.le (shPair.below hs hdr (Nat.le_refl _)) hdr.size
        have hbx' : shPair.bulk x ≤ 1048576 := by have h1 := bulk_mem shPair.bulk ps k x hx; have h2 := HBP.out; rw [bulk_list _ HP.out] at h2; omega
        obtain ⟨ax, nx, cx, at', nt, ct, rfl, -⟩ := shPair_reads.1 hs
        have HC1 := Lib.hid (specMicroGrads_o wr.drew [.slice a n c] m (HMR.out wr.drew hdr) HBM.out _ x hsw hbx')
        obtain ⟨M, hM⟩ : ∃ M, microG m x = M := ⟨_, rfl⟩
        have hMb : shGrads.bulk M ≤ 1048576 := by rw [← hM]; exact micro_small m x
        rw [hM] at HC1
        have hnext : seqK m ps (k + 1) = addG G M := by
          show addG (seqK m ps k) (microG m (pairAt ps k)) = _
          rw [hG, pairAt_get hx, hM]
        have HNX := Lib.hid hnext
        have HC2 := Lib.hid fun (wt : World) (eg : List Value) (hb : Below wr.drew.heap.size wr.drew wt) (hr : shGrads.reads (From wr.drew.heap.size wt.heap.size) wt eg M) =>
          specAddGrads_o wt [.slice ag ng cg, .int .i64 G.2.1, .bool G.2.2] G (shGrads.sub (shGrads.keep HGR.out (w' := wt) fun b h => hb.block b h.2.1) fun b h => Nat.lt_of_lt_of_le h.2.1 hb.size) hGb eg M (shGrads.under hr) hMb
        rw [shPair_size] at hrr
        have e0 := hrr 0 _ rfl
        have e1 := hrr 1 _ rfl
        simp only [Nat.add_zero] at e0
        clear hr hrr hs hsw hx hbx' hdr hnext hM hG hgb hgr hab hzb hbw hbB1
        go_wp2_with fail
        go_region_law (first
          | (go_simp; go_at_call 38; (with_reducible refine HC1.out.mono ?_); rintro e wt ⟨eg, rfl, hr, hb⟩; have hq := HC2.out wt eg hb hr; obtain ⟨aq, nq, cq, rfl, -⟩ := shGrads_reads.1 hr; obtain ⟨⟨t0, t1, t2⟩, -⟩ := cellsG ((hb.block w4.heap.size hsr).trans HGB.out); have HQ := Lib.hid hq; have HBT := Lib.hid hb; clear hb hr hq)
          | (go_simp; go_at_call 118; (with_reducible refine HQ.out.mono ?_); rintro e wu ⟨eh, rfl, hr, hb⟩; obtain ⟨ah, nh, ch, rfl, -⟩ := shGrads_reads.1 hr; have hbu : Below wr.heap.size wr wu := ((Below.refl wr.heap.size wr).drew).trans (HBT.out.trans (hb.mono HBT.out.size)); have hgu := (hbu.block w4.heap.size hsr).trans HGB.out; obtain ⟨⟨q0, q1, q2⟩, p0, p1, p2⟩ := cellsG hgu; have HGU := Lib.hid hgu; have HBU := Lib.hid hbu; have HRU := Lib.hid hr; have HTS := Lib.hid HBT.out.size; clear hb hr hbu hgu))
        all_goals
          go_wp2_with fail
          go_roundw
          case rel =>
            have hts : wr.heap.size ≤ wt.heap.size := HTS.out
            have hus := HBU.out.size
            refine ⟨k + 1, ah, nh, ch, by omega, by go_num, ?_, ?_, ?_, ?_, ?_, ?_⟩
            · rw [HNX.out]
              exact store3 HGU.out _ _ _
            · rw [HNX.out, set3_size]
              exact shGrads.sub (shGrads.keep HRU.out fun b hb => set3_other _ _ _ (by have := hb.1; omega)) fun b hb => ⟨by have := hb.1; omega, hb.2, by have := hb.1; omega⟩
            · exact (set3_other _ _ _ (by omega)).trans ((HBU.out.block w.heap.size (by omega)).trans HAB.out)
            · exact (set3_other _ _ _ (by omega)).trans ((HBU.out.block (w.heap.size + 1) (by omega)).trans HZB.out)
            · rw [set3_size]
              omega
            · exact set3_below (HBW.out.trans (HBU.out.mono hsz)) (by omega) _ _ _
          case measure => simp [intOf]; omega
      · obtain rfl : k = n' := by omega
        obtain ⟨⟨y0, y1, y2⟩, l0, l1, l2⟩ := cellsG hzb
        clear hgb hgr hab hzb hbw
        go_wp2_with fail
        refine bodyPost_ret (results_cell_row rfl _ _ (w.heap.size + 1) 30 #[.slice ag ng cg, .int .i64 G.2.1, .bool G.2.2] (0, 0) _ rfl (store3 HZB.out _ _ _) Tryz.underlying30 rfl (by kernel_rfl)) rfl ?_
        refine ⟨[.slice ag ng cg, .int .i64 G.2.1, .bool G.2.2], rfl, ?_, set3_below HBW.out (by omega) _ _ _⟩
        rw [HQ5.out, HG.out, set3_size]
        exact shGrads.sub (shGrads.keep HGR.out fun b hb => set3_other _ _ _ (by have := hb.1; omega)) fun b hb => ⟨by have := hb.1; omega, hb.2.1⟩
end Go.Proofs.YtpnifgpmleaohaaGreatDoor

end

/-! YtpnifgpmleaohaaGreatDoorSeqJ -/
section

namespace Go.Proofs.YtpnifgpmleaohaaGreatDoor
open Go.RowKit Go.Sort
set_option linter.unusedVariables false

theorem zeroRows_good (m : List dOp) : zeroRows m = listK (fun j => noughts (opAt (goodN m) j).2.2.2.length) (goodN m).length := by
  unfold zeroRows goodN
  cases modelOkB m <;> rfl
def GoodIn (B : Nat) (w : World) (m : List dOp) (e : Ending) (w' : World) : Prop := ∃ (a : Option Addr) (n c : Nat), e = .returned (.agg #[.slice a n c]) ∧ ListAt shOp (Under B) w a n (goodN m) ∧ n ≤ c ∧ c ≤ 9223372036854775807 ∧ Below w.heap.size w w'
set_option maxRecDepth 100000 in
set_option maxHeartbeats 3200000 in
/-- modelOf hands back what it was handed, or nothing. -/
theorem implModelOf_b (w : World) (B : Nat) (hB : B ≤ w.heap.size) (a : Option Addr) (n c : Nat) (m : List dOp) (h : ListAt shOp (Under B) w a n m) (hc1 : n ≤ c) (hc2 : c ≤ 9223372036854775807) (hb : (Shape.list shOp).bulk m ≤ 1048576) :
    Calls Tryz.prog 90 #[.agg #[.slice a n c]] w fun e w' => GoodIn B w m e w' := by
  have hal : Below w.heap.size w ((w.alloc (.cells #[.slice a n c] 50 (0, 0))).alloc (.cells #[.slice none 0 0] 132 (0, 0))) := ((Below.refl _ _).alloc (Nat.le_refl _) _).alloc (by simp) _
  have hs0 : w.heap.size + 1 < ((w.alloc (.cells #[.slice a n c] 50 (0, 0))).alloc (.cells #[.slice none 0 0] 132 (0, 0))).heap.size := by simp
  have HLI := Lib.hid (implLinked_c _ a n c m (((h.le hB).below hal (Nat.le_refl _)).le hal.size) hb)
  have HL := Lib.hid h
  have hlen := h.1
  have HA := Lib.hid hal
  clear h hb hal
  by_cases h8 : 8 < n
  · have hg : decide ((n : Int) > 8) = true := decide_eq_true (by omega)
    have HE := Lib.hid (goodN_big (by rw [hlen]; exact h8))
    go_enter Tryz.func90, Tryz.ntmps90
    go_wp2_with fail
    refine bodyPost_ret (results_cell_row rfl _ _ (w.heap.size + 1) 132 #[.slice none 0 0] (0, 0) _ rfl ?_ Tryz.underlying132 rfl (by kernel_rfl)) rfl ?_
    · have := heap_alloc_new (w.alloc (.cells #[.slice a n c] 50 (0, 0))) (.cells #[.slice none 0 0] 132 (0, 0))
      simpa using this
    exact ⟨none, 0, 0, rfl, by rw [HE.out]; exact noList _ _, Nat.le_refl _, by omega, HA.out⟩
  · have hg : decide ((n : Int) > 8) = false := decide_eq_false (by omega)
    have hz := heap_alloc_new (w.alloc (.cells #[.slice a n c] 50 (0, 0))) (.cells #[.slice none 0 0] 132 (0, 0))
    rw [size_one] at hz
    cases hp : linkedB m with
    | false =>
      rw [hp] at HLI
      have HE := Lib.hid (goodN_bad hp)
      clear hp
      go_enter Tryz.func90, Tryz.ntmps90
      go_wp2_with fail
      refine HLI.out.mono ?_
      rintro e w1 ⟨rfl, hb⟩
      have HZ := Lib.hid ((hb.block _ hs0).trans hz)
      have HB := Lib.hid (HA.out.trans (hb.mono HA.out.size))
      have zb : w1.cell? ⟨w.heap.size + 1, 0, none⟩ = _ := cell_of_row _ _ _ _ _ _ HZ.out
      have fb : w1.frozen? ⟨w.heap.size + 1, 0, none⟩ = false := frozen_of_row _ _ _ _ _ HZ.out
      simp only [List.getElem?_toArray, List.getElem?_cons_zero] at zb
      clear hb hz
      go_wp2_with fail
      refine bodyPost_ret (results_cell_row rfl _ _ (w.heap.size + 1) 132 #[.slice none 0 0] (0, 0) _ rfl ?_ Tryz.underlying132 rfl (by kernel_rfl)) rfl ?_
      · simpa using heap_setCell_same w1 (w.heap.size + 1) 0 _ _ (.slice none 0 0) HZ.out
      exact ⟨none, 0, 0, rfl, by rw [HE.out]; exact noList _ _, Nat.le_refl _, by omega, HB.out.setCell (p := ⟨w.heap.size + 1, 0, none⟩) (by show w.heap.size ≤ w.heap.size + 1; omega) _⟩
    | true =>
      rw [hp] at HLI
      have HE := Lib.hid (goodN_good hp (by omega))
      clear hp
      go_enter Tryz.func90, Tryz.ntmps90
      go_wp2_with fail
      refine HLI.out.mono ?_
      rintro e w1 ⟨rfl, hb⟩
      have HZ := Lib.hid ((hb.block _ hs0).trans hz)
      have HB := Lib.hid (HA.out.trans (hb.mono HA.out.size))
      have zb : w1.cell? ⟨w.heap.size + 1, 0, none⟩ = _ := cell_of_row _ _ _ _ _ _ HZ.out
      have fb : w1.frozen? ⟨w.heap.size + 1, 0, none⟩ = false := frozen_of_row _ _ _ _ _ HZ.out
      simp only [List.getElem?_toArray, List.getElem?_cons_zero] at zb
      clear hb hz
      go_wp2_with fail
      refine bodyPost_ret (results_cell_row rfl _ _ (w.heap.size + 1) 132 #[.slice a n c] (0, 0) _ rfl ?_ Tryz.underlying132 rfl (by kernel_rfl)) rfl ?_
      · simpa using heap_setCell_same w1 (w.heap.size + 1) 0 _ _ (.slice a n c) HZ.out
      exact ⟨a, n, c, rfl, by rw [HE.out]; exact HL.out, hc1, hc2, HB.out.setCell (p := ⟨w.heap.size + 1, 0, none⟩) (by show w.heap.size ≤ w.heap.size + 1; omega) _⟩
theorem ownGrads_stored {F : Foot} {w w' : World} {es : List Value} {x : dGrads} (h : ownGrads.owns F w es x) (hs : SameAt F w w') : ownGrads.owns F w' es x := ownGrads.owns_keep h hs
set_option maxRecDepth 100000 in
set_option maxHeartbeats 6400000 in
theorem implZeroGrads_o (w : World) (es : List Value) (m : dModel) (h : shModel.reads (Under w.heap.size) w es m) (hb : shModel.bulk m ≤ 1048576) :
    Calls Tryz.prog 23 #[.agg es.toArray] w fun e w' => ∃ es', e = .returned (.agg es'.toArray) ∧ ownGrads.owns (FromB w.heap.size w'.heap.size) w' es' (zeroG m) ∧ Below w.heap.size w w' := by
  obtain ⟨a, n, c, rfl, hc1, hc2, hl⟩ := shModel_reads.1 h
  obtain ⟨i0, hi, hz0, hz1, hz2⟩ := info_parts infoRow1
  have hbx := Boxes.start w #[.slice a n c] #[.slice none 0 0, .int .i64 0, .bool false] #[.slice none 0 0, .int .i64 0, .bool false] 50 30
  have HM := Lib.hid fun (w1 : World) (hb1 : Below w.heap.size w w1) => implModelOf_b w1 w.heap.size hb1.size a n c m (hl.below hb1 (Nat.le_refl _)) hc1 hc2 hb
  have HBX := Lib.hid hbx
  have hsm : ∀ j, j < (goodN m).length → (opAt (goodN m) j).2.2.2.length ≤ 36 := fun j hj => by
    cases hq : modelOkB m with
    | false => rw [goodN_no hq] at hj; exact absurd hj (by simp)
    | true => rw [goodN_yes hq] at hj ⊢; exact modelOk_small hq j hj
  have h8 := (goodN_le m).1
  obtain ⟨g, hgg⟩ : ∃ g, goodN m = g := ⟨_, rfl⟩
  obtain ⟨f, hf⟩ : ∃ f : Nat → List Int, f = fun j => noughts (opAt g j).2.2.2.length := ⟨_, rfl⟩
  have hz : zeroRows m = listK f g.length := by rw [zeroRows_good, hgg, hf]
  rw [hgg] at hsm h8
  have HSM := Lib.hid hsm
  have HF := Lib.hid hf
  have HZ := Lib.hid hz
  have HGG := Lib.hid hgg
  clear h hl hbx hb hsm hf hz hgg
  go_enter Tryz.func23, Tryz.ntmps23
  go_wp2_with fail
  generalize ((w.alloc (.cells #[.slice a n c] 50 (0, 0))).alloc (.cells #[.slice none 0 0, .int .i64 0, .bool false] 30 (0, 0))).alloc (.cells #[.slice none 0 0, .int .i64 0, .bool false] 30 (0, 0)) = wa at HBX ⊢
  refine (HM.out wa HBX.out.below).mono ?_
  rintro e wb ⟨ag, ng, cg, rfl, hl, hg1, hg2, hbm⟩
  have hbx := HBX.out.call hbm
  rw [HGG.out] at hl
  have hlen := hl.1
  have hl' := hl.below hbm HBX.out.below.size
  have HL := Lib.hid hl'
  have HB0 := Lib.hid hbx
  have hfd : ∀ w : World, (Instr.field 132 (.agg #[.slice ag ng cg]) 0).run Tryz.prog w = .ok (.slice ag ng cg) w := fun w => field_model ag ng cg w
  clear hl hl' hbm hbx
  go_wp2_with fail
  go_loopw [10] (fun i wr => ∃ (k : Nat) (v : Value), k ≤ ng ∧ i = .int .i64 k ∧ Boxes w wr #[.slice a n c] #[.slice none 0 0, .int .i64 0, .bool false] #[v, .int .i64 0, .bool false] 50 30 ∧ Below w.heap.size wb wr ∧ ListL ownRow 56 (w.heap.size + 3) wr.heap.size wr v (listK f k)) (fun i _ => ng - (intOf i).toNat)
  case atStart => exact ⟨0, .slice none 0 0, Nat.zero_le _, rfl, HB0.out, Below.refl _ _, ListL.nil _ _ (Nat.le_refl _)⟩
  case round =>
    obtain ⟨k, v, hk, rfl, hbo, hbw, hli⟩ := hrel
    obtain ⟨av, cv, rfl, -, -⟩ := hli.form
    have hkl := listK_length f k
    rw [hkl] at hbo hli
    have hsz3 := hbo.size
    have HBO := Lib.hid hbo
    have HLI := Lib.hid hli
    have HBW := Lib.hid hbw
    by_cases hlt : k < ng
    · obtain ⟨x, hx⟩ : ∃ x, g[k]? = some x := ⟨_, List.getElem?_eq_getElem (by rw [hlen]; exact hlt)⟩
      obtain ⟨b, o, es, rfl, hbB, hr, hs⟩ := HL.out.2 k x hx
      obtain ⟨ae, ne, ce, rfl, ge, le, me⟩ := shOp_reads.1 hs
      have hne : ne ≤ 36 := by
        have e1 := HSM.out k (by rw [hlen]; exact hlt)
        rw [opAt_get hx] at e1
        have e2 := me.1
        omega
      have hfk : f k = noughts ne := by
        rw [HF.out]
        show noughts (opAt g k).2.2.2.length = _
        rw [opAt_get hx]
        exact congrArg noughts me.1
      have HFK := Lib.hid hfk
      have hrr := rangeAt_kept hr (show b < w.heap.size from hbB) (Kept.of_below (I := Under w.heap.size) hbw fun b hb => hb)
      rw [shOp_size] at hrr
      have c0 := hrr 0 _ rfl
      have c1 := hrr 1 _ rfl
      have c2 := hrr 2 _ rfl
      have c3 := hrr 3 _ rfl
      simp only [Nat.add_zero] at c0
      have hq := (Below.refl wr.heap.size wr).alloc (Nat.le_refl _) (.cells #[.int .i64 x.1, .int .i64 x.2.1, .int .i64 x.2.2.1, .slice ae ne ce] 38 (0, 0))
      have hqn := heap_alloc_new wr (.cells #[.int .i64 x.1, .int .i64 x.2.1, .int .i64 x.2.2.1, .slice ae ne ce] 38 (0, 0))
      have hqs : (wr.alloc (.cells #[.int .i64 x.1, .int .i64 x.2.1, .int .i64 x.2.2.1, .slice ae ne ce] 38 (0, 0))).heap.size = wr.heap.size + 1 := by simp
      clear hr hrr hs hx hfk hbB hbo hbw hli
      go_upto_region 5 with fail
      generalize wr.alloc (.cells #[.int .i64 x.1, .int .i64 x.2.1, .int .i64 x.2.2.1, .slice ae ne ce] 38 (0, 0)) = w1 at hq hqn hqs ⊢
      have hbo := HBO.out.call hq
      have hli := HLI.out.below hq (Nat.le_refl _)
      have hsz4 := hbo.size
      have HB1 := Lib.hid hbo
      have HW1 := Lib.hid (HBW.out.trans (hq.mono (by omega)))
      obtain ⟨⟨d0, d1, d2⟩, f0, f1, f2⟩ := cellsG hbo.o
      have p3 : w1.cell? ⟨wr.heap.size, 3, none⟩ = some (.slice ae ne ce) := by rw [cell_of_row _ _ _ _ _ _ hqn]; rfl
      clear hq hqn hqs
      have hmk := run_make_many (P := Tryz.prog) 28 3 _ 1 8 Tryz.underlying28 Tryz.infoI64 ne (by omega) (by omega)
      have hm1 : Below w1.heap.size w1 (w1.alloc (.cells (madeCells #[.int .i64 0] ne) 3 (0, 0))).drew := ((Below.refl _ _).alloc (Nat.le_refl _) _).drew
      have hl2 := (hli.below hm1 (Nat.le_trans hli.top (Nat.le_refl _)) : ListL ownRow 56 (w.heap.size + 3) wr.heap.size (w1.alloc (.cells (madeCells #[.int .i64 0] ne) 3 (0, 0))).drew (.slice av k cv) (listK f k)).wide (hi' := w1.heap.size) (Nat.le_refl _) hli.top hm1.size
      obtain ⟨us, G, h1, h2, h3, h4, h5⟩ := hl2.all
      have hP : Hid (∀ (w4 : World) (g cap : Nat), w4.ownsRow (w.heap.size + 3) 56 1 (.slice (some ⟨g, 0, none⟩) (k + 1) cap) (k + 1) (us ++ [.slice (some ⟨w1.heap.size, 0, none⟩) ne ne]) → ((w1.alloc (.cells (madeCells #[.int .i64 0] ne) 3 (0, 0))).alloc (.cells #[.slice (some ⟨w1.heap.size, 0, none⟩) ne ne] 56 (0, 0))).drew.grownBy w4 (Value.slice av k cv).ownBlock →
          ((Value.slice av k cv).ownBlock = some g ∨ g = ((w1.alloc (.cells (madeCells #[.int .i64 0] ne) 3 (0, 0))).alloc (.cells #[.slice (some ⟨w1.heap.size, 0, none⟩) ne ne] 56 (0, 0))).drew.heap.size) → ListL ownRow 56 (w.heap.size + 3) w4.heap.size w4 (.slice (some ⟨g, 0, none⟩) (k + 1) cap) (listK f (k + 1)) ∧ Below (w.heap.size + 3) w1 w4) := Lib.hid fun w4 g cap ho hgr hat => by
        have hp := ListL.put (S := ownRow) (T := 56) (lo := w.heap.size + 3) (hi := w1.heap.size) (w := (w1.alloc (.cells (madeCells #[.int .i64 0] ne) 3 (0, 0))).drew) (w' := w4) (v := .slice av k cv) (v' := .slice (some ⟨g, 0, none⟩) (k + 1) cap) (xs := listK f k) (o := (.cells #[.slice (some ⟨w1.heap.size, 0, none⟩) ne ne] 56 (0, 0))) (x := noughts ne) (F := FromB w1.heap.size (w1.alloc (.cells (madeCells #[.int .i64 0] ne) 3 (0, 0))).heap.size)
          hsz4 h1 h2 hm1.size h3 h4 h5 (Row.ownRow (Row.made w1 ne (by omega))) (fun b o f => f) rfl (by rw [hkl]; exact ho) hgr (by
            rcases hat with e | e
            · exact .inl e.symm
            · exact .inr (congrArg some e))
        rw [← HFK.out] at hp
        exact ⟨hp.1, (hm1.mono hsz4).trans hp.2⟩
      rw [hkl] at h1
      have HRD : Hid (((w1.alloc (.cells (madeCells #[.int .i64 0] ne) 3 (0, 0))).alloc (.cells #[.slice (some ⟨w1.heap.size, 0, none⟩) ne ne] 56 (0, 0))).drew.ownsRow (w.heap.size + 3) 56 1 (.slice av k cv) k us) := Lib.hid (World.ownsRow.alloc (show (w1.alloc (.cells (madeCells #[.int .i64 0] ne) 3 (0, 0))).drew.ownsRow _ _ _ _ _ _ from h1) _)
      have HND : Hid (∀ j u, ([Value.slice (some ⟨w1.heap.size, 0, none⟩) ne ne] : List Value)[j]? = some u → ((w1.alloc (.cells (madeCells #[.int .i64 0] ne) 3 (0, 0))).alloc (.cells #[.slice (some ⟨w1.heap.size, 0, none⟩) ne ne] 56 (0, 0))).drew.cell? ((⟨w1.heap.size + 1, 0, none⟩ : Addr).add j) = some u) := Lib.hid (by
        have := heap_alloc_new (w1.alloc (.cells (madeCells #[.int .i64 0] ne) 3 (0, 0))) (.cells #[.slice (some ⟨w1.heap.size, 0, none⟩) ne ne] 56 (0, 0))
        rw [size_one'] at this
        exact World.news_of_block (w := ((w1.alloc (.cells (madeCells #[.int .i64 0] ne) 3 (0, 0))).alloc (.cells #[.slice (some ⟨w1.heap.size, 0, none⟩) ne ne] 56 (0, 0))).drew) this)
      have hm1' : Below w1.heap.size w1 (w1.alloc (.cells (madeCells #[.int .i64 0] ne) 3 (0, 0))) := (Below.refl _ _).alloc (Nat.le_refl _) _
      have hm2' : Below w1.heap.size w1 ((w1.alloc (.cells (madeCells #[.int .i64 0] ne) 3 (0, 0))).alloc (.cells #[.slice (some ⟨w1.heap.size, 0, none⟩) ne ne] 56 (0, 0))) := hm1'.alloc (by simp) _
      have dm0 := (hm1'.cell (p := ⟨w.heap.size + 1 + 1, 0, none⟩) (by show w.heap.size + 1 + 1 < _; omega)).trans d0
      have de0 := (hm2'.cell (p := ⟨w.heap.size + 1 + 1, 0, none⟩) (by show w.heap.size + 1 + 1 < _; omega)).trans d0
      have HBS : Hid (w.heap.size + 3 ≤ ((w1.alloc (.cells (madeCells #[.int .i64 0] ne) 3 (0, 0))).alloc (.cells #[.slice (some ⟨w1.heap.size, 0, none⟩) ne ne] 56 (0, 0))).drew.heap.size) := Lib.hid (by
        show _ ≤ ((w1.alloc (.cells (madeCells #[.int .i64 0] ne) 3 (0, 0))).alloc (.cells #[.slice (some ⟨w1.heap.size, 0, none⟩) ne ne] 56 (0, 0))).heap.size
        rw [size_one', size_one']
        omega)
      clear h1 h2 h3 h4 h5 hl2 hli hbo hm1 hm1' hm2' f1 f2
      go_wp2_with fail
      go_region_law (first
        | (refine step_append_lies _ rfl (.tmp 15) (.tmp 21) 27 rfl (w.heap.size + 3) 56 i0 (.agg #[.slice none 0 0]) 1 24 Tryz.underlying27 hi hz0 hz1 hz2 rfl (by decide) _ _ _ (by simp [Act.eval]) HRD.out ⟨w1.heap.size + 1, 0, none⟩ 1 1 [.slice (some ⟨w1.heap.size, 0, none⟩) ne ne] (by simp [Act.eval]) rfl HND.out (slices_one _ _ _) (by omega) (by unfold maxLen; omega) (by omega) HBS.out _ rfl ?_; intro g cap w4 hown4 hgrow4 hat4 _; obtain ⟨hli4, hb4⟩ := hP.out w4 g cap hown4 hgrow4 hat4; have hbo4 := HB1.out.far hb4; have HW4 := Lib.hid (HW1.out.trans (hb4.mono (by omega))); clear d0 d1 d2 f0 dm0 de0 hown4 hgrow4 hat4; obtain ⟨⟨d0, d1, d2⟩, f0, -, -⟩ := cellsG hbo4.o; have HLI4 := Lib.hid hli4; have HBO4 := Lib.hid hbo4; clear hli4 hbo4 hb4))
      all_goals
        go_wp2_with fail
        go_round
        case rel =>
          have hq := HBO4.out.store 0 (.slice (some ⟨g, 0, none⟩) (k + 1) cap)
          have hli := HLI4.out.stored (w.heap.size + 1 + 1) 0 (.slice (some ⟨g, 0, none⟩) (k + 1) cap) (by omega)
          exact ⟨k + 1, .slice (some ⟨g, 0, none⟩) (k + 1) cap, by omega, by go_num, by simpa using hq, by simpa using HW4.out.setCell (p := ⟨w.heap.size + 1 + 1, 0, none⟩) (by show _ ≤ w.heap.size + 1 + 1; omega) (.slice (some ⟨g, 0, none⟩) (k + 1) cap), by simpa using hli⟩
        case measure => simp [intOf]; omega
    · obtain rfl : k = ng := by omega
      obtain ⟨⟨d0, d1, d2⟩, f0, f1, f2⟩ := cellsG hbo.o
      obtain ⟨⟨z0, z1, z2⟩, y0, y1, y2⟩ := cellsG hbo.z
      clear hbo hli hbw
      go_wp2_with fail
      refine bodyPost_ret (results_cell_row rfl _ _ (w.heap.size + 1) 30 #[.slice av k cv, .int .i64 0, .bool false] (0, 0) _ rfl ?_ Tryz.underlying30 rfl (by kernel_rfl)) rfl ?_
      · exact store3 HBO.out.z _ _ _
      · refine ⟨[.slice av k cv, .int .i64 0, .bool false], rfl, ?_, ((HBO.out.below.setCell (p := ⟨w.heap.size + 1, 0, none⟩) (by show _ ≤ w.heap.size + 1; omega) _).setCell (p := ⟨w.heap.size + 1, 1, none⟩) (by show _ ≤ w.heap.size + 1; omega) _).setCell (p := ⟨w.heap.size + 1, 2, none⟩) (by show _ ≤ w.heap.size + 1; omega) _⟩
        have hfin := ((HLI.out.stored (w.heap.size + 1) 0 (.slice av k cv) (by omega)).stored (w.heap.size + 1) 1 (.int .i64 0) (by omega)).stored (w.heap.size + 1) 2 (.bool false) (by omega)
        obtain ⟨a', cap, e1, e2, e3, e4⟩ := hfin.list (by decide)
        rw [hkl] at e1 e2 e4
        cases e1
        unfold zeroG
        rw [HZ.out, hlen]
        exact ownGrads_owns.2 ⟨_, _, _, rfl, e2, e3, e4.sub (fun b o f => ⟨by have := f.1; omega, by have := f.2; simpa using this⟩)⟩
end Go.Proofs.YtpnifgpmleaohaaGreatDoor

end
