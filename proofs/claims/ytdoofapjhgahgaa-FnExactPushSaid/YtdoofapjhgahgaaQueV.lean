/-
  Queues: the program's Pop.
-/
import Derived.Test.YtdoofapjhgahgaaQueU
import Derived.Test.YtdoofapjhgahgaaQueR
namespace Go.Proofs.Ytdoofapjhgahgaa
open Go.RowKit Go.Sort
set_option linter.unusedVariables false
set_option linter.unusedSimpArgs false

set_option maxRecDepth 100000 in
set_option maxHeartbeats 6400000 in
theorem implPop_o (w : World) (es0 : List Value) (x0 : dQueue) (h0 : shQueue.reads (Under w.heap.size) w es0 x0) (hb0 : shQueue.bulk x0 ≤ 1048576) :
    Calls Try.prog 12 #[.agg es0.toArray] w fun e w' => ∃ es' fs' F G, e = .returned (.tuple #[.agg (es' : List Value).toArray, .agg (fs' : List Value).toArray, .bool (popB x0)]) ∧ ownQueue.owns F w' es' (popN x0) ∧ ownItem.owns G w' fs' (popX x0) ∧ (∀ b o, F b o → w.heap.size ≤ b ∧ b < w'.heap.size) ∧ (∀ b o, G b o → w.heap.size ≤ b ∧ b < w'.heap.size) ∧ Apart F G ∧ Below w.heap.size w w' := by
  obtain ⟨a, n, c, rfl, hc1, hc2, hl, hn, hbl⟩ := queue_open h0 hb0
  obtain ⟨cap, l⟩ := x0
  replace hl : ListAt shItem (Under w.heap.size) w a n l := hl
  replace hbl : Shape.sum shItem.bulk l ≤ 1048576 := hbl
  have hlen : l.length = n := hl.1
  have hk0 : (((w.alloc (.cells #[.int .i64 cap, .slice a n c] 26 (0, 0))).alloc (.cells #[.int .i64 0, .slice none 0 0] 26 (0, 0))).alloc (.cells #[.int .i64 0, .slice none 0 0] 29 (0, 0))).heap[w.heap.size]? = some (.cells #[.int .i64 cap, .slice a n c] 26 (0, 0)) := by
    rw [Below.heap_alloc _ _ _ (by simp; omega), Below.heap_alloc _ _ _ (by simp)]
    exact heap_alloc_new w _
  have hk1 : (((w.alloc (.cells #[.int .i64 cap, .slice a n c] 26 (0, 0))).alloc (.cells #[.int .i64 0, .slice none 0 0] 26 (0, 0))).alloc (.cells #[.int .i64 0, .slice none 0 0] 29 (0, 0))).heap[w.heap.size + 1]? = some (.cells #[.int .i64 0, .slice none 0 0] 26 (0, 0)) := by
    rw [Below.heap_alloc _ _ _ (by simp)]
    have := heap_alloc_new (w.alloc (.cells #[.int .i64 cap, .slice a n c] 26 (0, 0))) (.cells #[.int .i64 0, .slice none 0 0] 26 (0, 0))
    simpa using this
  have hk2 : (((w.alloc (.cells #[.int .i64 cap, .slice a n c] 26 (0, 0))).alloc (.cells #[.int .i64 0, .slice none 0 0] 26 (0, 0))).alloc (.cells #[.int .i64 0, .slice none 0 0] 29 (0, 0))).heap[w.heap.size + 2]? = some (.cells #[.int .i64 0, .slice none 0 0] 29 (0, 0)) := by
    have := heap_alloc_new ((w.alloc (.cells #[.int .i64 cap, .slice a n c] 26 (0, 0))).alloc (.cells #[.int .i64 0, .slice none 0 0] 26 (0, 0))) (.cells #[.int .i64 0, .slice none 0 0] 29 (0, 0))
    simpa using this
  have hal : Below w.heap.size w (((w.alloc (.cells #[.int .i64 cap, .slice a n c] 26 (0, 0))).alloc (.cells #[.int .i64 0, .slice none 0 0] 26 (0, 0))).alloc (.cells #[.int .i64 0, .slice none 0 0] 29 (0, 0))) := (((Below.refl _ _).alloc (Nat.le_refl _) _).alloc (by simp) _).alloc (by simp; omega) _
  have hs3 : (((w.alloc (.cells #[.int .i64 cap, .slice a n c] 26 (0, 0))).alloc (.cells #[.int .i64 0, .slice none 0 0] 26 (0, 0))).alloc (.cells #[.int .i64 0, .slice none 0 0] 29 (0, 0))).heap.size = w.heap.size + 3 := by simp
  have HL := Lib.hid hl
  have HLEN := Lib.hid hlen
  have K0 := Lib.hid hk0
  have K1 := Lib.hid hk1
  have K2 := Lib.hid hk2
  have HA := Lib.hid hal
  clear hl hlen hk0 hk1 hk2 hal h0 hb0
  go_enter Try.func12, Try.ntmps12
  go_upto_region 1 with fail
  generalize (((w.alloc (.cells #[.int .i64 cap, .slice a n c] 26 (0, 0))).alloc (.cells #[.int .i64 0, .slice none 0 0] 26 (0, 0))).alloc (.cells #[.int .i64 0, .slice none 0 0] 29 (0, 0))) = W0 at K0 K1 K2 HA hs3 ⊢
  have CELLS := Lib.hid fun (wx : World) (hx : Below W0.heap.size W0 wx) => (show (wx.cell? ⟨w.heap.size, 0, none⟩ = some (.int .i64 cap) ∧ wx.cell? ⟨w.heap.size, 1, none⟩ = some (.slice a n c)) ∧ (wx.cell? ⟨w.heap.size + 1, 0, none⟩ = some (.int .i64 0) ∧ wx.cell? ⟨w.heap.size + 1, 1, none⟩ = some (.slice none 0 0)) ∧ (wx.cell? ⟨w.heap.size + 1 + 1, 0, none⟩ = some (.int .i64 0) ∧ wx.cell? ⟨w.heap.size + 1 + 1, 1, none⟩ = some (.slice none 0 0)) ∧ wx.frozen? ⟨w.heap.size + 1, 0, none⟩ = false ∧ wx.frozen? ⟨w.heap.size + 1, 1, none⟩ = false ∧ wx.frozen? ⟨w.heap.size + 1 + 1, 0, none⟩ = false ∧ wx.frozen? ⟨w.heap.size + 1 + 1, 1, none⟩ = false ∧ wx.frozen? ⟨w.heap.size, 1, none⟩ = false from
    ⟨boxq ((hx.block _ (by omega)).trans K0.out), boxq ((hx.block _ (by omega)).trans K1.out), boxq ((hx.block _ (by omega)).trans K2.out), frozen_of_row _ _ _ _ _ ((hx.block _ (by omega)).trans K1.out), frozen_of_row _ _ _ _ _ ((hx.block _ (by omega)).trans K1.out), frozen_of_row _ _ _ _ _ ((hx.block _ (by omega)).trans K2.out), frozen_of_row _ _ _ _ _ ((hx.block _ (by omega)).trans K2.out), frozen_of_row _ _ _ _ _ ((hx.block _ (by omega)).trans K0.out)⟩)
  have HOK := Lib.hid (implQueueOk_c W0 cap a n c l ((HL.out.below HA.out (Nat.le_refl _)).le HA.out.size) hn hbl)
  have HCP := Lib.hid fun (wx : World) (hx : Below W0.heap.size W0 wx) => implCopyQueue_o wx cap a n c l ((HL.out.below (HA.out.trans (hx.mono HA.out.size)) (Nat.le_refl _)).le (Nat.le_trans HA.out.size hx.size)) hn hbl
  obtain ⟨A, hA⟩ : ∃ A, queueOkB (cap, l) = A := ⟨_, rfl⟩
  have hpb : popB (cap, l) = (A && decide (0 < n)) := by
    unfold popB
    rw [hA]
    show (A && decide (0 < l.length)) = _
    rw [HLEN.out]
  rw [hA] at HOK
  have HPB := Lib.hid hpb
  clear hA hpb
  obtain ⟨⟨z0, z1⟩, ⟨x0, x1⟩, ⟨r0, r1⟩, f0, f1, f2, f3, f4⟩ := CELLS.out W0 (Below.refl _ _)
  -- the end where nothing is taken out
  have END : Hid (popB (cap, l) = false → ∀ (wx : World) (lo : Nat) (v : Value), Below W0.heap.size W0 wx → W0.heap.size ≤ lo → ListL ownItem 29 lo wx.heap.size wx v l →
      ∃ es' fs' F G, Ending.returned (.tuple #[.agg #[.int .i64 cap, v], .agg #[.int .i64 0, .slice none 0 0], .bool false]) = .returned (.tuple #[.agg (es' : List Value).toArray, .agg (fs' : List Value).toArray, .bool (popB (cap, l))]) ∧
        ownQueue.owns F ((((wx.setCell ⟨w.heap.size + 1, 0, none⟩ (.int .i64 cap)).setCell ⟨w.heap.size + 1, 1, none⟩ v).setCell ⟨w.heap.size + 1 + 1, 0, none⟩ (.int .i64 0)).setCell ⟨w.heap.size + 1 + 1, 1, none⟩ (.slice none 0 0)) es' (popN (cap, l)) ∧
        ownItem.owns G ((((wx.setCell ⟨w.heap.size + 1, 0, none⟩ (.int .i64 cap)).setCell ⟨w.heap.size + 1, 1, none⟩ v).setCell ⟨w.heap.size + 1 + 1, 0, none⟩ (.int .i64 0)).setCell ⟨w.heap.size + 1 + 1, 1, none⟩ (.slice none 0 0)) fs' (popX (cap, l)) ∧
        (∀ b o, F b o → w.heap.size ≤ b ∧ b < ((((wx.setCell ⟨w.heap.size + 1, 0, none⟩ (.int .i64 cap)).setCell ⟨w.heap.size + 1, 1, none⟩ v).setCell ⟨w.heap.size + 1 + 1, 0, none⟩ (.int .i64 0)).setCell ⟨w.heap.size + 1 + 1, 1, none⟩ (.slice none 0 0)).heap.size) ∧
        (∀ b o, G b o → w.heap.size ≤ b ∧ b < ((((wx.setCell ⟨w.heap.size + 1, 0, none⟩ (.int .i64 cap)).setCell ⟨w.heap.size + 1, 1, none⟩ v).setCell ⟨w.heap.size + 1 + 1, 0, none⟩ (.int .i64 0)).setCell ⟨w.heap.size + 1 + 1, 1, none⟩ (.slice none 0 0)).heap.size) ∧ Apart F G ∧
        Below w.heap.size w ((((wx.setCell ⟨w.heap.size + 1, 0, none⟩ (.int .i64 cap)).setCell ⟨w.heap.size + 1, 1, none⟩ v).setCell ⟨w.heap.size + 1 + 1, 0, none⟩ (.int .i64 0)).setCell ⟨w.heap.size + 1 + 1, 1, none⟩ (.slice none 0 0))) := Lib.hid fun hR wx lo v hx hlo hll => by
    obtain ⟨-, -, hsz, hot, hbe⟩ := two_stored (g1 := w.heap.size + 1) (g2 := w.heap.size + 1 + 1) (by omega) ((hx.block _ (by omega)).trans K1.out) ((hx.block _ (by omega)).trans K2.out) (.int .i64 cap) v (.int .i64 0) (.slice none 0 0)
    have hbw := hbe w.heap.size w (by omega) (by omega) (HA.out.trans (hx.mono HA.out.size))
    have hl2 := (((hll.storedQ (w.heap.size + 1) 0 (.int .i64 cap) (by omega)).storedQ (w.heap.size + 1) 1 v (by omega)).storedQ (w.heap.size + 1 + 1) 0 (.int .i64 0) (by omega)).storedQ (w.heap.size + 1 + 1) 1 (.slice none 0 0) (by omega)
    generalize ((((wx.setCell ⟨w.heap.size + 1, 0, none⟩ (.int .i64 cap)).setCell ⟨w.heap.size + 1, 1, none⟩ v).setCell ⟨w.heap.size + 1 + 1, 0, none⟩ (.int .i64 0)).setCell ⟨w.heap.size + 1 + 1, 1, none⟩ (.slice none 0 0)) = wf at hsz hot hbw hl2 ⊢
    obtain ⟨a', cap', e1, e2, e3, e4⟩ := hl2.list (by decide)
    refine ⟨[.int .i64 cap, v], [.int .i64 0, .slice none 0 0], FromB lo wx.heap.size, fun _ _ => False, by rw [hR], ?_, ?_, fun b o f => ⟨by have := f.1; omega, by have := f.2; omega⟩, fun b o f => f.elim, fun b o f g => g.elim, hbw⟩
    · unfold popN
      rw [hR]
      exact ownQueue_owns.2 ⟨a', l.length, cap', by rw [e1]; rfl, e2, e3, e4⟩
    · unfold popX
      rw [hR]
      exact ownItem_owns.2 ⟨none, 0, 0, rfl, Nat.le_refl _, by omega, rfl, .inl rfl⟩
  cases A
  · go_wp2_with fail
    refine HOK.out.mono ?_
    rintro e w1 ⟨rfl, hb⟩
    have HB := Lib.hid hb
    obtain ⟨⟨z0, z1⟩, ⟨x0, x1⟩, ⟨r0, r1⟩, f0, f1, f2, f3, f4⟩ := CELLS.out w1 hb
    clear hb
    go_wp2_with fail
    refine (HCP.out w1 HB.out).mono ?_
    rintro e w2 ⟨v, rfl, hll, hb⟩
    have hb2 := HB.out.trans (hb.mono HB.out.size)
    have E2 := Lib.hid (END.out (by rw [HPB.out]; rfl) w2 w1.heap.size v hb2 HB.out.size hll)
    obtain ⟨⟨z0, z1⟩, ⟨x0, x1⟩, ⟨r0, r1⟩, f0, f1, f2, f3, f4⟩ := CELLS.out w2 hb2
    obtain ⟨av, cv, rfl, -, -⟩ := hll.form
    obtain ⟨e0, e1, -, -, -⟩ := two_stored (g1 := w.heap.size + 1) (g2 := w.heap.size + 1 + 1) (by omega) ((hb2.block _ (by omega)).trans K1.out) ((hb2.block _ (by omega)).trans K2.out) (.int .i64 cap) (.slice av l.length cv) (.int .i64 0) (.slice none 0 0)
    have E0 := Lib.hid e0
    have E1 := Lib.hid e1
    clear hll hb hb2 e0 e1
    go_wp2_with fail
    exact bodyPost_ret (results_two_slot rfl _ _ (w.heap.size + 1) (w.heap.size + 1 + 1) 26 29 #[.int .i64 cap, .slice av l.length cv] #[.int .i64 0, .slice none 0 0] (0, 0) (0, 0) _ _ rfl rfl (.bool false) rfl E0.out E1.out Try.underlying26 rfl (by kernel_rfl) Try.underlying29 rfl (by kernel_rfl)) rfl E2.out
  · by_cases hp : 0 < n
    · have g0 : decide ((n : Int) = 0) = false := decide_eq_false (by omega)
      have hR : popB (cap, l) = true := by rw [HPB.out, decide_eq_true hp]; rfl
      obtain ⟨b, o, x, ax, nx, cx, hx, rfl, hbB, k0, k1, -, -, hlx⟩ := item_at HL.out 0 hp
      have hbx := bulk_mem shItem.bulk l 0 x hx
      rw [shItem_bulk, bulk_ints, hlx.1] at hbx
      have hnx : nx ≤ 1048576 := by omega
      have hix := hlx.ints hnx
      have hpx : popX (cap, l) = x := by
        unfold popX
        rw [hR]
        show l.getD 0 (0, []) = x
        rw [List.getD_eq_getElem?_getD, hx]
        rfl
      have hpn : popN (cap, l) = (cap, l.drop 1) := by unfold popN; rw [hR]; rfl
      obtain ⟨M, hM⟩ : ∃ M, x.1 = M := ⟨_, rfl⟩
      rw [hM] at k0
      rw [Nat.zero_mul, Nat.add_zero] at k0 k1
      have HR := Lib.hid hR
      have HPX := Lib.hid hpx
      have HPN := Lib.hid hpn
      have HM := Lib.hid hM
      have HK0 := Lib.hid k0
      have HK1 := Lib.hid k1
      have HIX := Lib.hid hix
      clear hx hlx hix k0 k1 hR hpx hpn hM hbx
      go_wp2_with fail
      refine HOK.out.mono ?_
      rintro e w1 ⟨rfl, hb⟩
      have HB := Lib.hid hb
      obtain ⟨⟨z0, z1⟩, ⟨x0, x1⟩, ⟨r0, r1⟩, f0, f1, f2, f3, f4⟩ := CELLS.out w1 hb
      have A1 := Lib.hid (HA.out.trans (hb.mono HA.out.size))
      have d0 := (A1.out.cell (p := ⟨b, o, none⟩) hbB).trans HK0.out
      have d1 := (A1.out.cell (p := ⟨b, o + 1, none⟩) hbB).trans HK1.out
      have HCI := Lib.hid (implCopyItem_o w1 M ax nx cx x.2 ((HIX.out.below A1.out (Nat.le_refl _)).le A1.out.size))
      clear hb HOK g0
      go_wp2_with fail
      refine HCI.out.mono ?_
      rintro e w2 ⟨ar, cr, rfl, hr, hb⟩
      have hb2 := HB.out.trans (hb.mono HB.out.size)
      have hs1 := HB.out.size
      have hs2 := hb.size
      have hb3 := hb2.alloc (by omega) (.cells #[.int .i64 M, .slice ar nx cr] 29 (0, 0))
      have hk3 := heap_alloc_new w2 (.cells #[.int .i64 M, .slice ar nx cr] 29 (0, 0))
      have hz3 : (w2.alloc (.cells #[.int .i64 M, .slice ar nx cr] 29 (0, 0))).heap.size = w2.heap.size + 1 := by simp
      have HRR := Lib.hid (hr.below ((Below.refl w2.heap.size w2).alloc (Nat.le_refl _) (.cells #[.int .i64 M, .slice ar nx cr] 29 (0, 0))))
      have HB3 := Lib.hid hb3
      have HK3 := Lib.hid hk3
      have HZ3 := Lib.hid hz3
      clear hr hb hb2 hb3 hk3 hz3 d0 d1 HCI z0 z1 x0 x1 r0 r1 f0 f1 f2 f3 f4
      go_upto_region 4 with fail
      generalize w2.alloc (.cells #[.int .i64 M, .slice ar nx cr] 29 (0, 0)) = w3 at HB3 HK3 HZ3 HRR ⊢
      have hz3 := HZ3.out
      have A3 := Lib.hid (HA.out.trans (HB3.out.mono HA.out.size))
      have hq3 := (HB3.out.block w.heap.size (by omega)).trans K0.out
      obtain ⟨⟨z0, z1⟩, -, -, -, -, -, -, f4⟩ := CELLS.out w3 HB3.out
      have hl3 := HL.out.below A3.out (Nat.le_refl _)
      have hdr1 := hl3.drop1
      have hlh : ∀ hc : c = 1, ListAt shItem (Under w.heap.size) w3 (some ⟨b, o, none⟩) (n - 1) (l.drop 1) := fun hc => ⟨hdr1.1, fun j x hx => by
        have := (List.getElem?_eq_some_iff.1 hx).1
        rw [hdr1.1] at this
        omega⟩
      have HD1 := Lib.hid hdr1
      have HLH := Lib.hid hlh
      clear hdr1 hlh hl3
      go_upto_region 5 with fail
      obtain ⟨AA, hAA⟩ : ∃ AA : Option Addr, (if c = 1 then some ⟨b, o, none⟩ else some ⟨b, o + 2, none⟩) = AA := ⟨_, rfl⟩
      have hlv : ListAt shItem (Under w.heap.size) w3 AA (n - 1) (l.drop 1) := by
        by_cases hc : c = 1
        · rw [← hAA, if_pos hc]
          exact HLH.out hc
        · rw [← hAA, if_neg hc]
          exact HD1.out
      rw [hAA]
      have k4 := heap_setCell_same w3 w.heap.size 1 _ _ (.slice AA (n - 1) (c - 1)) hq3
      have o4 : ∀ k, k ≠ w.heap.size → (w3.setCell ⟨w.heap.size, 1, none⟩ (.slice AA (n - 1) (c - 1))).heap[k]? = w3.heap[k]? := fun k hk => heap_setCell_other w3 ⟨w.heap.size, 1, none⟩ k (.slice AA (n - 1) (c - 1)) hk
      have z4 : (w3.setCell ⟨w.heap.size, 1, none⟩ (.slice AA (n - 1) (c - 1))).heap.size = w2.heap.size + 1 := by simpa using hz3
      have b4 := A3.out.setCell (p := ⟨w.heap.size, 1, none⟩) (Nat.le_refl _) (.slice AA (n - 1) (c - 1))
      have hl4 : ListAt shItem (Under w.heap.size) (w3.setCell ⟨w.heap.size, 1, none⟩ (.slice AA (n - 1) (c - 1))) AA (n - 1) (l.drop 1) := hlv.keep fun k hk => o4 k (by have h1 : k < w.heap.size := hk; omega)
      have hne : ∀ k, (Value.slice ar nx cr).ownBlock = some k → k ≠ w.heap.size := fun k hk => by have := (Row.lt HRR.out k hk).1; omega
      have hr4 : Row w1.heap.size (w3.setCell ⟨w.heap.size, 1, none⟩ (.slice AA (n - 1) (c - 1))) (.slice ar nx cr) x.2 := ownsRow_set HRR.out 1 (.slice AA (n - 1) (c - 1)) hne
      have q4 := (o4 w2.heap.size (by omega)).trans HK3.out
      have r4 := (o4 (w.heap.size + 1) (by omega)).trans ((HB3.out.block _ (by omega)).trans K1.out)
      have t4 := (o4 (w.heap.size + 1 + 1) (by omega)).trans ((HB3.out.block _ (by omega)).trans K2.out)
      clear z0 z1 f4 hq3 hlv HD1 HLH END HCP CELLS HK0 HK1 HIX o4 hne
      generalize w3.setCell ⟨w.heap.size, 1, none⟩ (.slice AA (n - 1) (c - 1)) = W4 at k4 z4 b4 hl4 hr4 q4 r4 t4 ⊢
      have hoi := hr4.ownItem M
      rw [show (M, x.2) = x by rw [← HM.out]] at hoi
      have K4 := Lib.hid k4
      have Q4 := Lib.hid q4
      have R4 := Lib.hid r4
      have T4 := Lib.hid t4
      have B4 := Lib.hid b4
      have HOI := Lib.hid hoi
      have hbd : Shape.sum shItem.bulk (l.drop 1) ≤ 1048576 := Nat.le_trans (sum_drop_le _ _) hbl
      have HCP := Lib.hid (implCopyQueue_o W4.drew cap AA (n - 1) (c - 1) (l.drop 1) ((hl4.below ((Below.refl W4.heap.size W4).drew) (by omega)).le (by show w.heap.size ≤ W4.heap.size; omega)) (by omega) hbd)
      have KEEP := Lib.hid fun (wx : World) (hx : Below W4.heap.size W4 wx) => (show wx.cell? ⟨w.heap.size, 0, none⟩ = some (.int .i64 cap) ∧ wx.cell? ⟨w.heap.size, 1, none⟩ = some (.slice AA (n - 1) (c - 1)) ∧ wx.cell? ⟨w2.heap.size, 0, none⟩ = some (.int .i64 M) ∧ wx.cell? ⟨w2.heap.size, 1, none⟩ = some (.slice ar nx cr) from
        ⟨(boxq ((hx.block _ (by omega)).trans K4.out)).1, (boxq ((hx.block _ (by omega)).trans K4.out)).2, (boxq ((hx.block _ (by omega)).trans Q4.out)).1, (boxq ((hx.block _ (by omega)).trans Q4.out)).2⟩)
      have RES := Lib.hid fun (wx : World) (hx : Below W4.heap.size W4 wx) => (show (wx.cell? ⟨w.heap.size + 1, 0, none⟩ = some (.int .i64 0) ∧ wx.cell? ⟨w.heap.size + 1, 1, none⟩ = some (.slice none 0 0)) ∧ (wx.cell? ⟨w.heap.size + 1 + 1, 0, none⟩ = some (.int .i64 0) ∧ wx.cell? ⟨w.heap.size + 1 + 1, 1, none⟩ = some (.slice none 0 0)) ∧ wx.frozen? ⟨w.heap.size + 1, 0, none⟩ = false ∧ wx.frozen? ⟨w.heap.size + 1, 1, none⟩ = false ∧ wx.frozen? ⟨w.heap.size + 1 + 1, 0, none⟩ = false ∧ wx.frozen? ⟨w.heap.size + 1 + 1, 1, none⟩ = false from
        ⟨boxq ((hx.block _ (by omega)).trans R4.out), boxq ((hx.block _ (by omega)).trans T4.out), frozen_of_row _ _ _ _ _ ((hx.block _ (by omega)).trans R4.out), frozen_of_row _ _ _ _ _ ((hx.block _ (by omega)).trans R4.out), frozen_of_row _ _ _ _ _ ((hx.block _ (by omega)).trans T4.out), frozen_of_row _ _ _ _ _ ((hx.block _ (by omega)).trans T4.out)⟩)
      have DR : Hid (Below W4.heap.size W4 W4.drew) := Lib.hid (Below.refl _ _).drew
      obtain ⟨y1, y2, y3, y4⟩ := KEEP.out _ DR.out
      have Z4 := Lib.hid z4
      have z6 : w2.heap.size < W4.heap.size := by omega
      have hdl : (l.drop 1).length = n - 1 := by rw [List.length_drop, HLEN.out]
      have HDL := Lib.hid hdl
      obtain ⟨g2, hg2⟩ : ∃ g, w.heap.size + 1 + 1 = g := ⟨_, rfl⟩
      rw [hg2] at RES T4 ⊢
      have HG2 := Lib.hid hg2
      have n1 : ¬ w.heap.size = w.heap.size + 1 := by omega
      have n2 : ¬ w.heap.size = g2 := by omega
      have n9 : ¬ g2 = w.heap.size := by omega
      have n5 : ¬ w.heap.size + 1 = g2 := by omega
      have n6 : ¬ g2 = w.heap.size + 1 := by omega
      have n3 : ¬ w2.heap.size = w.heap.size + 1 := by omega
      have n4 : ¬ w2.heap.size = g2 := by omega
      have n7 : ¬ w.heap.size + 1 = w2.heap.size := by omega
      have n8 : ¬ g2 = w2.heap.size := by omega
      clear k4 q4 r4 t4 b4 hoi hl4 hr4 hbd z4 hdl hg2
      go_region_held3 (fun w' => w'.cell? ⟨w.heap.size, 0, none⟩ = some (.int .i64 cap) ∧ w'.cell? ⟨w.heap.size, 1, none⟩ = some (.slice AA (n - 1) (c - 1)) ∧ w'.cell? ⟨w2.heap.size, 0, none⟩ = some (.int .i64 M) ∧ w'.cell? ⟨w2.heap.size, 1, none⟩ = some (.slice ar nx cr))
        (first | (go_split_ands; refine ⟨?_, ?_, ?_, ?_⟩ <;> with_reducible assumption) | (go_keep; done))
        (first
          | (go_simp
             go_at_call 35
             refine HCP.out.mono ?_
             rintro e w5 ⟨v, rfl, hll, hb⟩
             have hb5 : Below W4.heap.size W4 w5 := DR.out.trans hb
             obtain ⟨s1, s2, s3, s4⟩ := KEEP.out _ hb5
             obtain ⟨⟨u1, u2⟩, ⟨u3, u4⟩, u5, u6, u7, u8⟩ := RES.out _ hb5
             obtain ⟨av, cv, rfl, -, -⟩ := hll.form
             rw [HDL.out] at hll ⊢
             have HL5 := Lib.hid (show ListL ownItem 29 W4.heap.size w5.heap.size w5 (.slice av (n - 1) cv) (l.drop 1) from hll)
             have HB5 := Lib.hid hb5
             clear hll hb hb5))
      have hs5 := HB5.out.size
      have hg2 := HG2.out
      obtain ⟨e0, e1, hsz, hot, hbe⟩ := two_stored (wx := w5) (g1 := w.heap.size + 1) (g2 := g2) (by omega) ((HB5.out.block _ (by omega)).trans R4.out) ((HB5.out.block _ (by omega)).trans T4.out) (.int .i64 cap) (.slice av (n - 1) cv) (.int .i64 M) (.slice ar nx cr)
      have hbw := hbe w.heap.size w (by omega) (by omega) (B4.out.trans (HB5.out.mono (by omega)))
      have hl2 := (((HL5.out.storedQ (w.heap.size + 1) 0 (.int .i64 cap) (by omega)).storedQ (w.heap.size + 1) 1 (.slice av (n - 1) cv) (by omega)).storedQ g2 0 (.int .i64 M) (by omega)).storedQ g2 1 (.slice ar nx cr) (by omega)
      have E0 := Lib.hid e0
      have E1 := Lib.hid e1
      have HSZ := Lib.hid hsz
      have HOT := Lib.hid hot
      have HBW := Lib.hid hbw
      have HL2 := Lib.hid hl2
      clear hg2 e0 e1 hsz hot hbw hbe hl2
      go_wp2_with fail
      refine bodyPost_ret (results_two_slot rfl _ _ (w.heap.size + 1) g2 26 29 #[.int .i64 cap, .slice av (n - 1) cv] #[.int .i64 M, .slice ar nx cr] (0, 0) (0, 0) _ _ rfl rfl (.bool true) rfl E0.out E1.out Try.underlying26 rfl (by kernel_rfl) Try.underlying29 rfl (by kernel_rfl)) rfl ?_
      have hg2 := HG2.out
      refine ⟨[.int .i64 cap, .slice av (n - 1) cv], [.int .i64 M, .slice ar nx cr], FromB W4.heap.size w5.heap.size, FromB w1.heap.size W4.heap.size, by rw [HR.out], ?_, ?_, fun b o f => ⟨by have := f.1; omega, by rw [HSZ.out]; exact f.2⟩, fun b o f => ⟨by have := f.1; omega, by rw [HSZ.out]; have := f.2; omega⟩, fun b o f g => by have h1 := f.1; have h2 := g.2; omega, HBW.out⟩
      · obtain ⟨a', cap', e1, e2, e3, e4⟩ := HL2.out.list (by decide)
        rw [HDL.out] at e1 e2 e4
        rw [HPN.out]
        exact ownQueue_owns.2 ⟨a', n - 1, cap', by rw [e1], e2, e3, e4⟩
      · rw [HPX.out]
        refine ownItem.owns_keep HOI.out fun k oo f => ?_
        have e := (HOT.out k (by have := f.1; omega) (by have := f.1; omega)).trans (HB5.out.block k f.2)
        exact ⟨World.cell?_of_block (a := ⟨k, oo, none⟩) e, World.frozen?_of_block (a := ⟨k, oo, none⟩) e⟩
    · have g0 : decide ((n : Int) = 0) = true := decide_eq_true (by omega)
      obtain rfl : n = 0 := by omega
      go_wp2_with fail
      refine HOK.out.mono ?_
      rintro e w1 ⟨rfl, hb⟩
      have HB := Lib.hid hb
      obtain ⟨⟨z0, z1⟩, ⟨x0, x1⟩, ⟨r0, r1⟩, f0, f1, f2, f3, f4⟩ := CELLS.out w1 hb
      clear hb
      go_wp2_with fail
      refine (HCP.out w1 HB.out).mono ?_
      rintro e w2 ⟨v, rfl, hll, hb⟩
      have hb2 := HB.out.trans (hb.mono HB.out.size)
      have E2 := Lib.hid (END.out (by rw [HPB.out]; rfl) w2 w1.heap.size v hb2 HB.out.size hll)
      obtain ⟨⟨z0, z1⟩, ⟨x0, x1⟩, ⟨r0, r1⟩, f0, f1, f2, f3, f4⟩ := CELLS.out w2 hb2
      obtain ⟨av, cv, rfl, -, -⟩ := hll.form
      rw [HLEN.out] at E2 ⊢
      obtain ⟨e0, e1, -, -, -⟩ := two_stored (g1 := w.heap.size + 1) (g2 := w.heap.size + 1 + 1) (by omega) ((hb2.block _ (by omega)).trans K1.out) ((hb2.block _ (by omega)).trans K2.out) (.int .i64 cap) (.slice av 0 cv) (.int .i64 0) (.slice none 0 0)
      have E0 := Lib.hid e0
      have E1 := Lib.hid e1
      clear hll hb hb2 e0 e1
      go_wp2_with fail
      exact bodyPost_ret (results_two_slot rfl _ _ (w.heap.size + 1) (w.heap.size + 1 + 1) 26 29 #[.int .i64 cap, .slice av 0 cv] #[.int .i64 0, .slice none 0 0] (0, 0) (0, 0) _ _ rfl rfl (.bool false) rfl E0.out E1.out Try.underlying26 rfl (by kernel_rfl) Try.underlying29 rfl (by kernel_rfl)) rfl E2.out
end Go.Proofs.Ytdoofapjhgahgaa
