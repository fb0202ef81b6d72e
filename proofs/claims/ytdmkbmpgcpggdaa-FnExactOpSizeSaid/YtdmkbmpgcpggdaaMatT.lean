/-
  The model's Transpose.
-/
import Derived.Test.YtdmkbmpgcpggdaaMatW
import Derived.Deep.AppendLies
import Derived.Deep.RegionLaw
namespace Go.Proofs.Ytdmkbmpgcpggdaa
open Go.RowKit
set_option linter.unusedVariables false

theorem ints_news {B : Nat} {w : World} {b o n : Nat} {xs : List Int} (h : IntsIn B w (some ⟨b, o, none⟩) n xs) : ∀ j u, (icells xs)[j]? = some u → w.cell? ((⟨b, o, none⟩ : Addr).add j) = some u := by
  intro j u hu
  have hj : j < xs.length := by
    have := (List.getElem?_eq_some_iff.1 hu).1
    rwa [icells_length] at this
  obtain ⟨b', o', e, _, hc⟩ := h.cells j (by rw [← h.len]; exact hj)
  cases e
  rw [icells_get xs j hj] at hu
  cases hu
  rw [Addr.add_lit]
  exact hc

set_option maxRecDepth 100000 in
set_option maxHeartbeats 1600000 in
theorem specTranspose_any (w : World) (r c : Int) (a : Option Addr) (n cp : Nat) (xs : List Int) (h : IntsIn w.heap.size w a n xs) :
    Calls Try.prog 41 #[.agg #[.int .i64 r, .int .i64 c, .slice a n cp]] w (MatV w (trR r c xs) (trC r c xs) (trN r c xs)) := by
  obtain ⟨i0, hi, hz0, hz1, hz2⟩ := info_parts Try.infoI64
  have hal : Below w.heap.size w ((w.alloc (.cells #[.int .i64 r, .int .i64 c, .slice a n cp] 52 (0, 0))).alloc (.cells #[.int .i64 0, .int .i64 0, .slice none 0 0] 52 (0, 0))) := ((Below.refl _ _).alloc (Nat.le_refl _) _).alloc (by simp) _
  have hb0 : ((w.alloc (.cells #[.int .i64 r, .int .i64 c, .slice a n cp] 52 (0, 0))).alloc (.cells #[.int .i64 0, .int .i64 0, .slice none 0 0] 52 (0, 0))).heap[w.heap.size]? = some (.cells #[.int .i64 r, .int .i64 c, .slice a n cp] 52 (0, 0)) := by
    rw [Below.heap_alloc _ _ _ (by simp)]
    exact heap_alloc_new w _
  have hb1 : ((w.alloc (.cells #[.int .i64 r, .int .i64 c, .slice a n cp] 52 (0, 0))).alloc (.cells #[.int .i64 0, .int .i64 0, .slice none 0 0] 52 (0, 0))).heap[w.heap.size + 1]? = some (.cells #[.int .i64 0, .int .i64 0, .slice none 0 0] 52 (0, 0)) := by
    have := heap_alloc_new (w.alloc (.cells #[.int .i64 r, .int .i64 c, .slice a n cp] 52 (0, 0))) (.cells #[.int .i64 0, .int .i64 0, .slice none 0 0] 52 (0, 0))
    simpa using this
  have hsz : w.heap.size + 1 < ((w.alloc (.cells #[.int .i64 r, .int .i64 c, .slice a n cp] 52 (0, 0))).alloc (.cells #[.int .i64 0, .int .i64 0, .slice none 0 0] 52 (0, 0))).heap.size := by simp
  have hl := h.len
  have HX := Lib.hid (h.below hal (Nat.le_refl _))
  have HM := fun (w : World) (h : IntsIn w.heap.size w a n xs) => specMatOk_any w r c a n cp xs h
  have HA := Lib.hid hal
  have HB0 := Lib.hid hb0
  have HB1 := Lib.hid hb1
  clear h hal hb0 hb1
  unfold trR trC trN
  cases hm : matOkB r c xs with
  | false =>
    rw [hm] at HM
    replace HM := Lib.hid HM
    clear hm hl
    go_enter Try.func41, Try.ntmps41
    go_wp2_with fail
    generalize (w.alloc (.cells #[.int .i64 r, .int .i64 c, .slice a n cp] 52 (0, 0))).alloc (.cells #[.int .i64 0, .int .i64 0, .slice none 0 0] 52 (0, 0)) = wa at HX HA HB0 HB1 hsz ⊢
    have hsa := HA.out.size
    refine (HM.out _ (HX.out.le hsa)).mono ?_
    rintro e w1 ⟨rfl, hb⟩
    have hr := (hb.block (w.heap.size + 1) hsz).trans HB1.out
    have HB := Lib.hid hb
    obtain ⟨⟨d0, d1, d2⟩, f0, f1, f2⟩ := cells3 hr
    have HR := Lib.hid hr
    clear hb hr
    go_wp2_with fail
    refine bodyPost_ret (results_cell_row rfl _ _ (w.heap.size + 1) 52 #[.int .i64 0, .int .i64 0, .slice none 0 0] (0, 0) _ rfl ?_ Try.underlying52 rfl (by kernel_rfl)) rfl ?_
    · exact store3 HR.out _ _ _
    exact ⟨_, rfl, Row.nil _ _, (((HA.out.trans (HB.out.mono hsa)).setCell (by simp) _).setCell (by simp) _).setCell (by simp) _⟩
  | true =>
    obtain ⟨m, q, rfl, rfl, ⟨m1, m6⟩, ⟨q1, q6⟩, hn, ha⟩ := matOkB_has hm
    rw [hl] at hn
    rw [hm] at HM
    replace HM := Lib.hid HM
    simp only [if_true, Int.toNat_natCast]
    obtain ⟨F, hF⟩ : ∃ F : Nat → Nat → Int, (fun k i => xs.getD (i * q + k) 0) = F := ⟨_, rfl⟩
    have hFc : ∀ k, mapK (F k) m = colOf m q xs k := fun k => by rw [← hF]; rfl
    rw [hF]
    have GF := Lib.hid hFc
    have HN := Lib.hid hn
    clear hm hl ha hF hFc hn
    go_enter Try.func41, Try.ntmps41
    go_wp2_with fail
    generalize (w.alloc (.cells #[.int .i64 m, .int .i64 q, .slice a n cp] 52 (0, 0))).alloc (.cells #[.int .i64 0, .int .i64 0, .slice none 0 0] 52 (0, 0)) = wa at HX HA HB0 HB1 hsz ⊢
    have hsa := HA.out.size
    refine (HM.out _ (HX.out.le hsa)).mono ?_
    rintro e w1 ⟨rfl, hb⟩
    have hr1 := (hb.block (w.heap.size + 1) hsz).trans HB1.out
    have hr0 := (hb.block w.heap.size (by omega)).trans HB0.out
    have hs1 := hb.size
    have HX1 := Lib.hid (HX.out.below hb hsa)
    have HA1 := Lib.hid (HA.out.trans (hb.mono hsa))
    obtain ⟨⟨d0, d1, d2⟩, -⟩ := cells3 hr0
    have HR0 := Lib.hid hr0
    have HR1 := Lib.hid hr1
    clear hb hr0 hr1 HX HA HB0 HB1
    go_wp2_with fail
    clear d0 d1 d2
    have hb := (Below.refl w1.heap.size w1).alloc (Nat.le_refl _) (.cells #[.int .i64 q, .int .i64 m, .slice none 0 0] 52 (0, 0))
    have hbx := heap_alloc_new w1 (.cells #[.int .i64 q, .int .i64 m, .slice none 0 0] 52 (0, 0))
    have hs2 : w1.heap.size + 1 ≤ (w1.alloc (.cells #[.int .i64 q, .int .i64 m, .slice none 0 0] 52 (0, 0))).heap.size := by simp
    generalize w1.alloc (.cells #[.int .i64 q, .int .i64 m, .slice none 0 0] 52 (0, 0)) = wb at hb hbx hs2 ⊢
    have HBB := Lib.hid hb
    have HBX := Lib.hid hbx
    clear hb hbx
    go_loopw [4] (fun i wr => ∃ (j : Nat) (v : Value), j ≤ q ∧ i = .int .i64 j ∧ Row (w1.heap.size + 1) wr v (gridK F m j) ∧ wr.heap[w1.heap.size]? = some (.cells #[.int .i64 q, .int .i64 m, v] 52 (0, 0)) ∧ Below w1.heap.size w1 wr ∧ w1.heap.size + 1 ≤ wr.heap.size) (fun i _ => q - (intOf i).toNat)
    case atStart => exact ⟨0, .slice none 0 0, Nat.zero_le _, rfl, Row.nil _ _, HBX.out, HBB.out, hs2⟩
    case round =>
      obtain ⟨j, v, hj, rfl, hrow, hbx, hb, hs⟩ := hrel
      have HLEN := Lib.hid (gridK_length F m j)
      obtain ⟨a4, c4, rfl, -⟩ := hrow.form
      obtain ⟨⟨d0, d1, d2⟩, f0, f1, f2⟩ := cells3 hbx
      have hr0 := (hb.block w.heap.size (by omega)).trans HR0.out
      obtain ⟨⟨g0, g1, g2⟩, -⟩ := cells3 hr0
      have HR := Lib.hid hrow
      have HBX1 := Lib.hid hbx
      have HB := Lib.hid hb
      have HR00 := Lib.hid hr0
      clear hrow hbx hb hr0
      by_cases hlj : j < q
      · have hz36 : j * m ≤ 36 := le36 (by omega) m6
        obtain ⟨zs, hzs⟩ : ∃ zs, gridK F m j = zs := ⟨_, rfl⟩
        have e2 : gridK F m (j + 1) = zs ++ colOf m q xs j := by rw [gridK, GF.out, hzs]
        have hzl : zs.length = j * m := by rw [← hzs]; exact HLEN.out
        rw [hzs] at HR HBX1 d2
        rw [← hzl] at hz36
        have E2 := Lib.hid e2
        have hdr : Below wr.heap.size wr wr.drew := (Below.refl _ _).drew
        have hIX : IntsIn wr.drew.heap.size wr.drew a n xs := ((HX1.out.below HB.out (by omega)).le (by omega : w.heap.size ≤ wr.heap.size)).below hdr (Nat.le_refl _)
        have hRd : Row (w1.heap.size + 1) wr.drew (.slice a4 zs.length c4) zs := HR.out.below hdr
        have hBd : Below w1.heap.size w1 wr.drew := HB.out.trans (hdr.mono (by omega))
        have hXd : wr.drew.heap[w1.heap.size]? = some (.cells #[.int .i64 q, .int .i64 m, .slice a4 zs.length c4] 52 (0, 0)) := HBX1.out
        have HIX := Lib.hid hIX
        have HRD := Lib.hid hRd
        have HBD := Lib.hid hBd
        have HXD := Lib.hid hXd
        have hsd : w1.heap.size + 1 ≤ wr.drew.heap.size := hs
        clear hzs e2 hIX hRd hBd hXd hdr hzl
        go_wp2_with fail
        go_region_law (first
          | (go_simp; go_at_call 70; (refine (l4Col_any _ m q j a n cp xs HIX.out HN.out hlj m6 q6).mono ?_); rintro e w2 ⟨v2, rfl, hr2, hb2⟩; obtain ⟨a5, c5, rfl, hi5⟩ := hr2.form' (n := m) (Lib.hid (colOf_length _ _ _ _)) (by omega); obtain ⟨b5, o5, rfl, hb5, -⟩ := hi5.cells 0 (by omega); have hr3 := HRD.out.below hb2; have hx3 := (hb2.block w1.heap.size (by omega)).trans HXD.out; have hn5 := ints_news hi5; have hs5 := hb2.size; obtain ⟨⟨p0, p1, p2⟩, r0, r1, r2⟩ := cells3 hx3; have HN5 := Lib.hid hn5; have HX3 := Lib.hid hx3; have HB2 := Lib.hid (HBD.out.trans (hb2.mono (by omega))); have HR3 := Lib.hid hr3; clear hr2 hb2 hi5 hn5 hx3 hr3)
          | (refine step_append_lies _ rfl (.tmp 21) (.tmp 24) 24 rfl (w1.heap.size + 1) 3 i0 (.int .i64 0) 1 8 Try.underlying24 hi hz0 hz1 hz2 rfl (by decide) _ _ _ (by simp [Act.eval]) HR3.out ⟨b5, o5, none⟩ m c5 (icells (colOf m q xs j)) (by simp [Act.eval]) (by rw [icells_length, colOf_length]; omega) HN5.out (icells_one _) (by omega) (by unfold maxLen; omega) (by omega) (by omega) _ rfl ?_; intro g cap w4 hown4 hgrow4 _ _; have hb4 := below_of_grown HR3.out hgrow4 (by omega); have hx4 := (hb4.block w1.heap.size (Nat.lt_succ_self _)).trans HX3.out; have hs4 := hb4.size; clear p0 p1 p2 r0 r1 r2; obtain ⟨⟨p0, p1, p2⟩, r0, r1, r2⟩ := cells3 hx4; have HX4 := Lib.hid hx4; have HB4 := Lib.hid (HB2.out.trans (hb4.mono (by omega))); have HO4 := Lib.hid hown4; clear hown4 hgrow4 hb4 hx4))
        all_goals
          go_wp2_with fail
          go_roundw
          case rel =>
            have hr : Row (w1.heap.size + 1) w4 (.slice (some ⟨g, 0, none⟩) (zs.length + m) cap) (zs ++ colOf m q xs j) := by
              unfold Row
              rw [icells_append, List.length_append, colOf_length]
              exact HO4.out
            have hx := heap_setCell_same w4 w1.heap.size 2 _ _ (.slice (some ⟨g, 0, none⟩) (zs.length + m) cap) HX4.out
            exact ⟨j + 1, .slice (some ⟨g, 0, none⟩) (zs.length + m) cap, by omega, by go_num, by rw [E2.out]; exact hr.setBelow (Nat.lt_succ_self _) _, hx, HB4.out.setCell (Nat.le_refl _) _, by simp; omega⟩
          case measure => simp [intOf]; omega
      · obtain rfl : j = q := by omega
        have hr1 := (HB.out.block (w.heap.size + 1) (by omega)).trans HR1.out
        obtain ⟨⟨k0, k1, k2⟩, l0, l1, l2⟩ := cells3 hr1
        have HRR := Lib.hid hr1
        clear hr1
        go_wp2_with fail
        refine bodyPost_ret (results_cell_row rfl _ _ (w.heap.size + 1) 52 #[.int .i64 j, .int .i64 m, .slice a4 (gridK F m j).length c4] (0, 0) _ rfl ?_ Try.underlying52 rfl (by kernel_rfl)) rfl ?_
        · exact store3 HRR.out _ _ _
        exact ⟨_, rfl, (((HR.out.setBelow (by show w.heap.size + 1 < _; omega) _).setBelow (by show w.heap.size + 1 < _; omega) _).setBelow (by show w.heap.size + 1 < _; omega) _).le (by omega), (((HA1.out.trans (HB.out.mono (by omega))).setCell (by simp) _).setCell (by simp) _).setCell (by simp) _⟩
end Go.Proofs.Ytdmkbmpgcpggdaa
