/-
  Queues: the program's copy of a queue.
-/
import Derived.Test.YtdoofapjhgahgaaQueJ
import Derived.Test.YtdoofapjhgahgaaHeldK
namespace Go.Proofs.Ytdoofapjhgahgaa
open Go.RowKit Go.Sort
set_option linter.unusedVariables false
set_option linter.unusedSimpArgs false

set_option maxRecDepth 100000 in
set_option maxHeartbeats 6400000 in
theorem implCopyQueue_o (w : World) (cap : Int) (a : Option Addr) (n c : Nat) (l : List dItem) (h : ListAt shItem (Under w.heap.size) w a n l) (hn : n ≤ 1048576) (hb : Shape.sum shItem.bulk l ≤ 1048576) :
    Calls Try.prog 35 #[.agg #[.int .i64 cap, .slice a n c]] w fun e w' => ∃ v, e = .returned (.agg #[.int .i64 cap, v]) ∧ ListL ownItem 29 w.heap.size w'.heap.size w' v l ∧ Below w.heap.size w w' := by
  obtain ⟨i0, hi, hz0, hz1, hz2⟩ := info_parts infoItem
  have hb0 : (((w.alloc (.cells #[.int .i64 cap, .slice a n c] 26 (0, 0))).alloc (.cells #[.int .i64 0, .slice none 0 0] 26 (0, 0))).alloc (.cells #[.int .i64 cap, .slice none 0 0] 26 (0, 0))).heap[w.heap.size]? = some (.cells #[.int .i64 cap, .slice a n c] 26 (0, 0)) := by
    rw [Below.heap_alloc _ _ _ (by simp; omega), Below.heap_alloc _ _ _ (by simp)]
    exact heap_alloc_new w _
  have hb1 : (((w.alloc (.cells #[.int .i64 cap, .slice a n c] 26 (0, 0))).alloc (.cells #[.int .i64 0, .slice none 0 0] 26 (0, 0))).alloc (.cells #[.int .i64 cap, .slice none 0 0] 26 (0, 0))).heap[w.heap.size + 1]? = some (.cells #[.int .i64 0, .slice none 0 0] 26 (0, 0)) := by
    rw [Below.heap_alloc _ _ _ (by simp)]
    have := heap_alloc_new (w.alloc (.cells #[.int .i64 cap, .slice a n c] 26 (0, 0))) (.cells #[.int .i64 0, .slice none 0 0] 26 (0, 0))
    simpa using this
  have hb2 : (((w.alloc (.cells #[.int .i64 cap, .slice a n c] 26 (0, 0))).alloc (.cells #[.int .i64 0, .slice none 0 0] 26 (0, 0))).alloc (.cells #[.int .i64 cap, .slice none 0 0] 26 (0, 0))).heap[w.heap.size + 1 + 1]? = some (.cells #[.int .i64 cap, .slice none 0 0] 26 (0, 0)) := by
    have := heap_alloc_new ((w.alloc (.cells #[.int .i64 cap, .slice a n c] 26 (0, 0))).alloc (.cells #[.int .i64 0, .slice none 0 0] 26 (0, 0))) (.cells #[.int .i64 cap, .slice none 0 0] 26 (0, 0))
    simpa using this
  have hal : Below w.heap.size w (((w.alloc (.cells #[.int .i64 cap, .slice a n c] 26 (0, 0))).alloc (.cells #[.int .i64 0, .slice none 0 0] 26 (0, 0))).alloc (.cells #[.int .i64 cap, .slice none 0 0] 26 (0, 0))) := (((Below.refl _ _).alloc (Nat.le_refl _) _).alloc (by simp) _).alloc (by simp; omega) _
  have hs3 : (((w.alloc (.cells #[.int .i64 cap, .slice a n c] 26 (0, 0))).alloc (.cells #[.int .i64 0, .slice none 0 0] 26 (0, 0))).alloc (.cells #[.int .i64 cap, .slice none 0 0] 26 (0, 0))).heap.size = w.heap.size + 3 := by simp
  have HL := Lib.hid h
  have HLEN := Lib.hid h.1
  have HBK := Lib.hid hb
  have HB0 := Lib.hid hb0
  have HB1 := Lib.hid hb1
  have HB2 := Lib.hid hb2
  have HA := Lib.hid hal
  have HS3 := Lib.hid hs3
  clear h hb hb0 hb1 hb2 hal hs3
  go_enter Try.func35, Try.ntmps35
  go_upto_region 2 with fail
  generalize (((w.alloc (.cells #[.int .i64 cap, .slice a n c] 26 (0, 0))).alloc (.cells #[.int .i64 0, .slice none 0 0] 26 (0, 0))).alloc (.cells #[.int .i64 cap, .slice none 0 0] 26 (0, 0))) = W0 at HB0 HB1 HB2 HA HS3 ⊢
  obtain ⟨z0, z1⟩ := boxq HB0.out
  have hs3 := HS3.out
  go_wp2_with fail
  clear z0 z1
  go_loopw [12] (fun i wr => ∃ (k : Nat) (v : Value), k ≤ n ∧ i = .int .i64 k ∧ ListL ownItem 29 (w.heap.size + 3) wr.heap.size wr v (l.take k) ∧ wr.heap[w.heap.size + 1 + 1]? = some (.cells #[.int .i64 cap, v] 26 (0, 0)) ∧ Below (w.heap.size + 2) W0 wr) (fun i _ => n - (intOf i).toNat)
  case atStart => exact ⟨0, .slice none 0 0, Nat.zero_le _, rfl, ListL.nil _ _ (Nat.le_refl _), HB2.out, Below.refl _ _⟩
  case round =>
    obtain ⟨k, v, hk, rfl, hl, hmk, hb⟩ := hrel
    have hsz := hb.size
    have hww : Below w.heap.size w wr := HA.out.trans (hb.mono (Nat.le_add_right _ _))
    by_cases hlt : k < n
    · obtain ⟨b, o, x, ax, nx, cx, hx, rfl, hbB, hc0, hc1, -, -, hlx⟩ := item_at HL.out k hlt
      have hbx := bulk_mem shItem.bulk l k x hx
      rw [shItem_bulk, bulk_ints, hlx.1] at hbx
      have hnx : nx ≤ 1048576 := by have := HBK.out; omega
      have hix := hlx.ints hnx
      obtain ⟨M, hM⟩ : ∃ M, x.1 = M := ⟨_, rfl⟩
      rw [hM] at hc0
      have htk : l.take (k + 1) = l.take k ++ [x] := by rw [List.take_add_one, hx]; rfl
      have hxe : x = (M, x.2) := by rw [← hM]
      obtain ⟨av, cv, rfl, -, -⟩ := hl.form
      have htl : (l.take k).length = k := by rw [List.length_take, HLEN.out]; omega
      rw [htl] at hl hmk
      have d0 := (hww.cell (p := ⟨b, o + k * 2, none⟩) hbB).trans hc0
      have d1 := (hww.cell (p := ⟨b, o + k * 2 + 1, none⟩) hbB).trans hc1
      have hal := (Below.refl wr.heap.size wr).alloc (Nat.le_refl _) (.cells #[.int .i64 M, .slice ax nx cx] 29 (0, 0))
      have hbk := heap_alloc_new wr (.cells #[.int .i64 M, .slice ax nx cx] 29 (0, 0))
      have hs1 : (wr.alloc (.cells #[.int .i64 M, .slice ax nx cx] 29 (0, 0))).heap.size = wr.heap.size + 1 := by simp
      have HIX := Lib.hid hix
      have HLK := Lib.hid hl
      have HMK := Lib.hid hmk
      have HTK := Lib.hid htk
      have HXE := Lib.hid hxe
      have HBW := Lib.hid hb
      have HWW := Lib.hid hww
      have HAL := Lib.hid hal
      have HBN := Lib.hid hbk
      have HS1 := Lib.hid hs1
      clear hx hlx hix hc0 hc1 hM htk hxe hl hmk hb hww hbx hal hbk hs1
      go_upto_region 5 with fail
      clear d0 d1
      generalize wr.alloc (.cells #[.int .i64 M, .slice ax nx cx] 29 (0, 0)) = wb at HAL HBN HS1 ⊢
      have hs1 := HS1.out
      -- whatever comes behind wb
      have KEEP := Lib.hid fun (wx : World) (hx : Below wb.heap.size wb wx) => (show wx.cell? ⟨w.heap.size + 1 + 1, 1, none⟩ = some (.slice av k cv) ∧ wx.cell? ⟨wr.heap.size, 0, none⟩ = some (.int .i64 M) ∧ wx.cell? ⟨wr.heap.size, 1, none⟩ = some (.slice ax nx cx) from
        ⟨(boxq ((hx.block _ (by omega)).trans ((HAL.out.block _ (by omega)).trans HMK.out))).2, boxq ((hx.block _ (by omega)).trans HBN.out)⟩)
      have hd : Below wb.heap.size wb wb.drew := (Below.refl _ _).drew
      have HD := Lib.hid hd
      have hS0 := KEEP.out _ hd
      clear hd
      refine wp_region_K (S := fun wx => wx.cell? ⟨w.heap.size + 1 + 1, 1, none⟩ = some (.slice av k cv) ∧ wx.cell? ⟨wr.heap.size, 0, none⟩ = some (.int .i64 M) ∧ wx.cell? ⟨wr.heap.size, 1, none⟩ = some (.slice ax nx cx)) (by kernel_rfl) ?_
      refine anyK_take (i := 0) (v := ?_) rfl (by kernel_rfl) (by kernel_rfl) (by kernel_rfl) (fun _ _ _ h => h) (Or.inl ⟨by rfl, ?_⟩) hS0 ?_
      rotate_left
      · (intro wS hS; obtain ⟨sA, sB, sC⟩ := hS; go_simp; try with_reducible rfl)
      simp only [Act.put, List.setIfInBounds_toArray, List.set_cons_zero, List.set_cons_succ]
      refine anyK_take (i := 1) (v := ?_) rfl (by kernel_rfl) (by kernel_rfl) (by kernel_rfl) (fun _ _ _ h => h) (Or.inl ⟨by rfl, ?_⟩) hS0 ?_
      rotate_left
      · (intro wS hS; obtain ⟨sA, sB, sC⟩ := hS; go_simp; try with_reducible rfl)
      simp only [Act.put, List.setIfInBounds_toArray, List.set_cons_zero, List.set_cons_succ]
      refine anyK_take (i := 2) (v := ?_) rfl (by kernel_rfl) (by kernel_rfl) (by kernel_rfl) (fun _ _ _ h => h) (Or.inl ⟨by rfl, ?_⟩) hS0 ?_
      rotate_left
      · (intro wS hS; obtain ⟨sA, sB, sC⟩ := hS; go_simp; try with_reducible rfl)
      simp only [Act.put, List.setIfInBounds_toArray, List.set_cons_zero, List.set_cons_succ]
      refine anyK_step (i := 3) (by kernel_rfl) rfl (by rfl) (fun K hK => ?_)
      go_simp
      refine (implCopyItem_o wb.drew M ax nx cx x.2 (((HIX.out.below HWW.out (Nat.le_refl _)).below ((HAL.out.mono HWW.out.size).drew) (Nat.le_refl _)).le (by have := HWW.out.size; show w.heap.size ≤ wb.heap.size; omega))).mono ?_
      rintro e w2 ⟨ar, cr, rfl, hr, hb⟩
      have hb2 : Below wb.heap.size wb w2 := HD.out.trans hb
      have hS2 := KEEP.out _ hb2
      have hs2 : wb.heap.size ≤ w2.heap.size := hb2.size
      have HR2 := Lib.hid (show Row wb.heap.size w2 (.slice ar nx cr) x.2 from hr)
      have HB2' := Lib.hid hb2
      clear hr hb hb2
      go_wp2_with fail
      refine hK _ _ (.inr hS2) ?_
      try simp only [Act.put, List.setIfInBounds_toArray, List.set_cons_zero, List.set_cons_succ]
      clear hK
      refine anyK_step (i := 4) (by kernel_rfl) rfl (by rfl) (fun K hK => ?_)
      go_simp
      have HB3 := Lib.hid (HB2'.out.alloc hs2 (.cells #[.int .i64 M, .slice ar nx cr] 29 (0, 0)))
      refine hK _ _ (.inr (KEEP.out _ HB3.out)) ?_
      try simp only [Act.put, List.setIfInBounds_toArray, List.set_cons_zero, List.set_cons_succ]
      clear hK
      refine anyK_step (i := 5) (by kernel_rfl) rfl (by rfl) (fun K hK => ?_)
      refine of_step rfl (step_append_one (ops := #[]) w2 (S := ownItem) (T := 29) (Ts := 24) (by rfl) _ _ (by rfl) i0 (.agg #[.int .i64 0, .slice none 0 0]) 32 Try.underlying24 hi hz0 hz1 hz2 rfl (by decide) (by decide) (w.heap.size + 3) wr.heap.size (by omega) _ (l.take k) (M, x.2) [.int .i64 M, .slice ar nx cr] (FromB wb.heap.size w2.heap.size) (by rfl) ((HLK.out.below HAL.out (Nat.le_refl _)).below HB2'.out (by omega)) (HR2.out.ownItem M) (fun b o f => ⟨by have := f.1; omega, f.2⟩) item_one (by rfl) (by rw [List.length_take]; omega) ?_)
      intro ar' nr' cr' w4 hl4 hb4 hg4 hset
      have hk4 : w4.heap[w.heap.size + 1 + 1]? = some (.cells #[.int .i64 cap, .slice av k cv] 26 (0, 0)) := (hb4.block _ (by omega)).trans ((HB2'.out.block _ (by omega)).trans ((HAL.out.block _ (by omega)).trans HMK.out))
      have hb04 : Below (w.heap.size + 2) W0 w4 := ((HBW.out.trans (HAL.out.mono (by omega))).trans (HB2'.out.mono (by omega))).trans (hb4.mono (by omega))
      have hne : some wr.heap.size ≠ (Value.slice av k cv).ownBlock := fun e => by
        obtain ⟨us, G, p1, p2, -⟩ := HLK.out.all
        have := p2 _ e.symm
        omega
      have hitem : w4.heap[wr.heap.size]? = some (.cells #[.int .i64 M, .slice ax nx cx] 29 (0, 0)) := (hg4.block _ (by omega) hne).trans ((HB2'.out.block _ (by omega)).trans HBN.out)
      have hS4 : w4.cell? ⟨w.heap.size + 1 + 1, 1, none⟩ = some (.slice av k cv) ∧ w4.cell? ⟨wr.heap.size, 0, none⟩ = some (.int .i64 M) ∧ w4.cell? ⟨wr.heap.size, 1, none⟩ = some (.slice ax nx cx) := ⟨(boxq hk4).2, boxq hitem⟩
      have hs4 := hb4.size
      have HL4 := Lib.hid hl4
      have HB4 := Lib.hid hb04
      have HK4 := Lib.hid hk4
      clear hset hl4 hb4 hg4 hb04 hk4 hne hitem
      refine hK _ _ (.inr hS4) ?_
      try simp only [Act.put, List.setIfInBounds_toArray, List.set_cons_zero, List.set_cons_succ]
      clear hK
      refine anyK_take (i := 6) (v := ?_) rfl (by kernel_rfl) (by kernel_rfl) (by kernel_rfl) (fun _ _ _ h => h) (Or.inl ⟨by rfl, ?_⟩) hS4 ?_
      rotate_left
      · (intro wS hS; obtain ⟨sA, sB, sC⟩ := hS; go_simp; try with_reducible rfl)
      simp only [Act.put, List.setIfInBounds_toArray, List.set_cons_zero, List.set_cons_succ]
      obtain ⟨s4, -, -⟩ := hS4
      have s5 : w4.frozen? ⟨w.heap.size + 1 + 1, 1, none⟩ = false := frozen_of_row _ _ _ _ _ HK4.out
      refine anyK_step (i := 7) (by kernel_rfl) rfl (by rfl) (fun K hK => ?_)
      go_simp
      refine hK _ _ (.inl (last_of (by kernel_rfl))) ?_
      clear hK s4 s5
      refine anyK_done (by kernel_rfl) ?_ _
      have k5 := heap_setCell_same w4 (w.heap.size + 1 + 1) 1 _ _ (.slice ar' nr' cr') HK4.out
      have hl5 := (HL4.out.storedQ (w.heap.size + 1 + 1) 1 (.slice ar' nr' cr') (by omega))
      have b5 := HB4.out.setCell (p := ⟨w.heap.size + 1 + 1, 1, none⟩) (Nat.le_refl _) (.slice ar' nr' cr')
      have hs5 : (w4.setCell ⟨w.heap.size + 1 + 1, 1, none⟩ (.slice ar' nr' cr')).heap.size = w4.heap.size := by simp
      rw [← hs5] at hl5
      have K5 := Lib.hid k5
      have HL5 := Lib.hid hl5
      have HB5 := Lib.hid b5
      clear k5 hl5 b5 hs5 hS0 hS2
      generalize w4.setCell ⟨w.heap.size + 1 + 1, 1, none⟩ (.slice ar' nr' cr') = W5 at K5 HL5 HB5 ⊢
      go_wp2_with fail
      go_roundw
      case rel =>
        refine ⟨k + 1, _, by omega, by go_num, ?_, K5.out, HB5.out⟩
        rw [HTK.out]
        have h5 := HL5.out
        rw [← HXE.out] at h5
        exact h5
      case measure => simp [intOf]; omega
    · obtain rfl : k = n := by omega
      rw [List.take_of_length_le (Nat.le_of_eq HLEN.out)] at hl
      obtain ⟨y0, y1⟩ := boxq hmk
      have hb1 := (hb.block (w.heap.size + 1) (by omega)).trans HB1.out
      obtain ⟨x0, x1⟩ := boxq hb1
      have x2 : wr.frozen? ⟨w.heap.size + 1, 0, none⟩ = false := frozen_of_row _ _ _ _ _ hb1
      have x3 : wr.frozen? ⟨w.heap.size + 1, 1, none⟩ = false := frozen_of_row _ _ _ _ _ hb1
      have e1 := heap_setCell_same _ _ 1 _ _ v (heap_setCell_same _ _ 0 _ _ (.int .i64 cap) hb1)
      have hl2 := (hl.storedQ (w.heap.size + 1) 0 (.int .i64 cap) (by omega)).storedQ (w.heap.size + 1) 1 v (by omega)
      have hl3 := hl2.wide (lo' := w.heap.size) (hi' := ((wr.setCell ⟨w.heap.size + 1, 0, none⟩ (.int .i64 cap)).setCell ⟨w.heap.size + 1, 1, none⟩ v).heap.size) (by omega) (by simp) (Nat.le_refl _)
      have hbb := (hww.setCell (p := ⟨w.heap.size + 1, 0, none⟩) (Nat.le_add_right _ _) (.int .i64 cap)).setCell (p := ⟨w.heap.size + 1, 1, none⟩) (Nat.le_add_right _ _) v
      obtain ⟨av, cv, rfl, -, -⟩ := hl.form
      have HL3 := Lib.hid hl3
      have HBB := Lib.hid hbb
      have E1 := Lib.hid e1
      clear hl hl2 hl3 hbb e1 hmk hb hww hb1
      go_wp2_with fail
      refine bodyPost_ret (results_cell_row rfl _ _ (w.heap.size + 1) 26 #[.int .i64 cap, .slice av l.length cv] (0, 0) _ rfl E1.out Try.underlying26 rfl (by kernel_rfl)) rfl ?_
      exact ⟨_, rfl, HL3.out, HBB.out⟩
end Go.Proofs.Ytdoofapjhgahgaa
