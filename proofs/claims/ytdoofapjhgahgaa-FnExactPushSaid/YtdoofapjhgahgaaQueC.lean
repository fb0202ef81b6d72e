/-
  Queues: the model's copy.
-/
import Derived.Test.YtdoofapjhgahgaaQueS
import Derived.Test.YtdoofapjhgahgaaPutQ
import Derived.Test.YtdoofapjhgahgaaOwnQ
import Derived.Deep.RegionHeld3
namespace Go.Proofs.Ytdoofapjhgahgaa
open Go.RowKit Go.Sort
set_option linter.unusedVariables false
set_option linter.unusedSimpArgs false

theorem infoItem : (Try.prog.info? 29).map (fun i => (i.zero, i.size, i.bytes)) = some (some (.agg #[.int .i64 0, .slice none 0 0]), 2, 32) := by kernel_rfl
/-- An item of a call's own. -/
theorem Row.ownItem {base : Nat} {w : World} {a : Option Addr} {n c : Nat} {ys : List Int} (h : Row base w (.slice a n c) ys) (m : Int) : ownItem.owns (FromB base w.heap.size) w [.int .i64 m, .slice a n c] (m, ys) := by
  obtain ⟨a', n', c', e', h1, h2, h3⟩ := h.own
  obtain ⟨rfl, rfl, rfl⟩ : a = a' ∧ n = n' ∧ c = c' := by simpa using e'
  exact ownItem_owns.2 ⟨a, n, c, rfl, h1, h2, h3⟩
theorem ListL.storedQ {α : Type} {S : Owned α} {T : TypeId} {lo hi : Nat} {w : World} {v : Value} {xs : List α} (h : ListL S T lo hi w v xs) (g i : Nat) (u : Value) (hg : g < lo) : ListL S T lo hi (w.setCell ⟨g, i, none⟩ u) v xs := by
  have hb : ∀ k, lo ≤ k → (w.setCell ⟨g, i, none⟩ u).heap[k]? = w.heap[k]? := fun k hk => heap_setCell_other _ _ _ _ (by show k ≠ g; omega)
  obtain ⟨us, G, h1, h2, h3, h4, h5⟩ := h.all
  refine ⟨by simpa using h.top, us, G, ⟨h1.1, h1.2.imp id ?_⟩, h2, fun j x hx => ?_, h4, h5⟩
  · rintro ⟨k, cap, cur, rfl, e1, e2, e3⟩
    exact ⟨k, cap, cur, rfl, e1, (hb k e1).trans e2, e3⟩
  · obtain ⟨es, q1, q2⟩ := h3 j x hx
    refine ⟨es, q1, S.owns_keep q2 ((Touched.set (F := fun b _ => b = g) w g i u rfl).same fun b o f f' => ?_)⟩
    have e : b = g := f
    have := (h4 j b o f').1
    omega
theorem item_one {m : Int} {a : Option Addr} {n c : Nat} : ∀ u ∈ [Value.int .i64 m, .slice a n c], u.oneCell' = true := by
  intro u hu
  simp only [List.mem_cons, List.not_mem_nil, or_false] at hu
  rcases hu with rfl | rfl <;> rfl
set_option maxRecDepth 100000 in
set_option maxHeartbeats 6400000 in
theorem specQueueCopy_o (w : World) (cap : Int) (a : Option Addr) (n c : Nat) (l : List dItem) (h : ListAt shItem (Under w.heap.size) w a n l) (hn : n ≤ 1048576) (hb : Shape.sum shItem.bulk l ≤ 1048576) :
    Calls Try.prog 43 #[.agg #[.int .i64 cap, .slice a n c]] w fun e w' => ∃ v, e = .returned (.agg #[.int .i64 cap, v]) ∧ ListL ownItem 29 w.heap.size w'.heap.size w' v l ∧ Below w.heap.size w w' := by
  obtain ⟨i0, hi, hz0, hz1, hz2⟩ := info_parts infoItem
  have h2 : (((w.alloc (.cells #[.int .i64 cap, .slice a n c] 26 (0, 0))).alloc (.cells #[.int .i64 0, .slice none 0 0] 26 (0, 0)))).heap.size = w.heap.size + 2 := by simp
  have hb0 : ((((w.alloc (.cells #[.int .i64 cap, .slice a n c] 26 (0, 0))).alloc (.cells #[.int .i64 0, .slice none 0 0] 26 (0, 0))).alloc (.cells #[] 29 (0, 0)))).heap[w.heap.size]? = some (.cells #[.int .i64 cap, .slice a n c] 26 (0, 0)) := by
    rw [Below.heap_alloc _ _ _ (by simp; omega), Below.heap_alloc _ _ _ (by simp)]
    exact heap_alloc_new w _
  have hb1 : ((((w.alloc (.cells #[.int .i64 cap, .slice a n c] 26 (0, 0))).alloc (.cells #[.int .i64 0, .slice none 0 0] 26 (0, 0))).alloc (.cells #[] 29 (0, 0)))).heap[w.heap.size + 1]? = some (.cells #[.int .i64 0, .slice none 0 0] 26 (0, 0)) := by
    rw [Below.heap_alloc _ _ _ (by simp)]
    have := heap_alloc_new (w.alloc (.cells #[.int .i64 cap, .slice a n c] 26 (0, 0))) (.cells #[.int .i64 0, .slice none 0 0] 26 (0, 0))
    simpa using this
  have he : ListL ownItem 29 (w.heap.size + 2) ((((w.alloc (.cells #[.int .i64 cap, .slice a n c] 26 (0, 0))).alloc (.cells #[.int .i64 0, .slice none 0 0] 26 (0, 0))).alloc (.cells #[] 29 (0, 0)))).heap.size (((w.alloc (.cells #[.int .i64 cap, .slice a n c] 26 (0, 0))).alloc (.cells #[.int .i64 0, .slice none 0 0] 26 (0, 0))).alloc (.cells #[] 29 (0, 0))) (.slice (some ⟨w.heap.size + 2, 0, none⟩) 0 0) [] := by
    have := ListL.empty ownItem 29 (lo := w.heap.size + 2) ((w.alloc (.cells #[.int .i64 cap, .slice a n c] 26 (0, 0))).alloc (.cells #[.int .i64 0, .slice none 0 0] 26 (0, 0))) (by omega)
    rw [h2] at this
    exact this.wide (Nat.le_refl _) (by simp) (Nat.le_refl _)
  have hal : Below w.heap.size w (((w.alloc (.cells #[.int .i64 cap, .slice a n c] 26 (0, 0))).alloc (.cells #[.int .i64 0, .slice none 0 0] 26 (0, 0))).alloc (.cells #[] 29 (0, 0))) := (((Below.refl _ _).alloc (Nat.le_refl _) _).alloc (by simp) _).alloc (by omega) _
  have hs3 : ((((w.alloc (.cells #[.int .i64 cap, .slice a n c] 26 (0, 0))).alloc (.cells #[.int .i64 0, .slice none 0 0] 26 (0, 0))).alloc (.cells #[] 29 (0, 0)))).heap.size = w.heap.size + 3 := by simp
  have HL := Lib.hid h
  have HLEN := Lib.hid h.1
  have HBK := Lib.hid hb
  have HB0 := Lib.hid hb0
  have HB1 := Lib.hid hb1
  have HE := Lib.hid he
  have HA := Lib.hid hal
  have HS3 := Lib.hid hs3
  clear h hb hb0 hb1 he hal hs3 h2
  go_enter Try.func43, Try.ntmps43
  go_wp2_with fail
  generalize (((w.alloc (.cells #[.int .i64 cap, .slice a n c] 26 (0, 0))).alloc (.cells #[.int .i64 0, .slice none 0 0] 26 (0, 0))).alloc (.cells #[] 29 (0, 0))) = W0 at HB0 HB1 HE HA HS3 ⊢
  have hs3 := HS3.out
  go_loopw [3, 4] (fun v i wr => ∃ k : Nat, k ≤ n ∧ i = .int .i64 k ∧ ListL ownItem 29 (w.heap.size + 2) wr.heap.size wr v (l.take k) ∧ Below (w.heap.size + 2) W0 wr) (fun _ i _ => n - (intOf i).toNat)
  case atStart => exact ⟨0, Nat.zero_le _, rfl, HE.out, Below.refl _ _⟩
  case round =>
    obtain ⟨k, hk, rfl, hl, hb⟩ := hrel
    have hsz := hb.size
    have hbx0 := (hb.block w.heap.size (by omega)).trans HB0.out
    have hbx1 := (hb.block (w.heap.size + 1) (by omega)).trans HB1.out
    obtain ⟨z0, z1⟩ := boxq hbx0
    have hww : Below w.heap.size w wr := HA.out.trans (hb.mono (Nat.le_add_right _ _))
    by_cases hlt : k < n
    · obtain ⟨b, o, x, ax, nx, cx, hx, rfl, hbB, hc0, hc1, -, -, hlx⟩ := item_at HL.out k hlt
      have hbx := bulk_mem shItem.bulk l k x hx
      rw [shItem_bulk, bulk_ints, hlx.1] at hbx
      have hnx : nx ≤ 1048576 := by have := HBK.out; omega
      have hix := hlx.ints hnx
      obtain ⟨M, hM⟩ : ∃ M, x.1 = M := ⟨_, rfl⟩
      rw [hM] at hc0
      have htk : l.take (k + 1) = l.take k ++ [x] := by rw [List.take_add_one, hx]; rfl
      have hxe : x = (M, x.2) := by rw [← hM]
      obtain ⟨av, cv, rfl, -, -⟩ := hl.form
      have htl : (l.take k).length = k := by rw [List.length_take, HLEN.out]; omega
      rw [htl] at hl ⊢
      have d0 := (hww.cell (p := ⟨b, o + k * 2, none⟩) hbB).trans hc0
      have d1 := (hww.cell (p := ⟨b, o + k * 2 + 1, none⟩) hbB).trans hc1
      -- whatever comes behind wr
      have KEEP := Lib.hid fun (wx : World) (hx : Below wr.heap.size wr wx) => (show wx.cell? ⟨w.heap.size, 1, none⟩ = some (.slice (some ⟨b, o, none⟩) n c) ∧ wx.cell? ⟨b, o + k * 2, none⟩ = some (.int .i64 M) ∧ wx.cell? ⟨b, o + k * 2 + 1, none⟩ = some (.slice ax nx cx) from
        ⟨(hx.cell (p := ⟨w.heap.size, 1, none⟩) (by show w.heap.size < _; omega)).trans z1, (hx.cell (p := ⟨b, o + k * 2, none⟩) (by show b < _; omega)).trans d0, (hx.cell (p := ⟨b, o + k * 2 + 1, none⟩) (by show b < _; omega)).trans d1⟩)
      have HIX := Lib.hid fun (wx : World) (hx : Below wr.heap.size wr wx) => hix.below (hww.trans (hx.mono hww.size)) (Nat.le_refl _)
      have HLK := Lib.hid fun (wx : World) (hx : Below wr.heap.size wr wx) => hl.below hx (Nat.le_refl _)
      have HTK := Lib.hid htk
      have HXE := Lib.hid hxe
      have HBW := Lib.hid hb
      clear hx hlx hix hc0 hc1 hM htk hxe hl hb hww hbx hbx0 hbx1 d0 d1
      go_upto_region 5 with fail
      clear z0 z1
      have DR : Hid (Below wr.heap.size wr wr.drew) := Lib.hid (Below.refl _ _).drew
      obtain ⟨y1, y2, y3⟩ := KEEP.out _ DR.out
      have ha1 : Below wr.heap.size wr (wr.alloc (.cells #[] 3 (0, 0))).drew := ((Below.refl _ _).alloc (Nat.le_refl _) _).drew
      have hre : Row wr.heap.size (wr.alloc (.cells #[] 3 (0, 0))).drew (.slice (some ⟨wr.heap.size, 0, none⟩) 0 0) [] :=
        ⟨by simp [icells], .inr ⟨wr.heap.size, 0, #[], rfl, Nat.le_refl _, heap_alloc_new wr _, Nat.le_refl _, Nat.zero_le _, by simp, by simp [icells]⟩⟩
      have HA1 := Lib.hid ha1
      have HRE := Lib.hid hre
      obtain ⟨r1, r2, r3⟩ := KEEP.out _ ha1
      clear ha1 hre
      go_region_held3 (fun w' => w'.cell? ⟨w.heap.size, 1, none⟩ = some (.slice (some ⟨b, o, none⟩) n c) ∧ w'.cell? ⟨b, o + k * 2, none⟩ = some (.int .i64 M) ∧ w'.cell? ⟨b, o + k * 2 + 1, none⟩ = some (.slice ax nx cx))
        (first | go_keep | (go_split_ands; refine ⟨?_, ?_, ?_⟩ <;> with_reducible assumption))
        (first
          | (refine step_append_ints _ (by rfl) _ _ (by rfl) wr.heap.size _ [] (by rfl) HRE.out ax nx cx w.heap.size x.2 (by rfl) (HIX.out _ HA1.out) (by simp) HA1.out.size ?_
             intro ar nr cr w2 hr hg
             rw [List.nil_append] at hr
             have hb2 : Below wr.heap.size wr w2 := HA1.out.trans ((Below.refl wr.heap.size _).grown hg HA1.out.size fun q hq => by cases hq; exact Nat.le_refl _)
             obtain ⟨s1, s2, s3⟩ := KEEP.out _ hb2
             have HR2 := Lib.hid hr
             have HB2 := Lib.hid hb2
             clear hr hg hb2)
          | (refine step_append_one w2 (S := ownItem) (T := 29) (Ts := 24) (by rfl) _ _ (by rfl) i0 (.agg #[.int .i64 0, .slice none 0 0]) 32 Try.underlying24 hi hz0 hz1 hz2 rfl (by decide) (by decide) (w.heap.size + 2) wr.heap.size (by omega) _ (l.take k) (M, x.2) [.int .i64 M, .slice ar nr cr] (FromB wr.heap.size w2.heap.size) (by rfl) (HLK.out _ HB2.out) (HR2.out.ownItem M) (fun b o f => f) item_one (by rfl) (by rw [List.length_take]; omega) ?_
             intro av' nv' cv' w4 hl4 hb4 hg4 _
             have HL4 := Lib.hid hl4
             have HB4 := Lib.hid hb4
             obtain ⟨t1, t2, t3⟩ : w4.cell? ⟨w.heap.size, 1, none⟩ = some (.slice (some ⟨b, o, none⟩) n c) ∧ w4.cell? ⟨b, o + k * 2, none⟩ = some (.int .i64 M) ∧ w4.cell? ⟨b, o + k * 2 + 1, none⟩ = some (.slice ax nx cx) :=
               ⟨(hb4.cell (p := ⟨w.heap.size, 1, none⟩) (by show w.heap.size < _; omega)).trans s1, (hb4.cell (p := ⟨b, o + k * 2, none⟩) (by show b < _; omega)).trans s2, (hb4.cell (p := ⟨b, o + k * 2 + 1, none⟩) (by show b < _; omega)).trans s3⟩
             clear hl4 hb4 hg4))
      go_wp2_with fail
      refine ⟨⟨k + 1, by omega, by go_num, ?_, HBW.out.trans ((HB2.out.mono ?_).trans HB4.out)⟩, by simp [intOf]; omega⟩
      · rw [HTK.out]
        rw [HXE.out]
        exact HL4.out
      · have := HS3.out
        omega
    · obtain rfl : k = n := by omega
      rw [List.take_of_length_le (Nat.le_of_eq HLEN.out)] at hl
      have HLL := Lib.hid hl
      have HBW := Lib.hid hb
      obtain ⟨av, cv, rfl, -, -⟩ := hl.form
      clear hl hb
      have z2 : wr.frozen? ⟨w.heap.size, 1, none⟩ = false := frozen_of_row _ _ _ _ _ hbx0
      go_upto_region 7 with fail
      have k0 := heap_setCell_same wr w.heap.size 1 _ _ (.slice av l.length cv) hbx0
      have k1 := (heap_setCell_other wr ⟨w.heap.size, 1, none⟩ (w.heap.size + 1) (.slice av l.length cv) (by show w.heap.size + 1 ≠ w.heap.size; omega)).trans hbx1
      have hs7 : (wr.setCell ⟨w.heap.size, 1, none⟩ (.slice av l.length cv)).heap.size = wr.heap.size := by simp
      have HL7 := Lib.hid (HLL.out.storedQ w.heap.size 1 (.slice av l.length cv) (by omega))
      have HB7 := Lib.hid (hww.setCell (p := ⟨w.heap.size, 1, none⟩) (Nat.le_refl _) (.slice av l.length cv))
      clear hbx0 hbx1 z0 z1 z2 hww
      generalize wr.setCell ⟨w.heap.size, 1, none⟩ (.slice av l.length cv) = W7 at k0 k1 hs7 HL7 HB7 ⊢
      obtain ⟨y0, y1⟩ := boxq (show W7.heap[w.heap.size]? = some (.cells #[.int .i64 cap, .slice av l.length cv] 26 (0, 0)) from k0)
      obtain ⟨x0, x1⟩ := boxq k1
      have x2 : W7.frozen? ⟨w.heap.size + 1, 0, none⟩ = false := frozen_of_row _ _ _ _ _ k1
      have x3 : W7.frozen? ⟨w.heap.size + 1, 1, none⟩ = false := frozen_of_row _ _ _ _ _ k1
      go_wp2_with fail
      refine bodyPost_ret (results_cell_row rfl _ _ (w.heap.size + 1) 26 #[.int .i64 cap, .slice av l.length cv] (0, 0) _ rfl ?_ Try.underlying26 rfl (by kernel_rfl)) rfl ?_
      · exact heap_setCell_same _ _ 1 _ _ _ (heap_setCell_same _ _ 0 _ _ _ k1)
      · refine ⟨.slice av l.length cv, rfl, ?_, (HB7.out.setCell (p := ⟨w.heap.size + 1, 0, none⟩) (Nat.le_succ _) _).setCell (p := ⟨w.heap.size + 1, 1, none⟩) (Nat.le_succ _) _⟩
        have hfin := (HL7.out.storedQ (w.heap.size + 1) 0 (.int .i64 cap) (by omega)).storedQ (w.heap.size + 1) 1 (.slice av l.length cv) (by omega)
        exact hfin.wide (by omega) (by simp; omega) (Nat.le_refl _)
end Go.Proofs.Ytdoofapjhgahgaa
