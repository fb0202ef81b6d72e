/-
  Queues: the program's Push.
-/
import Derived.Test.YtdoofapjhgahgaaQueK
import Derived.Test.YtdoofapjhgahgaaQueP
import Derived.Test.YtdoofapjhgahgaaQueN
import Derived.Test.YtdoofapjhgahgaaGrows
namespace Go.Proofs.Ytdoofapjhgahgaa
open Go.RowKit Go.Sort
set_option linter.unusedVariables false
set_option linter.unusedSimpArgs false

/-- What the program answers, written into the box of its answer. -/
theorem queue_boxed {w wx : World} {g lo hi : Nat} {cap : Int} {v : Value} {l : List dItem} {T : TypeId} {p q : Value} (hl : ListL ownItem 29 lo hi wx v l) (hg : g < lo) (hw : w.heap.size ≤ g) (hk : wx.heap[g]? = some (.cells #[p, q] T (0, 0))) (hb : Below w.heap.size w wx) :
    ((wx.setCell ⟨g, 0, none⟩ (.int .i64 cap)).setCell ⟨g, 1, none⟩ v).heap[g]? = some (.cells #[.int .i64 cap, v] T (0, 0)) ∧
    ownQueue.owns (FromB lo hi) ((wx.setCell ⟨g, 0, none⟩ (.int .i64 cap)).setCell ⟨g, 1, none⟩ v) [.int .i64 cap, v] (cap, l) ∧
    (∀ b o, FromB lo hi b o → w.heap.size ≤ b ∧ b < ((wx.setCell ⟨g, 0, none⟩ (.int .i64 cap)).setCell ⟨g, 1, none⟩ v).heap.size) ∧
    Below w.heap.size w ((wx.setCell ⟨g, 0, none⟩ (.int .i64 cap)).setCell ⟨g, 1, none⟩ v) := by
  refine ⟨heap_setCell_same _ _ 1 _ _ _ (heap_setCell_same _ _ 0 _ _ _ hk), ?_, fun b o f => ⟨by have := f.1; omega, ?_⟩, (hb.setCell (p := ⟨g, 0, none⟩) hw _).setCell (p := ⟨g, 1, none⟩) hw _⟩
  · have hl2 := (hl.storedQ g 0 (.int .i64 cap) hg).storedQ g 1 v hg
    obtain ⟨a', cap', e1, e2, e3, e4⟩ := hl2.list (by decide)
    exact ownQueue_owns.2 ⟨a', l.length, cap', by rw [e1], e2, e3, e4⟩
  · have h1 := f.2
    have h2 := hl.top
    simp only [World.size_setCell]
    omega
set_option maxRecDepth 100000 in
set_option maxHeartbeats 6400000 in
theorem implPush_o (w : World) (es0 : List Value) (x0 : dQueue) (h0 : shQueue.reads (Under w.heap.size) w es0 x0) (hb0 : shQueue.bulk x0 ≤ 1048576) (es1 : List Value) (x1 : dItem) (h1 : shItem.reads (Under w.heap.size) w es1 x1) (hb1 : shItem.bulk x1 ≤ 1048576) :
    Calls Try.prog 10 #[.agg es0.toArray, .agg es1.toArray] w fun e w' => ∃ es' F, e = .returned (.tuple #[.agg (es' : List Value).toArray, .bool (pushB x0 x1)]) ∧ ownQueue.owns F w' es' (pushN x0 x1) ∧ (∀ b o, F b o → w.heap.size ≤ b ∧ b < w'.heap.size) ∧ Below w.heap.size w w' := by
  obtain ⟨i0, hi, hz0, hz1, hz2⟩ := info_parts infoItem
  obtain ⟨a, n, c, rfl, hc1, hc2, hl, hn, hbl⟩ := queue_open h0 hb0
  obtain ⟨ax, nx, cx, rfl, hx1, hx2, hlx⟩ := shItem_reads.1 h1
  obtain ⟨cap, l⟩ := x0
  obtain ⟨m, ys⟩ := x1
  replace hl : ListAt shItem (Under w.heap.size) w a n l := hl
  replace hbl : Shape.sum shItem.bulk l ≤ 1048576 := hbl
  replace hlx : ListAt Shape.int (Under w.heap.size) w ax nx ys := hlx
  replace hb1 : nx ≤ 1048576 := by rw [shItem_bulk, bulk_ints] at hb1; rw [← hlx.1]; exact hb1
  have hix := hlx.ints hb1
  have hlen : l.length = n := hl.1
  have hpn := push_bulk (cap, l) (m, ys) hb0
  have hk0 : (((w.alloc (.cells #[.int .i64 cap, .slice a n c] 26 (0, 0))).alloc (.cells #[.int .i64 m, .slice ax nx cx] 29 (0, 0))).alloc (.cells #[.int .i64 0, .slice none 0 0] 26 (0, 0))).heap[w.heap.size]? = some (.cells #[.int .i64 cap, .slice a n c] 26 (0, 0)) := by
    rw [Below.heap_alloc _ _ _ (by simp; omega), Below.heap_alloc _ _ _ (by simp)]
    exact heap_alloc_new w _
  have hk1 : (((w.alloc (.cells #[.int .i64 cap, .slice a n c] 26 (0, 0))).alloc (.cells #[.int .i64 m, .slice ax nx cx] 29 (0, 0))).alloc (.cells #[.int .i64 0, .slice none 0 0] 26 (0, 0))).heap[w.heap.size + 1]? = some (.cells #[.int .i64 m, .slice ax nx cx] 29 (0, 0)) := by
    rw [Below.heap_alloc _ _ _ (by simp)]
    have := heap_alloc_new (w.alloc (.cells #[.int .i64 cap, .slice a n c] 26 (0, 0))) (.cells #[.int .i64 m, .slice ax nx cx] 29 (0, 0))
    simpa using this
  have hk2 : (((w.alloc (.cells #[.int .i64 cap, .slice a n c] 26 (0, 0))).alloc (.cells #[.int .i64 m, .slice ax nx cx] 29 (0, 0))).alloc (.cells #[.int .i64 0, .slice none 0 0] 26 (0, 0))).heap[w.heap.size + 2]? = some (.cells #[.int .i64 0, .slice none 0 0] 26 (0, 0)) := by
    have := heap_alloc_new ((w.alloc (.cells #[.int .i64 cap, .slice a n c] 26 (0, 0))).alloc (.cells #[.int .i64 m, .slice ax nx cx] 29 (0, 0))) (.cells #[.int .i64 0, .slice none 0 0] 26 (0, 0))
    simpa using this
  have hal : Below w.heap.size w (((w.alloc (.cells #[.int .i64 cap, .slice a n c] 26 (0, 0))).alloc (.cells #[.int .i64 m, .slice ax nx cx] 29 (0, 0))).alloc (.cells #[.int .i64 0, .slice none 0 0] 26 (0, 0))) := (((Below.refl _ _).alloc (Nat.le_refl _) _).alloc (by simp) _).alloc (by simp; omega) _
  have hs3 : (((w.alloc (.cells #[.int .i64 cap, .slice a n c] 26 (0, 0))).alloc (.cells #[.int .i64 m, .slice ax nx cx] 29 (0, 0))).alloc (.cells #[.int .i64 0, .slice none 0 0] 26 (0, 0))).heap.size = w.heap.size + 3 := by simp
  have HL := Lib.hid hl
  have HLX := Lib.hid hlx
  have HIX := Lib.hid hix
  have HLEN := Lib.hid hlen
  have HPN := Lib.hid hpn
  have K0 := Lib.hid hk0
  have K1 := Lib.hid hk1
  have K2 := Lib.hid hk2
  have HA := Lib.hid hal
  clear hl hlx hix hk0 hk1 hk2 hal h0 h1 hlen hpn hb0
  go_enter Try.func10, Try.ntmps10
  go_upto_region 1 with fail
  generalize (((w.alloc (.cells #[.int .i64 cap, .slice a n c] 26 (0, 0))).alloc (.cells #[.int .i64 m, .slice ax nx cx] 29 (0, 0))).alloc (.cells #[.int .i64 0, .slice none 0 0] 26 (0, 0))) = W0 at K0 K1 K2 HA hs3 ⊢
  have CELLS := Lib.hid fun (wx : World) (hx : Below W0.heap.size W0 wx) => (show (wx.cell? ⟨w.heap.size, 0, none⟩ = some (.int .i64 cap) ∧ wx.cell? ⟨w.heap.size, 1, none⟩ = some (.slice a n c)) ∧ (wx.cell? ⟨w.heap.size + 1, 0, none⟩ = some (.int .i64 m) ∧ wx.cell? ⟨w.heap.size + 1, 1, none⟩ = some (.slice ax nx cx)) ∧ (wx.cell? ⟨w.heap.size + 2, 0, none⟩ = some (.int .i64 0) ∧ wx.cell? ⟨w.heap.size + 2, 1, none⟩ = some (.slice none 0 0)) ∧ wx.frozen? ⟨w.heap.size + 2, 0, none⟩ = false ∧ wx.frozen? ⟨w.heap.size + 2, 1, none⟩ = false from
    ⟨boxq ((hx.block _ (by omega)).trans K0.out), boxq ((hx.block _ (by omega)).trans K1.out), boxq ((hx.block _ (by omega)).trans K2.out), frozen_of_row _ _ _ _ _ ((hx.block _ (by omega)).trans K2.out), frozen_of_row _ _ _ _ _ ((hx.block _ (by omega)).trans K2.out)⟩)
  have HOK := Lib.hid fun (wx : World) (hx : Below W0.heap.size W0 wx) => implQueueOk_c wx cap a n c l ((HL.out.below (HA.out.trans (hx.mono HA.out.size)) (Nat.le_refl _)).le (Nat.le_trans HA.out.size hx.size)) hn hbl
  have HIO := Lib.hid fun (wx : World) (hx : Below W0.heap.size W0 wx) => implItemOk_any wx m ax nx cx ys ((HIX.out.below (HA.out.trans (hx.mono HA.out.size)) (Nat.le_refl _)).le (Nat.le_trans HA.out.size hx.size))
  have HCP := Lib.hid fun (wx : World) (hx : Below W0.heap.size W0 wx) => implCopyQueue_o wx cap a n c l ((HL.out.below (HA.out.trans (hx.mono HA.out.size)) (Nat.le_refl _)).le (Nat.le_trans HA.out.size hx.size)) hn hbl
  obtain ⟨A, hA⟩ : ∃ A, queueOkB (cap, l) = A := ⟨_, rfl⟩
  obtain ⟨q, hq⟩ : ∃ q, itemOkB (m, ys) = q := ⟨_, rfl⟩
  have hpb : pushB (cap, l) (m, ys) = (A && (decide ((n : Int) < cap) && q)) := by
    unfold pushB
    rw [hA, hq]
    show (A && (decide ((l.length : Int) < cap) && _)) = _
    rw [HLEN.out]
  have hle : A = true → (n : Int) ≤ cap := fun e => by
    have h3 := (queueOk_has (hA.trans e)).2.2.2
    rw [← HLEN.out]
    exact h3
  simp only [hA] at HOK
  simp only [hq] at HIO
  have HPB := Lib.hid hpb
  have HLE := Lib.hid hle
  clear hA hq hpb hle
  obtain ⟨⟨z0, z1⟩, ⟨x0, x1⟩, ⟨r0, r1⟩, f0, f1⟩ := CELLS.out W0 (Below.refl _ _)
  -- the end where nothing is put in
  have END : Hid (pushB (cap, l) (m, ys) = false → ∀ (wx : World) (lo : Nat) (v : Value), Below W0.heap.size W0 wx → W0.heap.size ≤ lo → ListL ownItem 29 lo wx.heap.size wx v l →
      ((wx.setCell ⟨w.heap.size + 2, 0, none⟩ (.int .i64 cap)).setCell ⟨w.heap.size + 2, 1, none⟩ v).heap[w.heap.size + 2]? = some (.cells #[.int .i64 cap, v] 26 (0, 0)) ∧
      ∃ es' F, Ending.returned (.tuple #[.agg #[.int .i64 cap, v], .bool false]) = .returned (.tuple #[.agg (es' : List Value).toArray, .bool (pushB (cap, l) (m, ys))]) ∧
        ownQueue.owns F ((wx.setCell ⟨w.heap.size + 2, 0, none⟩ (.int .i64 cap)).setCell ⟨w.heap.size + 2, 1, none⟩ v) es' (pushN (cap, l) (m, ys)) ∧
        (∀ b o, F b o → w.heap.size ≤ b ∧ b < ((wx.setCell ⟨w.heap.size + 2, 0, none⟩ (.int .i64 cap)).setCell ⟨w.heap.size + 2, 1, none⟩ v).heap.size) ∧
        Below w.heap.size w ((wx.setCell ⟨w.heap.size + 2, 0, none⟩ (.int .i64 cap)).setCell ⟨w.heap.size + 2, 1, none⟩ v)) := Lib.hid fun hR wx lo v hx hlo hll => by
    obtain ⟨e1, e2, e3, e4⟩ := queue_boxed (w := w) (cap := cap) hll (show w.heap.size + 2 < lo by omega) (by omega) ((hx.block (w.heap.size + 2) (by omega)).trans K2.out) (HA.out.trans (hx.mono HA.out.size))
    refine ⟨e1, [.int .i64 cap, v], FromB lo wx.heap.size, by rw [hR], ?_, e3, e4⟩
    unfold pushN
    rw [hR]
    exact e2
  cases A
  · go_wp2_with fail
    refine (HOK.out W0 (Below.refl _ _)).mono ?_
    rintro e w1 ⟨rfl, hb⟩
    have HB := Lib.hid hb
    obtain ⟨⟨z0, z1⟩, ⟨x0, x1⟩, ⟨r0, r1⟩, f0, f1⟩ := CELLS.out w1 hb
    clear hb
    go_wp2_with fail
    refine (HCP.out w1 HB.out).mono ?_
    rintro e w2 ⟨v, rfl, hll, hb⟩
    have hb2 := HB.out.trans (hb.mono HB.out.size)
    obtain ⟨e1, e2⟩ := END.out (by rw [HPB.out]; rfl) w2 w1.heap.size v hb2 HB.out.size hll
    obtain ⟨⟨z0, z1⟩, ⟨x0, x1⟩, ⟨r0, r1⟩, f0, f1⟩ := CELLS.out w2 hb2
    obtain ⟨av, cv, rfl, -, -⟩ := hll.form
    have E1 := Lib.hid e1
    have E2 := Lib.hid e2
    clear hll hb hb2 e1 e2
    go_wp2_with fail
    exact bodyPost_ret (results_cell_slot rfl _ _ (w.heap.size + 2) 26 #[.int .i64 cap, .slice av l.length cv] (0, 0) _ rfl (.bool false) rfl E1.out Try.underlying26 rfl (by kernel_rfl)) rfl E2.out
  · have hle := HLE.out rfl
    cases q
    · go_wp2_with fail
      refine (HOK.out W0 (Below.refl _ _)).mono ?_
      rintro e w1 ⟨rfl, hb⟩
      have HB := Lib.hid hb
      obtain ⟨⟨z0, z1⟩, ⟨x0, x1⟩, ⟨r0, r1⟩, f0, f1⟩ := CELLS.out w1 hb
      clear hb
      go_wp2_with fail
      refine (HIO.out w1 HB.out).mono ?_
      rintro e w3 ⟨rfl, hb⟩
      have hb3 := HB.out.trans (hb.mono HB.out.size)
      have HB3 := Lib.hid hb3
      obtain ⟨⟨z0, z1⟩, ⟨x0, x1⟩, ⟨r0, r1⟩, f0, f1⟩ := CELLS.out w3 hb3
      clear hb hb3
      go_wp2_with fail
      refine (HCP.out w3 HB3.out).mono ?_
      rintro e w2 ⟨v, rfl, hll, hb⟩
      have hb2 := HB3.out.trans (hb.mono HB3.out.size)
      obtain ⟨e1, e2⟩ := END.out (by rw [HPB.out]; simp) w2 w3.heap.size v hb2 HB3.out.size hll
      obtain ⟨⟨z0, z1⟩, ⟨x0, x1⟩, ⟨r0, r1⟩, f0, f1⟩ := CELLS.out w2 hb2
      obtain ⟨av, cv, rfl, -, -⟩ := hll.form
      have E1 := Lib.hid e1
      have E2 := Lib.hid e2
      clear hll hb hb2 e1 e2
      go_wp2_with fail
      exact bodyPost_ret (results_cell_slot rfl _ _ (w.heap.size + 2) 26 #[.int .i64 cap, .slice av l.length cv] (0, 0) _ rfl (.bool false) rfl E1.out Try.underlying26 rfl (by kernel_rfl)) rfl E2.out
    · by_cases hlt : (n : Int) = cap
      · have g0 : ((n : Int) == cap) = true := beq_iff_eq.2 hlt
        have hpf : pushB (cap, l) (m, ys) = false := by
          rw [HPB.out, decide_eq_false (by omega)]
          rfl
        have HPF := Lib.hid hpf
        have HLT := Lib.hid hlt
        clear hlt hpf
        go_wp2_with fail
        refine (HOK.out W0 (Below.refl _ _)).mono ?_
        rintro e w1 ⟨rfl, hb⟩
        have HB := Lib.hid hb
        obtain ⟨⟨z0, z1⟩, ⟨x0, x1⟩, ⟨r0, r1⟩, f0, f1⟩ := CELLS.out w1 hb
        clear hb
        go_wp2_with fail
        refine (HIO.out w1 HB.out).mono ?_
        rintro e w3 ⟨rfl, hb⟩
        have hb3 := HB.out.trans (hb.mono HB.out.size)
        have HB3 := Lib.hid hb3
        obtain ⟨⟨z0, z1⟩, ⟨x0, x1⟩, ⟨r0, r1⟩, f0, f1⟩ := CELLS.out w3 hb3
        clear hb hb3
        go_wp2_with fail
        refine (HCP.out w3 HB3.out).mono ?_
        rintro e w2 ⟨v, rfl, hll, hb⟩
        have hb2 := HB3.out.trans (hb.mono HB3.out.size)
        obtain ⟨e1, e2⟩ := END.out HPF.out w2 w3.heap.size v hb2 HB3.out.size hll
        obtain ⟨⟨z0, z1⟩, ⟨x0, x1⟩, ⟨r0, r1⟩, f0, f1⟩ := CELLS.out w2 hb2
        obtain ⟨av, cv, rfl, -, -⟩ := hll.form
        have E1 := Lib.hid e1
        have E2 := Lib.hid e2
        clear hll hb hb2 e1 e2
        go_wp2_with fail
        exact bodyPost_ret (results_cell_slot rfl _ _ (w.heap.size + 2) 26 #[.int .i64 cap, .slice av l.length cv] (0, 0) _ rfl (.bool false) rfl E1.out Try.underlying26 rfl (by kernel_rfl)) rfl E2.out
      · have g0 : ((n : Int) == cap) = false := beq_eq_false_iff_ne.2 hlt
        have hpf : pushB (cap, l) (m, ys) = true := by
          rw [HPB.out, decide_eq_true (by omega)]
          rfl
        have hpn2 : pushN (cap, l) (m, ys) = (cap, l ++ [(m, ys)]) := by unfold pushN; rw [hpf]; rfl
        have HPF := Lib.hid hpf
        have HP2 := Lib.hid hpn2
        clear hpf hpn2
        go_wp2_with fail
        refine (HOK.out W0 (Below.refl _ _)).mono ?_
        rintro e w1 ⟨rfl, hb⟩
        have HB := Lib.hid hb
        obtain ⟨⟨z0, z1⟩, ⟨x0, x1⟩, ⟨r0, r1⟩, f0, f1⟩ := CELLS.out w1 hb
        clear hb
        go_wp2_with fail
        refine (HIO.out w1 HB.out).mono ?_
        rintro e w3 ⟨rfl, hb⟩
        have hb3 := HB.out.trans (hb.mono HB.out.size)
        have HB3 := Lib.hid hb3
        obtain ⟨⟨z0, z1⟩, ⟨x0, x1⟩, ⟨r0, r1⟩, f0, f1⟩ := CELLS.out w3 hb3
        clear hb hb3
        go_upto_region 4 with fail
        clear z0 z1 x0 x1 r0 r1 f0 f1 g0
        have KEEP := Lib.hid fun (wx : World) (hx : Below w3.heap.size w3 wx) => (show wx.cell? ⟨w.heap.size, 1, none⟩ = some (.slice a n c) ∧ wx.cell? ⟨w.heap.size + 1, 0, none⟩ = some (.int .i64 m) ∧ wx.cell? ⟨w.heap.size + 1, 1, none⟩ = some (.slice ax nx cx) from
          ⟨(CELLS.out wx (HB3.out.trans (hx.mono HB3.out.size))).1.2, (CELLS.out wx (HB3.out.trans (hx.mono HB3.out.size))).2.1⟩)
        have hS0 := KEEP.out w3.drew (Below.refl _ _).drew
        refine wp_region_K (S := fun wx => wx.cell? ⟨w.heap.size, 1, none⟩ = some (.slice a n c) ∧ wx.cell? ⟨w.heap.size + 1, 0, none⟩ = some (.int .i64 m) ∧ wx.cell? ⟨w.heap.size + 1, 1, none⟩ = some (.slice ax nx cx)) (by kernel_rfl) ?_
        refine anyK_take (i := 0) (v := ?_) rfl (by kernel_rfl) (by kernel_rfl) (by kernel_rfl) (fun _ _ _ h => h) (Or.inl ⟨by rfl, ?_⟩) hS0 ?_
        rotate_left
        · (intro wS hS; obtain ⟨sA, sB, sC⟩ := hS; go_simp; try with_reducible rfl)
        simp only [Act.put, List.setIfInBounds_toArray, List.set_cons_zero, List.set_cons_succ]
        refine anyK_take (i := 1) (v := ?_) rfl (by kernel_rfl) (by kernel_rfl) (by kernel_rfl) (fun _ _ _ h => h) (Or.inl ⟨by rfl, ?_⟩) hS0 ?_
        rotate_left
        · (intro wS hS; obtain ⟨sA, sB, sC⟩ := hS; go_simp; try with_reducible rfl)
        simp only [Act.put, List.setIfInBounds_toArray, List.set_cons_zero, List.set_cons_succ]
        refine anyK_take (i := 2) (v := ?_) rfl (by kernel_rfl) (by kernel_rfl) (by kernel_rfl) (fun _ _ _ h => h) (Or.inl ⟨by rfl, ?_⟩) hS0 ?_
        rotate_left
        · (intro wS hS; obtain ⟨sA, sB, sC⟩ := hS; go_simp; try with_reducible rfl)
        simp only [Act.put, List.setIfInBounds_toArray, List.set_cons_zero, List.set_cons_succ]
        refine anyK_take (i := 3) (v := ?_) rfl (by kernel_rfl) (by kernel_rfl) (by kernel_rfl) (fun _ _ _ h => h) (Or.inl ⟨by rfl, ?_⟩) hS0 ?_
        rotate_left
        · (intro wS hS; obtain ⟨sA, sB, sC⟩ := hS; go_simp; try with_reducible rfl)
        simp only [Act.put, List.setIfInBounds_toArray, List.set_cons_zero, List.set_cons_succ]
        refine anyK_take (i := 4) (v := ?_) rfl (by kernel_rfl) (by kernel_rfl) (by kernel_rfl) (fun _ _ _ h => h) (Or.inl ⟨by rfl, ?_⟩) hS0 ?_
        rotate_left
        · (intro wS hS; obtain ⟨sA, sB, sC⟩ := hS; go_simp; try with_reducible rfl)
        simp only [Act.put, List.setIfInBounds_toArray, List.set_cons_zero, List.set_cons_succ]
        refine anyK_take (i := 5) (v := ?_) rfl (by kernel_rfl) (by kernel_rfl) (by kernel_rfl) (fun _ _ _ h => h) (Or.inl ⟨by rfl, ?_⟩) hS0 ?_
        rotate_left
        · (intro wS hS; obtain ⟨sA, sB, sC⟩ := hS; go_simp; try with_reducible rfl)
        simp only [Act.put, List.setIfInBounds_toArray, List.set_cons_zero, List.set_cons_succ]
        have hbA : Below w3.heap.size w3 ((w3.alloc (.cells #[.int .i64 m, .slice ax nx cx] 29 (0, 0))).drew) := ((Below.refl _ _).alloc (Nat.le_refl _) _).drew
        have hSA := KEEP.out _ hbA
        have hkA : ((w3.alloc (.cells #[.int .i64 m, .slice ax nx cx] 29 (0, 0))).drew).heap[w3.heap.size]? = some (.cells #[.int .i64 m, .slice ax nx cx] 29 (0, 0)) := heap_alloc_new w3 _
        have hsA : ((w3.alloc (.cells #[.int .i64 m, .slice ax nx cx] 29 (0, 0))).drew).heap.size = w3.heap.size + 1 := by show (w3.alloc _).heap.size = _; simp
        refine anyK_step (i := 6) (by kernel_rfl) rfl (by rfl) (fun K hK => ?_)
        go_simp
        refine hK _ _ (.inr hSA) ?_
        try simp only [Act.put, List.setIfInBounds_toArray, List.set_cons_zero, List.set_cons_succ]
        clear hK
        generalize (w3.alloc (.cells #[.int .i64 m, .slice ax nx cx] 29 (0, 0))).drew = wA at hbA hSA hkA hsA ⊢
        have hs3' := HB3.out.size
        have hwA : Below w.heap.size w wA := HA.out.trans ((HB3.out.trans (hbA.mono hs3')).mono HA.out.size)
        have hlA := HL.out.below hwA (Nat.le_refl _)
        obtain ⟨us, hus, holds, hat⟩ := hlA.olds (show 0 < shItem.size by decide)
        have hrA : shItem.reads (Under w.heap.size) wA [.int .i64 m, .slice ax nx cx] (m, ys) := shItem_reads.2 ⟨ax, nx, cx, rfl, hx1, hx2, HLX.out.below hwA (Nat.le_refl _)⟩
        refine anyK_step (i := 7) (by kernel_rfl) rfl (by rfl) (fun K hK => ?_)
        refine op_append_grows wA _ _ 24 (by rfl) 29 i0 (.agg #[.int .i64 0, .slice none 0 0]) 2 32 Try.underlying24 hi hz0 hz1 hz2 rfl (by decide) a n n us (by rfl)
          (fun e => by
            have := (e ▸ hlA : ListAt shItem (Under w.heap.size) wA none n l).none
            exact ⟨this, this⟩) hus holds ⟨w3.heap.size, 0, none⟩ 1 1 [.int .i64 m, .slice ax nx cx] (by rfl) rfl
          (fun j u hu => by
            rw [Addr.add_lit, cell_of_row _ _ _ _ _ _ hkA]
            simpa using hu) item_one (by omega) (by unfold maxLen; omega) (by omega) ?_
        intro v' w4 hown hg4
        have hb4 : Below wA.heap.size wA w4 := (Below.refl _ _).grown hg4 (Nat.le_refl _) (fun k e => by cases e)
        obtain ⟨g, cap', rfl, hgl, hgh, hgc, hgm, hl4⟩ := hlA.pushed hus hat hrA hown (Kept.of_below hb4 fun k hk => by have h1 : k < w.heap.size := hk; have h2 := HA.out.size; omega)
        have hb34 : Below w3.heap.size w3 w4 := hbA.trans (hb4.mono (by omega))
        have hS4 := KEEP.out _ hb34
        have HB34 := Lib.hid hb34
        have HL4 := Lib.hid hl4
        clear hl4 hb34 hb4 hg4 hown hrA holds hat hus hlA hwA hkA hSA hbA
        refine hK _ _ (.inr hS4) ?_
        try simp only [Act.put, List.setIfInBounds_toArray, List.set_cons_zero, List.set_cons_succ]
        clear hK
        refine anyK_take (i := 8) (v := ?_) rfl (by kernel_rfl) (by kernel_rfl) (by kernel_rfl) (fun _ _ _ h => h) (Or.inl ⟨by rfl, ?_⟩) hS4 ?_
        rotate_left
        · (intro wS hS; obtain ⟨sA, sB, sC⟩ := hS; go_simp; try with_reducible rfl)
        simp only [Act.put, List.setIfInBounds_toArray, List.set_cons_zero, List.set_cons_succ]
        have hb04 := HB3.out.trans (HB34.out.mono hs3')
        have hq4 := (hb04.block w.heap.size (by omega)).trans K0.out
        obtain ⟨s4, -, -⟩ := hS4
        have s5 : w4.frozen? ⟨w.heap.size, 1, none⟩ = false := frozen_of_row _ _ _ _ _ hq4
        refine anyK_step (i := 9) (by kernel_rfl) rfl (by rfl) (fun K hK => ?_)
        go_simp
        refine hK _ _ (.inl (last_of (by kernel_rfl))) ?_
        clear hK s4 s5
        refine anyK_done (by kernel_rfl) ?_ _
        have k5 := heap_setCell_same w4 w.heap.size 1 _ _ (.slice (some ⟨g, 0, none⟩) (n + 1) cap') hq4
        have b5 := (HA.out.trans (hb04.mono HA.out.size)).setCell (p := ⟨w.heap.size, 1, none⟩) (Nat.le_refl _) (.slice (some ⟨g, 0, none⟩) (n + 1) cap')
        have r5 := (heap_setCell_other w4 ⟨w.heap.size, 1, none⟩ (w.heap.size + 2) (.slice (some ⟨g, 0, none⟩) (n + 1) cap') (by show w.heap.size + 2 ≠ w.heap.size; omega)).trans ((hb04.block (w.heap.size + 2) (by omega)).trans K2.out)
        have hs5 : (w4.setCell ⟨w.heap.size, 1, none⟩ (.slice (some ⟨g, 0, none⟩) (n + 1) cap')).heap.size = w4.heap.size := by simp
        have hl5 : ListAt shItem (Under w4.heap.size) (w4.setCell ⟨w.heap.size, 1, none⟩ (.slice (some ⟨g, 0, none⟩) (n + 1) cap')) (some ⟨g, 0, none⟩) (n + 1) (l ++ [(m, ys)]) :=
          (HL4.out.keep fun k hk => heap_setCell_other _ _ _ _ (by show k ≠ w.heap.size; rcases hk with h | h <;> omega)).sub fun k hk => (by have hsz4 := hb04.size; show k < w4.heap.size; rcases hk with h | h <;> omega)
        rw [← hs5] at hl5
        have hpn := HPN.out
        rw [HP2.out, queue_bulk] at hpn
        have hln : (l ++ [(m, ys)]).length = n + 1 := hl5.1
        replace hpn : (l ++ [(m, ys)]).length + Shape.sum shItem.bulk (l ++ [(m, ys)]) ≤ 1048576 := hpn
        have HLN := Lib.hid hln
        have K5 := Lib.hid k5
        have B5 := Lib.hid b5
        have R5 := Lib.hid r5
        have HC5 := Lib.hid (implCopyQueue_o _ cap _ (n + 1) cap' _ hl5 (by omega) (by omega))
        have hsz5 := hb04.size
        rw [← hs5] at hsz5
        clear k5 b5 r5 hl5 hpn hln hs5 hb04 hq4 hS0
        generalize w4.setCell ⟨w.heap.size, 1, none⟩ (.slice (some ⟨g, 0, none⟩) (n + 1) cap') = W5 at K5 B5 R5 HC5 hsz5 ⊢
        obtain ⟨y0, y1⟩ := boxq K5.out
        go_wp2_with fail
        refine HC5.out.mono ?_
        rintro e w6 ⟨v, rfl, hll, hb⟩
        have hr6 := (hb.block (w.heap.size + 2) (by omega)).trans R5.out
        obtain ⟨e1, e2, e3, e4⟩ := queue_boxed (w := w) (cap := cap) hll (show w.heap.size + 2 < W5.heap.size by omega) (by omega) hr6 (B5.out.trans (hb.mono B5.out.size))
        obtain ⟨r0, r1⟩ := boxq hr6
        have f0 : w6.frozen? ⟨w.heap.size + 2, 0, none⟩ = false := frozen_of_row _ _ _ _ _ hr6
        have f1 : w6.frozen? ⟨w.heap.size + 2, 1, none⟩ = false := frozen_of_row _ _ _ _ _ hr6
        obtain ⟨av, cv, rfl, -, -⟩ := hll.form
        rw [HLN.out] at e1 e2 e3 e4 ⊢
        have E1 := Lib.hid e1
        have E2 := Lib.hid e2
        have E3 := Lib.hid e3
        have E4 := Lib.hid e4
        clear hll hb hr6 e1 e2 e3 e4 y0 y1
        go_wp2_with fail
        refine bodyPost_ret (results_cell_slot rfl _ _ (w.heap.size + 2) 26 #[.int .i64 cap, .slice av (n + 1) cv] (0, 0) _ rfl (.bool true) rfl E1.out Try.underlying26 rfl (by kernel_rfl)) rfl ?_
        exact ⟨[.int .i64 cap, .slice av (n + 1) cv], _, by rw [HPF.out], by rw [HP2.out]; exact E2.out, E3.out, E4.out⟩
end Go.Proofs.Ytdoofapjhgahgaa
