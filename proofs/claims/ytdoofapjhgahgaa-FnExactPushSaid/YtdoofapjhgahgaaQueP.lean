/-
  Queues: the model's Push and Pop.
-/
import Derived.Test.YtdoofapjhgahgaaQueC
import Derived.Test.YtdoofapjhgahgaaHeldK
namespace Go.Proofs.Ytdoofapjhgahgaa
open Go.RowKit Go.Sort
set_option linter.unusedVariables false
set_option linter.unusedSimpArgs false

theorem results_cell_slot {P : Program} {fn : Func} {p u : Tmp} {ty : TypeId} (h : fn.results = #[.cell p ty, .tmp u]) (tmps : Array Value) (w : World) (g : Nat) (t : TypeId) (cs : Array Value) (fr : Nat × Nat) (d : TypeDesc)
    (hp : tmps.getD p undef = .pointer (some ⟨g, 0, none⟩)) (v : Value) (hv : tmps.getD u undef = v) (hg : w.heap[g]? = some (.cells cs t fr))
    (hu : P.underlying ty = some d) (hd : (match d with | .struct _ | .array _ _ => true | _ => false) = true) (hi : (P.info? ty).map (·.size) = some cs.size) :
    (results fn tmps).run P w = .ok (.tuple #[.agg cs, v]) w := by
  rw [results_cell_tmp h, hp, hv]
  simp [asAddr, run_loadVar_row w g t ty cs fr d hg hu hd hi, Result.andThen]
theorem itemOk_split (m : Int) (ys : List Int) (p q : Bool) (hp : vecOkB ys = p) (hq : inB 0 4 m = q) : itemOkB (m, ys) = (p && q) := by
  unfold itemOkB
  rw [hp, hq]
set_option maxRecDepth 100000 in
set_option maxHeartbeats 6400000 in
theorem specPush_l (w : World) (es0 : List Value) (x0 : dQueue) (h0 : shQueue.reads (Under w.heap.size) w es0 x0) (hb0 : shQueue.bulk x0 ≤ 1048576) (es1 : List Value) (x1 : dItem) (h1 : shItem.reads (Under w.heap.size) w es1 x1) (hb1 : shItem.bulk x1 ≤ 1048576) :
    Calls Try.prog 21 #[.agg es0.toArray, .agg es1.toArray] w fun e w' => ∃ v, e = .returned (.tuple #[.agg #[.int .i64 x0.1, v], .bool (pushB x0 x1)]) ∧ ListL ownItem 29 w.heap.size w'.heap.size w' v (pushN x0 x1).2 ∧ Below w.heap.size w w' := by
  obtain ⟨i0, hi, hz0, hz1, hz2⟩ := info_parts infoItem
  obtain ⟨a, n, c, rfl, hc1, hc2, hl⟩ := shQueue_reads.1 h0
  obtain ⟨ax, nx, cx, rfl, hx1, hx2, hlx⟩ := shItem_reads.1 h1
  obtain ⟨cap, l⟩ := x0
  obtain ⟨m, ys⟩ := x1
  replace hl : ListAt shItem (Under w.heap.size) w a n l := hl
  replace hlx : ListAt Shape.int (Under w.heap.size) w ax nx ys := hlx
  replace hb0 : (Shape.list shItem).bulk l ≤ 1048576 := by rw [shQueue_bulk] at hb0; exact hb0
  replace hb1 : (Shape.list Shape.int).bulk ys ≤ 1048576 := by rw [shItem_bulk] at hb1; exact hb1
  rw [bulk_list shItem hl] at hb0
  rw [bulk_ints, hlx.1] at hb1
  have hn : n ≤ 1048576 := by omega
  have hbl : Shape.sum shItem.bulk l ≤ 1048576 := by omega
  have hix := hlx.ints hb1
  have hlen : l.length = n := hl.1
  have hk0 : (((w.alloc (.cells #[.int .i64 cap, .slice a n c] 26 (0, 0))).alloc (.cells #[.int .i64 m, .slice ax nx cx] 29 (0, 0))).alloc (.cells #[.int .i64 0, .slice none 0 0] 26 (0, 0))).heap[w.heap.size]? = some (.cells #[.int .i64 cap, .slice a n c] 26 (0, 0)) := by
    rw [Below.heap_alloc _ _ _ (by simp; omega), Below.heap_alloc _ _ _ (by simp)]
    exact heap_alloc_new w _
  have hk1 : (((w.alloc (.cells #[.int .i64 cap, .slice a n c] 26 (0, 0))).alloc (.cells #[.int .i64 m, .slice ax nx cx] 29 (0, 0))).alloc (.cells #[.int .i64 0, .slice none 0 0] 26 (0, 0))).heap[w.heap.size + 1]? = some (.cells #[.int .i64 m, .slice ax nx cx] 29 (0, 0)) := by
    rw [Below.heap_alloc _ _ _ (by simp)]
    have := heap_alloc_new (w.alloc (.cells #[.int .i64 cap, .slice a n c] 26 (0, 0))) (.cells #[.int .i64 m, .slice ax nx cx] 29 (0, 0))
    simpa using this
  have hk2 : (((w.alloc (.cells #[.int .i64 cap, .slice a n c] 26 (0, 0))).alloc (.cells #[.int .i64 m, .slice ax nx cx] 29 (0, 0))).alloc (.cells #[.int .i64 0, .slice none 0 0] 26 (0, 0))).heap[w.heap.size + 2]? = some (.cells #[.int .i64 0, .slice none 0 0] 26 (0, 0)) := by
    have := heap_alloc_new ((w.alloc (.cells #[.int .i64 cap, .slice a n c] 26 (0, 0))).alloc (.cells #[.int .i64 m, .slice ax nx cx] 29 (0, 0))) (.cells #[.int .i64 0, .slice none 0 0] 26 (0, 0))
    simpa using this
  have hal : Below w.heap.size w (((w.alloc (.cells #[.int .i64 cap, .slice a n c] 26 (0, 0))).alloc (.cells #[.int .i64 m, .slice ax nx cx] 29 (0, 0))).alloc (.cells #[.int .i64 0, .slice none 0 0] 26 (0, 0))) := (((Below.refl _ _).alloc (Nat.le_refl _) _).alloc (by simp) _).alloc (by simp; omega) _
  have hs3 : (((w.alloc (.cells #[.int .i64 cap, .slice a n c] 26 (0, 0))).alloc (.cells #[.int .i64 m, .slice ax nx cx] 29 (0, 0))).alloc (.cells #[.int .i64 0, .slice none 0 0] 26 (0, 0))).heap.size = w.heap.size + 3 := by simp
  have HL := Lib.hid hl
  have HIX := Lib.hid hix
  have K0 := Lib.hid hk0
  have K1 := Lib.hid hk1
  have K2 := Lib.hid hk2
  have HA := Lib.hid hal
  clear hl hlx hix hk0 hk1 hk2 hal h0 h1
  go_enter Try.func21, Try.ntmps21
  go_upto_region 1 with fail
  generalize (((w.alloc (.cells #[.int .i64 cap, .slice a n c] 26 (0, 0))).alloc (.cells #[.int .i64 m, .slice ax nx cx] 29 (0, 0))).alloc (.cells #[.int .i64 0, .slice none 0 0] 26 (0, 0))) = W0 at K0 K1 K2 HA hs3 ⊢
  obtain ⟨z0, z1⟩ := boxq K0.out
  have HC := Lib.hid (specQueueCopy_o W0 cap a n c l ((HL.out.below HA.out (Nat.le_refl _)).le HA.out.size) hn hbl)
  go_wp2_with fail
  refine HC.out.mono ?_
  rintro e w1 ⟨v, rfl, hll, hb⟩
  have hs1 := hb.size
  have ha2 := hb.alloc (Nat.le_trans (Nat.le_refl _) hs1) (.cells #[.int .i64 cap, v] 26 (0, 0))
  have hk3 := heap_alloc_new w1 (.cells #[.int .i64 cap, v] 26 (0, 0))
  have hs2 : (w1.alloc (.cells #[.int .i64 cap, v] 26 (0, 0))).heap.size = w1.heap.size + 1 := by simp
  have hl2 := hll.below ((Below.refl w1.heap.size w1).alloc (Nat.le_refl _) (.cells #[.int .i64 cap, v] 26 (0, 0))) (Nat.le_refl _)
  have HL2 := Lib.hid hl2
  have B2 := Lib.hid ha2
  have K3 := Lib.hid hk3
  obtain ⟨av, cv, rfl, -, -⟩ := hll.form
  rw [hlen] at HL2 B2 K3 hs2 ⊢
  have Q0 := Lib.hid ((B2.out.block w.heap.size (by omega)).trans K0.out)
  have Q1 := Lib.hid ((B2.out.block (w.heap.size + 1) (by omega)).trans K1.out)
  have Q2 := Lib.hid ((B2.out.block (w.heap.size + 2) (by omega)).trans K2.out)
  have HLEN := Lib.hid hlen
  clear hll hb ha2 hk3 hl2 z0 z1 HC hlen K0 K1 K2
  go_upto_region 2 with fail
  generalize w1.alloc (.cells #[.int .i64 cap, .slice av n cv] 26 (0, 0)) = W2 at HL2 B2 K3 hs2 Q0 Q1 Q2 ⊢
  have A2 := Lib.hid (HA.out.trans (B2.out.mono HA.out.size))
  -- the end where nothing is put in
  have END : Hid (pushB (cap, l) (m, ys) = false → ∀ wx, Below W2.heap.size W2 wx →
      ((wx.setCell ⟨w.heap.size + 2, 0, none⟩ (.int .i64 cap)).setCell ⟨w.heap.size + 2, 1, none⟩ (.slice av n cv)).heap[w.heap.size + 2]? = some (.cells #[.int .i64 cap, .slice av n cv] 26 (0, 0)) ∧
      ∃ v, Ending.returned (.tuple #[.agg #[.int .i64 cap, .slice av n cv], .bool false]) = .returned (.tuple #[.agg #[.int .i64 (cap, l).1, v], .bool (pushB (cap, l) (m, ys))]) ∧
        ListL ownItem 29 w.heap.size ((wx.setCell ⟨w.heap.size + 2, 0, none⟩ (.int .i64 cap)).setCell ⟨w.heap.size + 2, 1, none⟩ (.slice av n cv)).heap.size ((wx.setCell ⟨w.heap.size + 2, 0, none⟩ (.int .i64 cap)).setCell ⟨w.heap.size + 2, 1, none⟩ (.slice av n cv)) v (pushN (cap, l) (m, ys)).2 ∧
        Below w.heap.size w ((wx.setCell ⟨w.heap.size + 2, 0, none⟩ (.int .i64 cap)).setCell ⟨w.heap.size + 2, 1, none⟩ (.slice av n cv))) := Lib.hid fun hR wx hx => by
    have k := (hx.block (w.heap.size + 2) (by omega)).trans Q2.out
    refine ⟨heap_setCell_same _ _ 1 _ _ _ (heap_setCell_same _ _ 0 _ _ _ k), .slice av n cv, by rw [hR], ?_, ?_⟩
    · have hl1 := HL2.out.below hx (by omega)
      have hl2 := (hl1.storedQ (w.heap.size + 2) 0 (.int .i64 cap) (by omega)).storedQ (w.heap.size + 2) 1 (.slice av n cv) (by omega)
      unfold pushN
      rw [hR]
      have h2 := hx.size
      exact hl2.wide (by omega) (by simp only [World.size_setCell]; omega) (Nat.le_refl _)
    · exact ((A2.out.trans (hx.mono A2.out.size)).setCell (p := ⟨w.heap.size + 2, 0, none⟩) (Nat.le_add_right _ _) _).setCell (p := ⟨w.heap.size + 2, 1, none⟩) (Nat.le_add_right _ _) _
  have HC := Lib.hid (specQueueOk_c W2 cap a n c l ((HL.out.below A2.out (Nat.le_refl _)).le A2.out.size) hn hbl)
  obtain ⟨z0, z1⟩ := boxq Q0.out
  obtain ⟨A, hA⟩ : ∃ A, queueOkB (cap, l) = A := ⟨_, rfl⟩
  obtain ⟨p, hp⟩ : ∃ p, vecOkB ys = p := ⟨_, rfl⟩
  obtain ⟨q, hq⟩ : ∃ q, inB 0 4 m = q := ⟨_, rfl⟩
  have hio := itemOk_split m ys p q hp hq
  have hpb : pushB (cap, l) (m, ys) = (A && (decide ((n : Int) < cap) && (p && q))) := by
    unfold pushB
    rw [hA, hio]
    show (A && (decide ((l.length : Int) < cap) && _)) = _
    rw [HLEN.out]
  rw [hA] at HC
  have HP := Lib.hid hp
  have HQ := Lib.hid hq
  have HPB := Lib.hid hpb
  have CELLS := Lib.hid fun (wx : World) (hx : Below W2.heap.size W2 wx) => (show (wx.cell? ⟨w.heap.size, 0, none⟩ = some (.int .i64 cap) ∧ wx.cell? ⟨w.heap.size, 1, none⟩ = some (.slice a n c)) ∧ (wx.cell? ⟨w.heap.size + 1, 0, none⟩ = some (.int .i64 m) ∧ wx.cell? ⟨w.heap.size + 1, 1, none⟩ = some (.slice ax nx cx)) ∧ (wx.cell? ⟨w1.heap.size, 0, none⟩ = some (.int .i64 cap) ∧ wx.cell? ⟨w1.heap.size, 1, none⟩ = some (.slice av n cv)) ∧ (wx.cell? ⟨w.heap.size + 2, 0, none⟩ = some (.int .i64 0) ∧ wx.cell? ⟨w.heap.size + 2, 1, none⟩ = some (.slice none 0 0)) ∧ wx.frozen? ⟨w.heap.size + 2, 0, none⟩ = false ∧ wx.frozen? ⟨w.heap.size + 2, 1, none⟩ = false from
    ⟨boxq ((hx.block _ (by omega)).trans Q0.out), boxq ((hx.block _ (by omega)).trans Q1.out), boxq ((hx.block _ (by omega)).trans K3.out), boxq ((hx.block _ (by omega)).trans Q2.out), frozen_of_row _ _ _ _ _ ((hx.block _ (by omega)).trans Q2.out), frozen_of_row _ _ _ _ _ ((hx.block _ (by omega)).trans Q2.out)⟩)
  clear hA hp hq hio hpb
  cases A
  · go_wp2_with fail
    refine HC.out.mono ?_
    rintro e wq ⟨rfl, hb⟩
    have HB := Lib.hid hb
    obtain ⟨⟨q0, q1⟩, ⟨x0, x1⟩, ⟨y0, y1⟩, ⟨r0, r1⟩, f0, f1⟩ := CELLS.out wq hb
    clear hb z0 z1 HC
    go_wp2_with fail
    obtain ⟨e1, e2⟩ := END.out (by rw [HPB.out]; rfl) wq HB.out
    exact bodyPost_ret (results_cell_slot rfl _ _ (w.heap.size + 2) 26 #[.int .i64 cap, .slice av n cv] (0, 0) _ rfl (.bool false) rfl e1 Try.underlying26 rfl (by kernel_rfl)) rfl e2
  · by_cases hlt : (n : Int) < cap
    · have g0 : decide (cap ≤ (n : Int)) = false := decide_eq_false (by omega)
      have hlt1 : decide ((n : Int) < cap) = true := decide_eq_true hlt
      cases p
      · skip
        go_wp2_with fail
        refine HC.out.mono ?_
        rintro e wq ⟨rfl, hb⟩
        have HB := Lib.hid hb
        obtain ⟨⟨q0, q1⟩, ⟨x0, x1⟩, ⟨y0, y1⟩, ⟨r0, r1⟩, f0, f1⟩ := CELLS.out wq hb
        have HIQ := Lib.hid (HIX.out.below (A2.out.trans (hb.mono A2.out.size)) (Nat.le_refl _))
        clear hb z0 z1 HC
        have H1 := Lib.hid (specVecOk_any wq ax nx cx ys (HIQ.out.le (by have := A2.out.size; have := HB.out.size; omega)))
        rw [HP.out] at H1
        go_wp2_with fail
        refine H1.out.mono ?_
        rintro e w' ⟨rfl, rfl⟩
        go_wp2_with fail
        obtain ⟨e1, e2⟩ := END.out (by rw [HPB.out, hlt1]; rfl) wq HB.out
        exact bodyPost_ret (results_cell_slot rfl _ _ (w.heap.size + 2) 26 #[.int .i64 cap, .slice av n cv] (0, 0) _ rfl (.bool false) rfl e1 Try.underlying26 rfl (by kernel_rfl)) rfl e2
      · cases q
        · skip
          go_wp2_with fail
          refine HC.out.mono ?_
          rintro e wq ⟨rfl, hb⟩
          have HB := Lib.hid hb
          obtain ⟨⟨q0, q1⟩, ⟨x0, x1⟩, ⟨y0, y1⟩, ⟨r0, r1⟩, f0, f1⟩ := CELLS.out wq hb
          have HIQ := Lib.hid (HIX.out.below (A2.out.trans (hb.mono A2.out.size)) (Nat.le_refl _))
          clear hb z0 z1 HC
          have H1 := Lib.hid (specVecOk_any wq ax nx cx ys (HIQ.out.le (by have := A2.out.size; have := HB.out.size; omega)))
          rw [HP.out] at H1
          have H2 := Lib.hid (l1In_any m 0 4 wq)
          rw [HQ.out] at H2
          go_wp2_with fail
          refine H1.out.mono ?_
          rintro e w' ⟨rfl, rfl⟩
          go_wp2_with fail
          refine H2.out.mono ?_
          rintro e w' ⟨rfl, rfl⟩
          go_wp2_with fail
          obtain ⟨e1, e2⟩ := END.out (by rw [HPB.out, hlt1]; rfl) wq HB.out
          exact bodyPost_ret (results_cell_slot rfl _ _ (w.heap.size + 2) 26 #[.int .i64 cap, .slice av n cv] (0, 0) _ rfl (.bool false) rfl e1 Try.underlying26 rfl (by kernel_rfl)) rfl e2
        · skip
          go_wp2_with fail
          refine HC.out.mono ?_
          rintro e wq ⟨rfl, hb⟩
          have HB := Lib.hid hb
          obtain ⟨⟨q0, q1⟩, ⟨x0, x1⟩, ⟨y0, y1⟩, ⟨r0, r1⟩, f0, f1⟩ := CELLS.out wq hb
          have HIQ := Lib.hid (HIX.out.below (A2.out.trans (hb.mono A2.out.size)) (Nat.le_refl _))
          clear hb z0 z1 HC
          have H1 := Lib.hid (specVecOk_any wq ax nx cx ys (HIQ.out.le (by have := A2.out.size; have := HB.out.size; omega)))
          rw [HP.out] at H1
          have H2 := Lib.hid (l1In_any m 0 4 wq)
          rw [HQ.out] at H2
          go_wp2_with fail
          refine H1.out.mono ?_
          rintro e w' ⟨rfl, rfl⟩
          go_wp2_with fail
          refine H2.out.mono ?_
          rintro e w' ⟨rfl, rfl⟩
          go_upto_region 4 with fail
          have hsq := HB.out.size
          have HLQ := Lib.hid (HL2.out.below HB.out (by omega))
          -- whatever comes behind wq
          have LATE := Lib.hid fun (wx : World) (hx : Below wq.heap.size wq wx) => (show (wx.cell? ⟨w.heap.size + 1, 0, none⟩ = some (.int .i64 m) ∧ wx.cell? ⟨w.heap.size + 1, 1, none⟩ = some (.slice ax nx cx) ∧ wx.cell? ⟨w1.heap.size, 1, none⟩ = some (.slice av n cv)) from
            ⟨(hx.cell (p := ⟨w.heap.size + 1, 0, none⟩) (by show w.heap.size + 1 < _; omega)).trans x0, (hx.cell (p := ⟨w.heap.size + 1, 1, none⟩) (by show w.heap.size + 1 < _; omega)).trans x1, (hx.cell (p := ⟨w1.heap.size, 1, none⟩) (by show w1.heap.size < _; omega)).trans y1⟩)
          have hS0 : wq.drew.cell? ⟨w.heap.size + 1, 0, none⟩ = some (.int .i64 m) ∧ wq.drew.cell? ⟨w.heap.size + 1, 1, none⟩ = some (.slice ax nx cx) ∧ wq.drew.cell? ⟨w1.heap.size, 1, none⟩ = some (.slice av n cv) := ⟨x0, x1, y1⟩
          refine wp_region_K (S := fun w' => w'.cell? ⟨w.heap.size + 1, 0, none⟩ = some (.int .i64 m) ∧ w'.cell? ⟨w.heap.size + 1, 1, none⟩ = some (.slice ax nx cx) ∧ w'.cell? ⟨w1.heap.size, 1, none⟩ = some (.slice av n cv)) (by kernel_rfl) ?_
          refine anyK_take (i := 0) (v := ?_) rfl (by kernel_rfl) (by kernel_rfl) (by kernel_rfl) (fun _ _ _ h => h) (Or.inl ⟨by rfl, ?_⟩) hS0 ?_
          rotate_left
          · (intro wS hS; obtain ⟨sA, sB, sC⟩ := hS; go_simp; try with_reducible rfl)
          simp only [Act.put, List.setIfInBounds_toArray, List.set_cons_zero, List.set_cons_succ]
          refine anyK_take (i := 1) (v := ?_) rfl (by kernel_rfl) (by kernel_rfl) (by kernel_rfl) (fun _ _ _ h => h) (Or.inl ⟨by rfl, ?_⟩) hS0 ?_
          rotate_left
          · (intro wS hS; obtain ⟨sA, sB, sC⟩ := hS; go_simp; try with_reducible rfl)
          simp only [Act.put, List.setIfInBounds_toArray, List.set_cons_zero, List.set_cons_succ]
          refine anyK_take (i := 2) (v := ?_) rfl (by kernel_rfl) (by kernel_rfl) (by kernel_rfl) (fun _ _ _ h => h) (Or.inl ⟨by rfl, ?_⟩) hS0 ?_
          rotate_left
          · (intro wS hS; obtain ⟨sA, sB, sC⟩ := hS; go_simp; try with_reducible rfl)
          simp only [Act.put, List.setIfInBounds_toArray, List.set_cons_zero, List.set_cons_succ]
          refine anyK_take (i := 3) (v := ?_) rfl (by kernel_rfl) (by kernel_rfl) (by kernel_rfl) (fun _ _ _ h => h) (Or.inl ⟨by rfl, ?_⟩) hS0 ?_
          rotate_left
          · (intro wS hS; obtain ⟨sA, sB, sC⟩ := hS; go_simp; try with_reducible rfl)
          simp only [Act.put, List.setIfInBounds_toArray, List.set_cons_zero, List.set_cons_succ]
          refine anyK_take (i := 5) (v := ?_) rfl (by kernel_rfl) (by kernel_rfl) (by kernel_rfl) (fun _ _ _ h => h) (Or.inl ⟨by rfl, ?_⟩) hS0 ?_
          rotate_left
          · (intro wS hS; obtain ⟨sA, sB, sC⟩ := hS; go_simp; try with_reducible rfl)
          simp only [Act.put, List.setIfInBounds_toArray, List.set_cons_zero, List.set_cons_succ]
          refine anyK_take (i := 6) (v := ?_) rfl (by kernel_rfl) (by kernel_rfl) (by kernel_rfl) (fun _ _ _ h => h) (Or.inl ⟨by rfl, ?_⟩) hS0 ?_
          rotate_left
          · (intro wS hS; obtain ⟨sA, sB, sC⟩ := hS; go_simp; try with_reducible rfl)
          simp only [Act.put, List.setIfInBounds_toArray, List.set_cons_zero, List.set_cons_succ]
          have ha1 : Below wq.heap.size wq (wq.drew.alloc (.cells #[] 3 (0, 0))) := ((Below.refl _ _).drew).alloc (Nat.le_refl _) _
          have hre : Row wq.heap.size (wq.drew.alloc (.cells #[] 3 (0, 0))) (.slice (some ⟨wq.heap.size, 0, none⟩) 0 0) [] :=
            ⟨by simp [icells], .inr ⟨wq.heap.size, 0, #[], rfl, Nat.le_refl _, heap_alloc_new wq.drew _, Nat.le_refl _, Nat.zero_le _, by simp, by simp [icells]⟩⟩
          have HA1 := Lib.hid ha1
          have HRE := Lib.hid hre
          clear ha1 hre
          refine anyK_step (i := 4) (by kernel_rfl) rfl (by rfl) (fun K hK => ?_)
          go_simp
          refine hK _ _ (.inr (LATE.out _ HA1.out)) ?_
          try simp only [Act.put, List.setIfInBounds_toArray, List.set_cons_zero, List.set_cons_succ]
          clear hK
          refine anyK_step (i := 7) (by kernel_rfl) rfl (by rfl) (fun K hK => ?_)
          refine of_step rfl (step_append_ints (ops := #[]) _ rfl _ _ (by rfl) wq.heap.size _ [] (by rfl) HRE.out ax nx cx w.heap.size ys (by rfl) (HIQ.out.below (HA1.out.mono (by omega)) (Nat.le_refl _)) (by simp) HA1.out.size ?_)
          intro ar nr cr w3 hr hg
          rw [List.nil_append] at hr
          have hb3 : Below wq.heap.size wq w3 := HA1.out.trans ((Below.refl wq.heap.size _).grown hg HA1.out.size fun q hq => by cases hq; exact Nat.le_refl _)
          have HR3 := Lib.hid hr
          have HB3 := Lib.hid hb3
          clear hr hg hb3
          refine hK _ _ (.inr (LATE.out _ HB3.out)) ?_
          try simp only [Act.put, List.setIfInBounds_toArray, List.set_cons_zero, List.set_cons_succ]
          clear hK
          refine anyK_take (i := 8) (v := ?_) rfl (by kernel_rfl) (by kernel_rfl) (by kernel_rfl) (fun _ _ _ h => h) (Or.inl ⟨by rfl, ?_⟩) (LATE.out _ HB3.out) ?_
          rotate_left
          · (intro wS hS; obtain ⟨sA, sB, sC⟩ := hS; go_simp; try with_reducible rfl)
          simp only [Act.put, List.setIfInBounds_toArray, List.set_cons_zero, List.set_cons_succ]
          have HB4 := Lib.hid (HB3.out.alloc HB3.out.size (.cells #[.int .i64 m, .slice ar nr cr] 29 (0, 0)))
          refine anyK_step (i := 9) (by kernel_rfl) rfl (by rfl) (fun K hK => ?_)
          go_simp
          refine hK _ _ (.inr (LATE.out _ HB4.out)) ?_
          try simp only [Act.put, List.setIfInBounds_toArray, List.set_cons_zero, List.set_cons_succ]
          clear hK
          refine anyK_step (i := 10) (by kernel_rfl) rfl (by rfl) (fun K hK => ?_)
          have hs3' := HB3.out.size
          refine of_step rfl (step_append_one (ops := #[]) w3 (S := ownItem) (T := 29) (Ts := 24) (by rfl) _ _ (by rfl) i0 (.agg #[.int .i64 0, .slice none 0 0]) 32 Try.underlying24 hi hz0 hz1 hz2 rfl (by decide) (by decide) W0.heap.size w1.heap.size (by omega) _ l (m, ys) [.int .i64 m, .slice ar nr cr] (FromB wq.heap.size w3.heap.size) (by rfl) (HLQ.out.below HB3.out (by omega)) (HR3.out.ownItem m) (fun b o f => ⟨by have := f.1; omega, f.2⟩) item_one (by rfl) (by rw [HLEN.out]; omega) ?_)
          intro ar' nr' cr' w4 hl4 hb4 hg4 hset
          have hkq : wq.heap[w1.heap.size]? = some (.cells #[.int .i64 cap, .slice av n cv] 26 (0, 0)) := (HB.out.block _ (by omega)).trans K3.out
          have hk3 : w3.heap[w1.heap.size]? = some (.cells #[.int .i64 cap, .slice av n cv] 26 (0, 0)) := (HB3.out.block _ (by omega)).trans hkq
          have hne : some w1.heap.size ≠ (Value.slice av n cv).ownBlock := fun e => by
            obtain ⟨us, G, p1, p2, -⟩ := HLQ.out.all
            have := p2 _ e.symm
            omega
          have hk4 : w4.heap[w1.heap.size]? = some (.cells #[.int .i64 cap, .slice av n cv] 26 (0, 0)) := (hg4.block _ (by omega) hne).trans hk3
          have hb5 : Below W0.heap.size W2 w4 := ((HB.out.mono (by omega)).trans (HB3.out.mono (by omega))).trans hb4
          have hr4 := (hb5.block (w.heap.size + 2) (by omega)).trans Q2.out
          have hS4 : w4.cell? ⟨w.heap.size + 1, 0, none⟩ = some (.int .i64 m) ∧ w4.cell? ⟨w.heap.size + 1, 1, none⟩ = some (.slice ax nx cx) ∧ w4.cell? ⟨w1.heap.size, 1, none⟩ = some (.slice av n cv) :=
            ⟨(boxq ((hb5.block _ (by omega)).trans Q1.out)).1, (boxq ((hb5.block _ (by omega)).trans Q1.out)).2, (boxq hk4).2⟩
          have HSET := Lib.hid (hset.out w1.heap.size 1 (.slice ar' nr' cr') _ _ (Nat.le_refl _) (by omega) (fun b o f e => by have := f.1; omega) hk3)
          have HK4 := Lib.hid hk4
          have HR4 := Lib.hid hr4
          have HB5 := Lib.hid hb5
          have HF4 := Lib.hid hl4.form
          have hs4 := hb4.size
          clear hset hkq hk3 hne hk4 hb5 hr4 hl4 hb4 hg4
          refine hK _ _ (.inr hS4) ?_
          try simp only [Act.put, List.setIfInBounds_toArray, List.set_cons_zero, List.set_cons_succ]
          clear hK
          refine anyK_take (i := 11) (v := ?_) rfl (by kernel_rfl) (by kernel_rfl) (by kernel_rfl) (fun _ _ _ h => h) (Or.inl ⟨by rfl, ?_⟩) hS4 ?_
          rotate_left
          · (intro wS hS; obtain ⟨sA, sB, sC⟩ := hS; go_simp; try with_reducible rfl)
          simp only [Act.put, List.setIfInBounds_toArray, List.set_cons_zero, List.set_cons_succ]
          obtain ⟨-, -, s4⟩ := hS4
          have s5 : w4.frozen? ⟨w1.heap.size, 1, none⟩ = false := frozen_of_row _ _ _ _ _ HK4.out
          refine anyK_step (i := 12) (by kernel_rfl) rfl (by rfl) (fun K hK => ?_)
          go_simp
          refine hK _ _ (.inl (last_of (by kernel_rfl))) ?_
          clear hK s4 s5
          refine anyK_done (by kernel_rfl) ?_ _
          have k5 := heap_setCell_same w4 w1.heap.size 1 _ _ (.slice ar' nr' cr') HK4.out
          have r5 := (heap_setCell_other w4 ⟨w1.heap.size, 1, none⟩ (w.heap.size + 2) (.slice ar' nr' cr') (by show w.heap.size + 2 ≠ w1.heap.size; omega)).trans HR4.out
          have b5 := HB5.out.setCell (p := ⟨w1.heap.size, 1, none⟩) (by show W0.heap.size ≤ w1.heap.size; omega) (.slice ar' nr' cr')
          generalize w4.setCell ⟨w1.heap.size, 1, none⟩ (.slice ar' nr' cr') = W5 at k5 r5 b5 HSET ⊢
          obtain ⟨y0, y1⟩ := boxq (show W5.heap[w1.heap.size]? = some (.cells #[.int .i64 cap, .slice ar' nr' cr'] 26 (0, 0)) from k5)
          obtain ⟨r0, r1⟩ := boxq r5
          have f0 : W5.frozen? ⟨w.heap.size + 2, 0, none⟩ = false := frozen_of_row _ _ _ _ _ r5
          have f1 : W5.frozen? ⟨w.heap.size + 2, 1, none⟩ = false := frozen_of_row _ _ _ _ _ r5
          have hR : pushB (cap, l) (m, ys) = true := by rw [HPB.out, hlt1]; rfl
          have HR := Lib.hid hR
          have B5 := Lib.hid b5
          have R5 := Lib.hid r5
          clear hR b5 r5 k5 x0 x1
          go_wp2_with fail
          refine bodyPost_ret (results_cell_slot rfl _ _ (w.heap.size + 2) 26 #[.int .i64 cap, .slice ar' nr' cr'] (0, 0) _ rfl (.bool true) rfl (heap_setCell_same _ _ 1 _ _ _ (heap_setCell_same _ _ 0 _ _ _ R5.out)) Try.underlying26 rfl (by kernel_rfl)) rfl ?_
          refine ⟨.slice ar' nr' cr', by rw [HR.out], ?_, ((A2.out.trans (B5.out.mono (by omega))).setCell (p := ⟨w.heap.size + 2, 0, none⟩) (Nat.le_add_right _ _) _).setCell (p := ⟨w.heap.size + 2, 1, none⟩) (Nat.le_add_right _ _) _⟩
          have hl2 := (HSET.out.storedQ (w.heap.size + 2) 0 (.int .i64 cap) (by omega)).storedQ (w.heap.size + 2) 1 (.slice ar' nr' cr') (by omega)
          unfold pushN
          rw [HR.out]
          exact hl2.wide (by omega) (by simp) (Nat.le_refl _)
    · have g0 : decide (cap ≤ (n : Int)) = true := decide_eq_true (by omega)
      have hlt1 : decide ((n : Int) < cap) = false := decide_eq_false hlt
      go_wp2_with fail
      refine HC.out.mono ?_
      rintro e wq ⟨rfl, hb⟩
      have HB := Lib.hid hb
      obtain ⟨⟨q0, q1⟩, ⟨x0, x1⟩, ⟨y0, y1⟩, ⟨r0, r1⟩, f0, f1⟩ := CELLS.out wq hb
      have HIQ := Lib.hid (HIX.out.below (A2.out.trans (hb.mono A2.out.size)) (Nat.le_refl _))
      clear hb z0 z1 HC
      go_wp2_with fail
      obtain ⟨e1, e2⟩ := END.out (by rw [HPB.out, hlt1]; rfl) wq HB.out
      exact bodyPost_ret (results_cell_slot rfl _ _ (w.heap.size + 2) 26 #[.int .i64 cap, .slice av n cv] (0, 0) _ rfl (.bool false) rfl e1 Try.underlying26 rfl (by kernel_rfl)) rfl e2
theorem specPush_o (w : World) (es0 : List Value) (x0 : dQueue) (h0 : shQueue.reads (Under w.heap.size) w es0 x0) (hb0 : shQueue.bulk x0 ≤ 1048576) (es1 : List Value) (x1 : dItem) (h1 : shItem.reads (Under w.heap.size) w es1 x1) (hb1 : shItem.bulk x1 ≤ 1048576) :
    Calls Try.prog 21 #[.agg es0.toArray, .agg es1.toArray] w fun e w' => ∃ es', e = .returned (.tuple #[.agg es'.toArray, .bool (pushB x0 x1)]) ∧ shQueue.reads (From w.heap.size w'.heap.size) w' es' (pushN x0 x1) ∧ Below w.heap.size w w' := by
  refine (specPush_l w es0 x0 h0 hb0 es1 x1 h1 hb1).mono ?_
  rintro e w' ⟨v, rfl, hl, hb⟩
  obtain ⟨a, cap, rfl, e2, e3, e4⟩ := hl.list (by decide)
  have hp : (pushN x0 x1).1 = x0.1 := by unfold pushN; split <;> rfl
  exact ⟨[.int .i64 x0.1, .slice a (pushN x0 x1).2.length cap], rfl, shQueue_reads.2 ⟨a, _, cap, by rw [hp], e2, e3, e4.listAt (fun b o f => f) (by decide)⟩, hb⟩
end Go.Proofs.Ytdoofapjhgahgaa
