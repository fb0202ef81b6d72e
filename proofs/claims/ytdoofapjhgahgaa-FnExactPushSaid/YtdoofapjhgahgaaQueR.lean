/-
  Queues: the model's Pop.
-/
import Derived.Test.YtdoofapjhgahgaaQueP
namespace Go.Proofs.Ytdoofapjhgahgaa
open Go.RowKit Go.Sort
set_option linter.unusedVariables false
set_option linter.unusedSimpArgs false

theorem results_two_slot {P : Program} {fn : Func} {p q u : Tmp} {ty ty' : TypeId} (h : fn.results = #[.cell p ty, .cell q ty', .tmp u]) (tmps : Array Value) (w : World) (g g' : Nat) (t t' : TypeId) (cs cs' : Array Value) (fr fr' : Nat × Nat) (d d' : TypeDesc)
    (hp : tmps.getD p undef = .pointer (some ⟨g, 0, none⟩)) (hq : tmps.getD q undef = .pointer (some ⟨g', 0, none⟩)) (v : Value) (hv : tmps.getD u undef = v) (hg : w.heap[g]? = some (.cells cs t fr)) (hg' : w.heap[g']? = some (.cells cs' t' fr'))
    (hu : P.underlying ty = some d) (hd : (match d with | .struct _ | .array _ _ => true | _ => false) = true) (hi : (P.info? ty).map (·.size) = some cs.size)
    (hu' : P.underlying ty' = some d') (hd' : (match d' with | .struct _ | .array _ _ => true | _ => false) = true) (hi' : (P.info? ty').map (·.size) = some cs'.size) :
    (results fn tmps).run P w = .ok (.tuple #[.agg cs, .agg cs', v]) w := by
  have e : (results fn tmps).run P w = ((asAddr (tmps.getD p undef)).run P w).andThen fun a w₁ => ((loadVar ty a).run P w₁).andThen fun v w₂ => ((asAddr (tmps.getD q undef)).run P w₂).andThen fun a' w₃ => ((loadVar ty' a').run P w₃).andThen fun v' w₄ => .ok (.tuple #[v, v', tmps.getD u undef]) w₄ := by
    simp only [results, h]
    simp [Sem.run_bind, Result.andThen]
  rw [e, hp, hq, hv]
  simp [asAddr, run_loadVar_row w g t ty cs fr d hg hu hd hi, run_loadVar_row w g' t' ty' cs' fr' d' hg' hu' hd' hi', Result.andThen]
/-- A list without its first element. -/
theorem ListAt.drop1 {α : Type} {S : Shape α} {I : Nat → Prop} {w : World} {b o n : Nat} {xs : List α} (h : ListAt S I w (some ⟨b, o, none⟩) n xs) : ListAt S I w (some ⟨b, o + S.size, none⟩) (n - 1) (xs.drop 1) := by
  refine ⟨by rw [List.length_drop, h.1], fun j x hx => ?_⟩
  rw [List.getElem?_drop] at hx
  obtain ⟨b', o', es, e, h1, h2, h3⟩ := h.2 (1 + j) x hx
  cases e
  refine ⟨b, o + S.size, es, rfl, h1, fun i u hu => ?_, h3⟩
  have := h2 i u hu
  rw [Nat.add_mul, Nat.one_mul] at this
  rwa [← Nat.add_assoc o] at this
/-- Two boxes of two cells each, written. -/
theorem two_stored {wx : World} {g1 g2 : Nat} (hne : g1 ≠ g2) {p q r t : Value} {T1 T2 : TypeId} (k1 : wx.heap[g1]? = some (.cells #[p, q] T1 (0, 0))) (k2 : wx.heap[g2]? = some (.cells #[r, t] T2 (0, 0))) (x0 x1 y0 y1 : Value) :
    ((((wx.setCell ⟨g1, 0, none⟩ x0).setCell ⟨g1, 1, none⟩ x1).setCell ⟨g2, 0, none⟩ y0).setCell ⟨g2, 1, none⟩ y1).heap[g1]? = some (.cells #[x0, x1] T1 (0, 0)) ∧
    ((((wx.setCell ⟨g1, 0, none⟩ x0).setCell ⟨g1, 1, none⟩ x1).setCell ⟨g2, 0, none⟩ y0).setCell ⟨g2, 1, none⟩ y1).heap[g2]? = some (.cells #[y0, y1] T2 (0, 0)) ∧
    ((((wx.setCell ⟨g1, 0, none⟩ x0).setCell ⟨g1, 1, none⟩ x1).setCell ⟨g2, 0, none⟩ y0).setCell ⟨g2, 1, none⟩ y1).heap.size = wx.heap.size ∧
    (∀ k, k ≠ g1 → k ≠ g2 → ((((wx.setCell ⟨g1, 0, none⟩ x0).setCell ⟨g1, 1, none⟩ x1).setCell ⟨g2, 0, none⟩ y0).setCell ⟨g2, 1, none⟩ y1).heap[k]? = wx.heap[k]?) ∧
    ∀ B w, B ≤ g1 → B ≤ g2 → Below B w wx → Below B w ((((wx.setCell ⟨g1, 0, none⟩ x0).setCell ⟨g1, 1, none⟩ x1).setCell ⟨g2, 0, none⟩ y0).setCell ⟨g2, 1, none⟩ y1) := by
  refine ⟨?_, ?_, by simp, fun k h1 h2 => ?_, fun B w h1 h2 hb => (((hb.setCell (p := ⟨g1, 0, none⟩) h1 x0).setCell (p := ⟨g1, 1, none⟩) h1 x1).setCell (p := ⟨g2, 0, none⟩) h2 y0).setCell (p := ⟨g2, 1, none⟩) h2 y1⟩
  · rw [heap_setCell_other _ _ _ _ (by exact hne), heap_setCell_other _ _ _ _ (by exact hne)]
    exact heap_setCell_same _ _ 1 _ _ _ (heap_setCell_same _ _ 0 _ _ _ k1)
  · have k3 : ((wx.setCell ⟨g1, 0, none⟩ x0).setCell ⟨g1, 1, none⟩ x1).heap[g2]? = some (.cells #[r, t] T2 (0, 0)) := by
      rw [heap_setCell_other _ _ _ _ (by exact Ne.symm hne), heap_setCell_other _ _ _ _ (by exact Ne.symm hne)]
      exact k2
    exact heap_setCell_same _ _ 1 _ _ _ (heap_setCell_same _ _ 0 _ _ _ k3)
  · rw [heap_setCell_other _ _ _ _ (by exact h2), heap_setCell_other _ _ _ _ (by exact h2), heap_setCell_other _ _ _ _ (by exact h1), heap_setCell_other _ _ _ _ (by exact h1)]
set_option maxRecDepth 100000 in
set_option maxHeartbeats 6400000 in
theorem specPop_o (w : World) (es0 : List Value) (x0 : dQueue) (h0 : shQueue.reads (Under w.heap.size) w es0 x0) (hb0 : shQueue.bulk x0 ≤ 1048576) :
    Calls Try.prog 27 #[.agg es0.toArray] w fun e w' => ∃ es' fs', e = .returned (.tuple #[.agg (es' : List Value).toArray, .agg (fs' : List Value).toArray, .bool (popB x0)]) ∧ shQueue.reads (From w.heap.size w'.heap.size) w' es' (popN x0) ∧ shItem.reads (From w.heap.size w'.heap.size) w' fs' (popX x0) ∧ Below w.heap.size w w' := by
  obtain ⟨a, n, c, rfl, hc1, hc2, hl⟩ := shQueue_reads.1 h0
  obtain ⟨cap, l⟩ := x0
  replace hl : ListAt shItem (Under w.heap.size) w a n l := hl
  replace hb0 : (Shape.list shItem).bulk l ≤ 1048576 := by rw [shQueue_bulk] at hb0; exact hb0
  rw [bulk_list shItem hl] at hb0
  have hn : n ≤ 1048576 := by omega
  have hbl : Shape.sum shItem.bulk l ≤ 1048576 := by omega
  have hlen : l.length = n := hl.1
  have hk0 : (((w.alloc (.cells #[.int .i64 cap, .slice a n c] 26 (0, 0))).alloc (.cells #[.int .i64 0, .slice none 0 0] 26 (0, 0))).alloc (.cells #[.int .i64 0, .slice none 0 0] 29 (0, 0))).heap[w.heap.size]? = some (.cells #[.int .i64 cap, .slice a n c] 26 (0, 0)) := by
    rw [Below.heap_alloc _ _ _ (by simp; omega), Below.heap_alloc _ _ _ (by simp)]
    exact heap_alloc_new w _
  have hk1 : (((w.alloc (.cells #[.int .i64 cap, .slice a n c] 26 (0, 0))).alloc (.cells #[.int .i64 0, .slice none 0 0] 26 (0, 0))).alloc (.cells #[.int .i64 0, .slice none 0 0] 29 (0, 0))).heap[w.heap.size + 1]? = some (.cells #[.int .i64 0, .slice none 0 0] 26 (0, 0)) := by
    rw [Below.heap_alloc _ _ _ (by simp)]
    have := heap_alloc_new (w.alloc (.cells #[.int .i64 cap, .slice a n c] 26 (0, 0))) (.cells #[.int .i64 0, .slice none 0 0] 26 (0, 0))
    simpa using this
  have hk2 : (((w.alloc (.cells #[.int .i64 cap, .slice a n c] 26 (0, 0))).alloc (.cells #[.int .i64 0, .slice none 0 0] 26 (0, 0))).alloc (.cells #[.int .i64 0, .slice none 0 0] 29 (0, 0))).heap[w.heap.size + 2]? = some (.cells #[.int .i64 0, .slice none 0 0] 29 (0, 0)) := by
    have := heap_alloc_new ((w.alloc (.cells #[.int .i64 cap, .slice a n c] 26 (0, 0))).alloc (.cells #[.int .i64 0, .slice none 0 0] 26 (0, 0))) (.cells #[.int .i64 0, .slice none 0 0] 29 (0, 0))
    simpa using this
  have hal : Below w.heap.size w (((w.alloc (.cells #[.int .i64 cap, .slice a n c] 26 (0, 0))).alloc (.cells #[.int .i64 0, .slice none 0 0] 26 (0, 0))).alloc (.cells #[.int .i64 0, .slice none 0 0] 29 (0, 0))) := (((Below.refl _ _).alloc (Nat.le_refl _) _).alloc (by simp) _).alloc (by simp; omega) _
  have hs3 : (((w.alloc (.cells #[.int .i64 cap, .slice a n c] 26 (0, 0))).alloc (.cells #[.int .i64 0, .slice none 0 0] 26 (0, 0))).alloc (.cells #[.int .i64 0, .slice none 0 0] 29 (0, 0))).heap.size = w.heap.size + 3 := by simp
  have HL := Lib.hid hl
  have K0 := Lib.hid hk0
  have K1 := Lib.hid hk1
  have K2 := Lib.hid hk2
  have HA := Lib.hid hal
  clear hl hk0 hk1 hk2 hal h0
  go_enter Try.func27, Try.ntmps27
  go_upto_region 1 with fail
  generalize (((w.alloc (.cells #[.int .i64 cap, .slice a n c] 26 (0, 0))).alloc (.cells #[.int .i64 0, .slice none 0 0] 26 (0, 0))).alloc (.cells #[.int .i64 0, .slice none 0 0] 29 (0, 0))) = W0 at K0 K1 K2 HA hs3 ⊢
  obtain ⟨z0, z1⟩ := boxq K0.out
  have HC := Lib.hid (specQueueCopy_o W0 cap a n c l ((HL.out.below HA.out (Nat.le_refl _)).le HA.out.size) hn hbl)
  go_wp2_with fail
  refine HC.out.mono ?_
  rintro e w1 ⟨v, rfl, hll, hb⟩
  have hs1 := hb.size
  have ha2 := hb.alloc (Nat.le_trans (Nat.le_refl _) hs1) (.cells #[.int .i64 cap, v] 26 (0, 0))
  have hk3 := heap_alloc_new w1 (.cells #[.int .i64 cap, v] 26 (0, 0))
  have hs2 : (w1.alloc (.cells #[.int .i64 cap, v] 26 (0, 0))).heap.size = w1.heap.size + 1 := by simp
  have hl2 := hll.below ((Below.refl w1.heap.size w1).alloc (Nat.le_refl _) (.cells #[.int .i64 cap, v] 26 (0, 0))) (Nat.le_refl _)
  have HL2 := Lib.hid hl2
  have B2 := Lib.hid ha2
  have K3 := Lib.hid hk3
  obtain ⟨av, cv, rfl, -, -⟩ := hll.form
  rw [hlen] at HL2 B2 K3 hs2 ⊢
  have Q0 := Lib.hid ((B2.out.block w.heap.size (by omega)).trans K0.out)
  have Q1 := Lib.hid ((B2.out.block (w.heap.size + 1) (by omega)).trans K1.out)
  have Q2 := Lib.hid ((B2.out.block (w.heap.size + 2) (by omega)).trans K2.out)
  have HLEN := Lib.hid hlen
  clear hll hb ha2 hk3 hl2 z0 z1 HC hlen K0 K1 K2
  go_upto_region 2 with fail
  generalize w1.alloc (.cells #[.int .i64 cap, .slice av n cv] 26 (0, 0)) = W2 at HL2 B2 K3 hs2 Q0 Q1 Q2 ⊢
  have A2 := Lib.hid (HA.out.trans (B2.out.mono HA.out.size))
  have HC := Lib.hid (specQueueOk_c W2 cap a n c l ((HL.out.below A2.out (Nat.le_refl _)).le A2.out.size) hn hbl)
  obtain ⟨z0, z1⟩ := boxq Q0.out
  obtain ⟨A, hA⟩ : ∃ A, queueOkB (cap, l) = A := ⟨_, rfl⟩
  have hpb : popB (cap, l) = (A && decide (0 < n)) := by
    unfold popB
    rw [hA]
    show (A && decide (0 < l.length)) = _
    rw [HLEN.out]
  rw [hA] at HC
  have HPB := Lib.hid hpb
  -- the boxes behind whatever call
  have CELLS := Lib.hid fun (wx : World) (hx : Below W2.heap.size W2 wx) => (show (wx.cell? ⟨w.heap.size, 0, none⟩ = some (.int .i64 cap) ∧ wx.cell? ⟨w.heap.size, 1, none⟩ = some (.slice a n c)) ∧ (wx.cell? ⟨w1.heap.size, 0, none⟩ = some (.int .i64 cap) ∧ wx.cell? ⟨w1.heap.size, 1, none⟩ = some (.slice av n cv)) ∧ (wx.cell? ⟨w.heap.size + 1, 0, none⟩ = some (.int .i64 0) ∧ wx.cell? ⟨w.heap.size + 1, 1, none⟩ = some (.slice none 0 0)) ∧ (wx.cell? ⟨w.heap.size + 2, 0, none⟩ = some (.int .i64 0) ∧ wx.cell? ⟨w.heap.size + 2, 1, none⟩ = some (.slice none 0 0)) ∧ wx.frozen? ⟨w.heap.size + 1, 0, none⟩ = false ∧ wx.frozen? ⟨w.heap.size + 1, 1, none⟩ = false ∧ wx.frozen? ⟨w.heap.size + 2, 0, none⟩ = false ∧ wx.frozen? ⟨w.heap.size + 2, 1, none⟩ = false ∧ wx.frozen? ⟨w1.heap.size, 1, none⟩ = false from
    ⟨boxq ((hx.block _ (by omega)).trans Q0.out), boxq ((hx.block _ (by omega)).trans K3.out), boxq ((hx.block _ (by omega)).trans Q1.out), boxq ((hx.block _ (by omega)).trans Q2.out), frozen_of_row _ _ _ _ _ ((hx.block _ (by omega)).trans Q1.out), frozen_of_row _ _ _ _ _ ((hx.block _ (by omega)).trans Q1.out), frozen_of_row _ _ _ _ _ ((hx.block _ (by omega)).trans Q2.out), frozen_of_row _ _ _ _ _ ((hx.block _ (by omega)).trans Q2.out), frozen_of_row _ _ _ _ _ ((hx.block _ (by omega)).trans K3.out)⟩)
  -- the end where nothing is taken out
  have END : Hid (popB (cap, l) = false → ∀ wx, Below W2.heap.size W2 wx →
      ∃ es' fs', Ending.returned (.tuple #[.agg #[.int .i64 cap, .slice av n cv], .agg #[.int .i64 0, .slice none 0 0], .bool false]) = .returned (.tuple #[.agg (es' : List Value).toArray, .agg (fs' : List Value).toArray, .bool (popB (cap, l))]) ∧
        shQueue.reads (From w.heap.size ((((wx.setCell ⟨w.heap.size + 1, 0, none⟩ (.int .i64 cap)).setCell ⟨w.heap.size + 1, 1, none⟩ (.slice av n cv)).setCell ⟨w.heap.size + 1 + 1, 0, none⟩ (.int .i64 0)).setCell ⟨w.heap.size + 1 + 1, 1, none⟩ (.slice none 0 0)).heap.size) ((((wx.setCell ⟨w.heap.size + 1, 0, none⟩ (.int .i64 cap)).setCell ⟨w.heap.size + 1, 1, none⟩ (.slice av n cv)).setCell ⟨w.heap.size + 1 + 1, 0, none⟩ (.int .i64 0)).setCell ⟨w.heap.size + 1 + 1, 1, none⟩ (.slice none 0 0)) es' (popN (cap, l)) ∧
        shItem.reads (From w.heap.size ((((wx.setCell ⟨w.heap.size + 1, 0, none⟩ (.int .i64 cap)).setCell ⟨w.heap.size + 1, 1, none⟩ (.slice av n cv)).setCell ⟨w.heap.size + 1 + 1, 0, none⟩ (.int .i64 0)).setCell ⟨w.heap.size + 1 + 1, 1, none⟩ (.slice none 0 0)).heap.size) ((((wx.setCell ⟨w.heap.size + 1, 0, none⟩ (.int .i64 cap)).setCell ⟨w.heap.size + 1, 1, none⟩ (.slice av n cv)).setCell ⟨w.heap.size + 1 + 1, 0, none⟩ (.int .i64 0)).setCell ⟨w.heap.size + 1 + 1, 1, none⟩ (.slice none 0 0)) fs' (popX (cap, l)) ∧
        Below w.heap.size w ((((wx.setCell ⟨w.heap.size + 1, 0, none⟩ (.int .i64 cap)).setCell ⟨w.heap.size + 1, 1, none⟩ (.slice av n cv)).setCell ⟨w.heap.size + 1 + 1, 0, none⟩ (.int .i64 0)).setCell ⟨w.heap.size + 1 + 1, 1, none⟩ (.slice none 0 0))) := Lib.hid fun hR wx hx => by
    obtain ⟨-, -, hsz, hot, hbe⟩ := two_stored (g1 := w.heap.size + 1) (g2 := w.heap.size + 1 + 1) (by omega) ((hx.block _ (by omega)).trans Q1.out) ((hx.block _ (by omega)).trans Q2.out) (.int .i64 cap) (.slice av n cv) (.int .i64 0) (.slice none 0 0)
    have hbw := hbe w.heap.size w (by omega) (by omega) (A2.out.trans (hx.mono A2.out.size))
    have hlx := HL2.out.below hx (by omega)
    generalize ((((wx.setCell ⟨w.heap.size + 1, 0, none⟩ (.int .i64 cap)).setCell ⟨w.heap.size + 1, 1, none⟩ (.slice av n cv)).setCell ⟨w.heap.size + 1 + 1, 0, none⟩ (.int .i64 0)).setCell ⟨w.heap.size + 1 + 1, 1, none⟩ (.slice none 0 0)) = wf at hsz hot hbw ⊢
    refine ⟨[.int .i64 cap, .slice av n cv], [.int .i64 0, .slice none 0 0], by rw [hR], ?_, ?_, hbw⟩
    · obtain ⟨a', cap', e1, e2, e3, e4⟩ := hlx.list (by decide)
      rw [HLEN.out] at e1 e2 e4
      cases e1
      unfold popN
      rw [hR]
      refine shQueue_reads.2 ⟨_, _, _, rfl, e2, e3, ((e4.listAt (I := fun b => W0.heap.size ≤ b ∧ b < w1.heap.size) (fun b o f => f) (by decide)).keep fun b hb => hot b (by have := hb.1; omega) (by have := hb.1; omega)).sub fun b hb => ⟨by have := hb.1; omega, ?_⟩⟩
      rw [hsz]
      have h1 := hx.size
      have h2 := hb.2
      omega
    · unfold popX
      rw [hR]
      exact shItem_reads.2 ⟨none, 0, 0, rfl, Nat.le_refl _, by omega, rfl, fun j x hx => by simp at hx⟩
  clear hA hpb
  cases A
  · go_wp2_with fail
    refine HC.out.mono ?_
    rintro e wq ⟨rfl, hb⟩
    have HB := Lib.hid hb
    obtain ⟨⟨q0, q1⟩, ⟨y0, y1⟩, ⟨r0, r1⟩, ⟨s0, s1⟩, f0, f1, f2, f3, f4⟩ := CELLS.out wq hb
    clear hb z0 z1 HC
    go_wp2_with fail
    obtain ⟨e0, e1, -, -, -⟩ := two_stored (g1 := w.heap.size + 1) (g2 := w.heap.size + 1 + 1) (by omega) ((HB.out.block _ (by omega)).trans Q1.out) ((HB.out.block _ (by omega)).trans Q2.out) (.int .i64 cap) (.slice av n cv) (.int .i64 0) (.slice none 0 0)
    exact bodyPost_ret (results_two_slot rfl _ _ (w.heap.size + 1) (w.heap.size + 1 + 1) 26 29 #[.int .i64 cap, .slice av n cv] #[.int .i64 0, .slice none 0 0] (0, 0) (0, 0) _ _ rfl rfl (.bool false) rfl e0 e1 Try.underlying26 rfl (by kernel_rfl) Try.underlying29 rfl (by kernel_rfl)) rfl (END.out (by rw [HPB.out]; rfl) wq HB.out)
  · by_cases hp : 0 < n
    · have g0 : decide ((n : Int) = 0) = false := decide_eq_false (by omega)
      have hlt1 : decide (0 < n) = true := decide_eq_true hp
      obtain ⟨b, o, x, ax, nx, cx, hx, rfl, hbB, k0, k1, -, -, hlx⟩ := item_at HL.out 0 hp
      have hbx := bulk_mem shItem.bulk l 0 x hx
      rw [shItem_bulk, bulk_ints, hlx.1] at hbx
      have hnx : nx ≤ 1048576 := by omega
      have hix := hlx.ints hnx
      have hR : popB (cap, l) = true := by rw [HPB.out, hlt1]; rfl
      have hpx : popX (cap, l) = x := by
        unfold popX
        rw [hR]
        show l.getD 0 (0, []) = x
        rw [List.getD_eq_getElem?_getD, hx]
        rfl
      obtain ⟨M, hM⟩ : ∃ M, x.1 = M := ⟨_, rfl⟩
      rw [hM] at k0
      rw [Nat.zero_mul, Nat.add_zero] at k0 k1
      have HR := Lib.hid hR
      have HPX := Lib.hid hpx
      have HM := Lib.hid hM
      have HK0 := Lib.hid k0
      have HK1 := Lib.hid k1
      have HIX := Lib.hid hix
      clear hx hlx hix k0 k1 hR hpx hM hbx
      go_wp2_with fail
      refine HC.out.mono ?_
      rintro e wq ⟨rfl, hb⟩
      have HB := Lib.hid hb
      have AQ := Lib.hid (A2.out.trans (hb.mono A2.out.size))
      obtain ⟨⟨q0, q1⟩, -⟩ := CELLS.out wq hb
      have d0 := (AQ.out.cell (p := ⟨b, o, none⟩) hbB).trans HK0.out
      have d1 := (AQ.out.cell (p := ⟨b, o + 1, none⟩) hbB).trans HK1.out
      clear hb z0 z1 HC
      go_upto_region 5 with fail
      have hb4 := HB.out.alloc HB.out.size (.cells #[.int .i64 M, .slice ax nx cx] 29 (0, 0))
      have hk4 := heap_alloc_new wq (.cells #[.int .i64 M, .slice ax nx cx] 29 (0, 0))
      have hs4 : (wq.alloc (.cells #[.int .i64 M, .slice ax nx cx] 29 (0, 0))).heap.size = wq.heap.size + 1 := by simp
      have hsq := HB.out.size
      clear q0 q1 d0 d1
      generalize wq.alloc (.cells #[.int .i64 M, .slice ax nx cx] 29 (0, 0)) = W4 at hb4 hk4 hs4 ⊢
      obtain ⟨-, ⟨y0, y1⟩, -, -, -, -, -, -, f4⟩ := CELLS.out W4 hb4
      have hl4 := HL2.out.below hb4 (by omega)
      obtain ⟨av', rfl⟩ : ∃ g, av = some ⟨g, 0, none⟩ := by
        obtain ⟨us, G, p1, -⟩ := hl4.all
        rcases p1.2 with ⟨e, e'⟩ | ⟨g, cap', cur, e, -⟩
        · cases e
          rw [HLEN.out] at e'
          omega
        · cases e
          exact ⟨g, rfl⟩
      obtain ⟨a', cap', e1, e2, e3, e4⟩ := hl4.list (by decide)
      rw [HLEN.out] at e1 e2 e4
      cases e1
      have hl5 := (e4.listAt (I := fun b => W0.heap.size ≤ b ∧ b < w1.heap.size) (fun b o f => f) (by decide))
      have hdr1 := hl5.drop1
      have hlh : ∀ hc : cv = 1, ListAt shItem (fun b => W0.heap.size ≤ b ∧ b < w1.heap.size) W4 (some ⟨av', 0, none⟩) (n - 1) (l.drop 1) := fun hc => ⟨hdr1.1, fun j x hx => by
        have := (List.getElem?_eq_some_iff.1 hx).1
        rw [hdr1.1] at this
        omega⟩
      have hcn : n - 1 ≤ cv - 1 := by omega
      have hcm : cv - 1 ≤ 9223372036854775807 := by omega
      have HD1 := Lib.hid hdr1
      have HLH := Lib.hid hlh
      have HB4 := Lib.hid hb4
      have HK4 := Lib.hid hk4
      have HKY := Lib.hid ((hb4.block w1.heap.size (by omega)).trans K3.out)
      have HKR := Lib.hid ((hb4.block (w.heap.size + 1) (by omega)).trans Q1.out)
      have HKS := Lib.hid ((hb4.block (w.heap.size + 2) (by omega)).trans Q2.out)
      clear hdr1 hlh hl5 e4 e2 e3 hl4 hb4 hk4
      go_upto_region 6 with fail
      obtain ⟨A, hA⟩ : ∃ A : Option Addr, (if cv = 1 then some ⟨av', 0, none⟩ else some ⟨av', 2, none⟩) = A := ⟨_, rfl⟩
      have hlv : ∃ oo, A = some ⟨av', oo, none⟩ ∧ ListAt shItem (fun b => W0.heap.size ≤ b ∧ b < w1.heap.size) W4 (some ⟨av', oo, none⟩) (n - 1) (l.drop 1) := by
        by_cases hc : cv = 1
        · exact ⟨0, by rw [← hA, if_pos hc], HLH.out hc⟩
        · exact ⟨2, by rw [← hA, if_neg hc], HD1.out⟩
      rw [hA]
      have k5 := heap_setCell_same W4 w1.heap.size 1 _ _ (.slice A (n - 1) (cv - 1)) HKY.out
      have r5 := (heap_setCell_other W4 ⟨w1.heap.size, 1, none⟩ (w.heap.size + 1) (.slice A (n - 1) (cv - 1)) (by show w.heap.size + 1 ≠ w1.heap.size; omega)).trans HKR.out
      have s5 := (heap_setCell_other W4 ⟨w1.heap.size, 1, none⟩ (w.heap.size + 2) (.slice A (n - 1) (cv - 1)) (by show w.heap.size + 2 ≠ w1.heap.size; omega)).trans HKS.out
      have q5 := (heap_setCell_other W4 ⟨w1.heap.size, 1, none⟩ wq.heap.size (.slice A (n - 1) (cv - 1)) (by show wq.heap.size ≠ w1.heap.size; omega)).trans HK4.out
      have o5 : ∀ k, k ≠ w1.heap.size → (W4.setCell ⟨w1.heap.size, 1, none⟩ (.slice A (n - 1) (cv - 1))).heap[k]? = W4.heap[k]? := fun k hk => heap_setCell_other W4 ⟨w1.heap.size, 1, none⟩ k (.slice A (n - 1) (cv - 1)) hk
      have z5 : (W4.setCell ⟨w1.heap.size, 1, none⟩ (.slice A (n - 1) (cv - 1))).heap.size = wq.heap.size + 1 := by simpa using hs4
      have b5 := (HB4.out.mono (by omega : W0.heap.size ≤ W2.heap.size)).setCell (p := ⟨w1.heap.size, 1, none⟩) (by show W0.heap.size ≤ w1.heap.size; omega) (.slice A (n - 1) (cv - 1))
      generalize W4.setCell ⟨w1.heap.size, 1, none⟩ (.slice A (n - 1) (cv - 1)) = W5 at k5 r5 s5 q5 o5 z5 b5 ⊢
      have Z5 := Lib.hid z5
      have z6 : wq.heap.size < W5.heap.size := by omega
      clear z5
      have n1 : ¬ w1.heap.size = w.heap.size + 1 := by omega
      have n2 : ¬ w1.heap.size = w.heap.size + 1 + 1 := by omega
      have n3 : ¬ wq.heap.size = w.heap.size + 1 := by omega
      have n4 : ¬ wq.heap.size = w.heap.size + 1 + 1 := by omega
      have n5 : ¬ w.heap.size + 1 = w1.heap.size := by omega
      have n6 : ¬ w.heap.size + 1 + 1 = w1.heap.size := by omega
      have n7 : ¬ w.heap.size + 1 = wq.heap.size := by omega
      have n8 : ¬ w.heap.size + 1 + 1 = wq.heap.size := by omega
      have K5 : Hid (W5.heap[w1.heap.size]? = some (.cells #[.int .i64 cap, (.slice A (n - 1) (cv - 1))] 26 (0, 0))) := Lib.hid k5
      have R5 := Lib.hid r5
      have S5 := Lib.hid s5
      have Q5 := Lib.hid q5
      have O5 := Lib.hid o5
      have B5 := Lib.hid b5
      have HLV := Lib.hid hlv
      have KEEP := Lib.hid fun (wx : World) (hx : Below W5.heap.size W5 wx) => (show wx.cell? ⟨w1.heap.size, 0, none⟩ = some (.int .i64 cap) ∧ wx.cell? ⟨w1.heap.size, 1, none⟩ = some (.slice A (n - 1) (cv - 1)) ∧ wx.cell? ⟨wq.heap.size, 0, none⟩ = some (.int .i64 M) ∧ wx.cell? ⟨wq.heap.size, 1, none⟩ = some (.slice ax nx cx) from
        ⟨(boxq ((hx.block _ (by omega)).trans K5.out)).1, (boxq ((hx.block _ (by omega)).trans K5.out)).2, (boxq ((hx.block _ (by omega)).trans Q5.out)).1, (boxq ((hx.block _ (by omega)).trans Q5.out)).2⟩)
      have RES := Lib.hid fun (wx : World) (hx : Below W5.heap.size W5 wx) => (show (wx.cell? ⟨w.heap.size + 1, 0, none⟩ = some (.int .i64 0) ∧ wx.cell? ⟨w.heap.size + 1, 1, none⟩ = some (.slice none 0 0)) ∧ (wx.cell? ⟨w.heap.size + 1 + 1, 0, none⟩ = some (.int .i64 0) ∧ wx.cell? ⟨w.heap.size + 1 + 1, 1, none⟩ = some (.slice none 0 0)) ∧ wx.frozen? ⟨w.heap.size + 1, 0, none⟩ = false ∧ wx.frozen? ⟨w.heap.size + 1, 1, none⟩ = false ∧ wx.frozen? ⟨w.heap.size + 1 + 1, 0, none⟩ = false ∧ wx.frozen? ⟨w.heap.size + 1 + 1, 1, none⟩ = false from
        ⟨boxq ((hx.block _ (by omega)).trans R5.out), boxq ((hx.block _ (by omega)).trans S5.out), frozen_of_row _ _ _ _ _ ((hx.block _ (by omega)).trans R5.out), frozen_of_row _ _ _ _ _ ((hx.block _ (by omega)).trans R5.out), frozen_of_row _ _ _ _ _ ((hx.block _ (by omega)).trans S5.out), frozen_of_row _ _ _ _ _ ((hx.block _ (by omega)).trans S5.out)⟩)
      have DR : Hid (Below W5.heap.size W5 W5.drew) := Lib.hid (Below.refl _ _).drew
      obtain ⟨y1, y2, y3, y4⟩ := KEEP.out _ DR.out
      have ha1 : Below W5.heap.size W5 (W5.alloc (.cells #[] 3 (0, 0))).drew := ((Below.refl _ _).alloc (Nat.le_refl _) _).drew
      have hre : Row W5.heap.size (W5.alloc (.cells #[] 3 (0, 0))).drew (.slice (some ⟨W5.heap.size, 0, none⟩) 0 0) [] :=
        ⟨by simp [icells], .inr ⟨W5.heap.size, 0, #[], rfl, Nat.le_refl _, heap_alloc_new W5 _, Nat.le_refl _, Nat.zero_le _, by simp, by simp [icells]⟩⟩
      have HA1 := Lib.hid ha1
      have HRE := Lib.hid hre
      obtain ⟨r1, r2, r3, r4⟩ := KEEP.out _ ha1
      have HW5 := Lib.hid (A2.out.trans (B5.out.mono (by omega)))
      clear k5 r5 s5 q5 o5 b5 hlv ha1 hre hA
      go_region_held3 (fun w' => w'.cell? ⟨w1.heap.size, 0, none⟩ = some (.int .i64 cap) ∧ w'.cell? ⟨w1.heap.size, 1, none⟩ = some (.slice A (n - 1) (cv - 1)) ∧ w'.cell? ⟨wq.heap.size, 0, none⟩ = some (.int .i64 M) ∧ w'.cell? ⟨wq.heap.size, 1, none⟩ = some (.slice ax nx cx))
        (first | go_keep | (go_split_ands; refine ⟨?_, ?_, ?_, ?_⟩ <;> with_reducible assumption))
        (first
          | (refine step_append_ints _ (by rfl) _ _ (by rfl) W5.heap.size _ [] (by rfl) HRE.out ax nx cx w.heap.size x.2 (by rfl) (HIX.out.below (HW5.out.trans (HA1.out.mono (by omega))) (Nat.le_refl _)) (by simp) HA1.out.size ?_
             intro ar nr cr w6 hr hg
             rw [List.nil_append] at hr
             have hb6 : Below W5.heap.size W5 w6 := HA1.out.trans ((Below.refl W5.heap.size _).grown hg HA1.out.size fun q hq => by cases hq; exact Nat.le_refl _)
             obtain ⟨s1, s2, s3, s4⟩ := KEEP.out _ hb6
             obtain ⟨⟨u1, u2⟩, ⟨u3, u4⟩, u5, u6, u7, u8⟩ := RES.out _ hb6
             have HR6 := Lib.hid hr
             have HB6 := Lib.hid hb6
             clear hr hg hb6))
      clear r1 r2 r3 r4 y1 y2 y3 y4 s1 s2 s3 s4 u1 u2 u3 u4 u5 u6 u7 u8
      have hs6 := HB6.out.size
      obtain ⟨e0, e1, hsz, hot, hbe⟩ := two_stored (wx := w6) (g1 := w.heap.size + 1) (g2 := w.heap.size + 1 + 1) (by omega) ((HB6.out.block _ (by omega)).trans R5.out) ((HB6.out.block _ (by omega)).trans S5.out) (.int .i64 cap) (.slice A (n - 1) (cv - 1)) (.int .i64 M) (.slice ar nr cr)
      have hbw := hbe w.heap.size w (by omega) (by omega) (HW5.out.trans (HB6.out.mono HW5.out.size))
      have E0 := Lib.hid e0
      have E1 := Lib.hid e1
      have HSZ := Lib.hid hsz
      have HOT := Lib.hid hot
      have HBW := Lib.hid hbw
      clear e0 e1 hsz hot hbw hbe
      go_wp2_with fail
      refine bodyPost_ret (results_two_slot rfl _ _ (w.heap.size + 1) (w.heap.size + 1 + 1) 26 29 #[.int .i64 cap, .slice A (n - 1) (cv - 1)] #[.int .i64 M, .slice ar nr cr] (0, 0) (0, 0) _ _ rfl rfl (.bool true) rfl E0.out E1.out Try.underlying26 rfl (by kernel_rfl) Try.underlying29 rfl (by kernel_rfl)) rfl ?_
      refine ⟨[.int .i64 cap, .slice A (n - 1) (cv - 1)], [.int .i64 M, .slice ar nr cr], by rw [HR.out], ?_, ?_, HBW.out⟩
      · obtain ⟨oo, rfl, hlo⟩ := HLV.out
        unfold popN
        rw [HR.out]
        refine shQueue_reads.2 ⟨_, _, _, rfl, hcn, hcm, (hlo.keep fun k hk => (HOT.out k (by have := hk.1; omega) (by have := hk.1; omega)).trans ((HB6.out.block k (by have := hk.2; omega)).trans (O5.out k (by have := hk.2; omega)))).sub fun k hk => ⟨by have := hk.1; omega, ?_⟩⟩
        rw [HSZ.out]
        have := hk.2
        omega
      · rw [HPX.out]
        obtain ⟨a', n', c', e', q1, q2, q3⟩ := HR6.out.own
        cases e'
        refine shItem_reads.2 ⟨ar, nr, cr, by rw [HM.out], q1, q2, ((q3.listAt (I := fun k => W5.heap.size ≤ k ∧ k < w6.heap.size) (fun k o f => f) (by decide)).keep fun k hk => HOT.out k (by have := hk.1; omega) (by have := hk.1; omega)).sub fun k hk => ⟨by have := hk.1; omega, ?_⟩⟩
        rw [HSZ.out]
        exact hk.2
    · have g0 : decide ((n : Int) = 0) = true := decide_eq_true (by omega)
      have hlt1 : decide (0 < n) = false := decide_eq_false hp
      obtain rfl : n = 0 := by omega
      go_wp2_with fail
      refine HC.out.mono ?_
      rintro e wq ⟨rfl, hb⟩
      have HB := Lib.hid hb
      obtain ⟨⟨q0, q1⟩, ⟨y0, y1⟩, ⟨r0, r1⟩, ⟨s0, s1⟩, f0, f1, f2, f3, f4⟩ := CELLS.out wq hb
      clear hb z0 z1 HC
      go_wp2_with fail
      obtain ⟨e0, e1, -, -, -⟩ := two_stored (g1 := w.heap.size + 1) (g2 := w.heap.size + 1 + 1) (by omega) ((HB.out.block _ (by omega)).trans Q1.out) ((HB.out.block _ (by omega)).trans Q2.out) (.int .i64 cap) (.slice av 0 cv) (.int .i64 0) (.slice none 0 0)
      exact bodyPost_ret (results_two_slot rfl _ _ (w.heap.size + 1) (w.heap.size + 1 + 1) 26 29 #[.int .i64 cap, .slice av 0 cv] #[.int .i64 0, .slice none 0 0] (0, 0) (0, 0) _ _ rfl rfl (.bool false) rfl e0 e1 Try.underlying26 rfl (by kernel_rfl) Try.underlying29 rfl (by kernel_rfl)) rfl (END.out (by rw [HPB.out]; rfl) wq HB.out)
end Go.Proofs.Ytdoofapjhgahgaa
