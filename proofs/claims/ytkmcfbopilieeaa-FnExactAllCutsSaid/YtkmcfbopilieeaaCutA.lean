/-
  The program's AllCuts.
-/
import Derived.Test.YtkmcfbopilieeaaCutW
import Derived.Test.YtkmcfbopilieeaaGrow
import Derived.Deep.AppendLies
namespace Go.Proofs.Ytkmcfbopilieeaa
open Go.RowKit Go.Shelf
set_option linter.unusedVariables false
attribute [local go_sem] Oper.semAt_some

theorem wpListIn_append_at {F : Fence} {n : Nat} {P : Program} (w : World) {ops : Array Oper} {rest : List Oper} {o : Oper} {a : Act} {Q : Exit → Act → World → Prop}
    (hg : o.guard = none) (s x : Operand) (t : TypeId) (hop : o.op = Op.call { callee := Callee.builtin Builtin.append, args := #[s, x], argTypes := #[t, t] })
    (base : Nat) (e : TypeId) (i : TypeInfo) (z : Value) (size bytes : Nat) (h1 : P.underlying t = some (.slice e)) (h2 : P.info? e = some i) (h3 : i.zero = some z) (h4 : i.size = size) (h5 : i.bytes = bytes) (h6 : z.cells.size = size) (h7 : 0 < size)
    (v : Value) (k : Nat) (xs : List Value) (hs : a.eval s = v) (hown : w.ownsRow base e size v k xs) (ad : Addr) (m c : Nat) (news : List Value) (hx : a.eval x = .slice (some ad) m c) (hn : news.length = m * size)
    (hc : ∀ j u, news[j]? = some u → w.cell? (ad.add j) = some u) (h1c : ∀ u ∈ news, u.oneCell' = true) (hm : 0 < m) (b1 : k + m ≤ maxLen) (b2 : (k + m) * bytes ≤ 140737488355328) (b3 : base ≤ w.heap.size) (H : Nat) (hH : w.heap.size = H)
    (hK : ∀ g cap w', w'.ownsRow base e size (.slice (some ⟨g, 0, none⟩) (k + m) cap) (k + m) (xs ++ news) → w.grownBy w' v.ownBlock → (v.ownBlock = some g ∨ g = H) → g < w'.heap.size → wpListIn F n P ops Q rest (a.put o.dst (.slice (some ⟨g, 0, none⟩) (k + m) cap)) w') :
    wpListIn F n P ops Q (o :: rest) a w := by
  refine wpListIn_plain hg fun K hK' => ?_
  obtain ⟨g, cap, w', hrun, r1, r2, r3, r4⟩ := run_append_lies (P := P) w t o.type base e i z size bytes h1 h2 h3 h4 h5 h6 h7 v k xs hown ad m c news hn hc h1c hm b1 b2 b3 H hH
  unfold Oper.wpIn
  refine ⟨?_, ?_⟩
  · simp [Oper.about, hop, resolve, Target.leads, Sem.run_pure]
  · rw [Oper.semAt_plain F _ _ (by rw [hop]; intro c hc'; cases hc')]
    simp [execOp, hop, resolve, invoke, builtin, hs, hx, hrun, Result.andThen]
    exact hK' _ _ (hK g cap w' r1 r2 r3 r4)
theorem ListL.same {α : Type} {S : Owned α} {T : TypeId} {lo hi : Nat} {w w' : World} {v : Value} {xs : List α} (h : ListL S T lo hi w v xs) (hb : ∀ k, lo ≤ k → k < hi → w'.heap[k]? = w.heap[k]?) (ht : hi ≤ w'.heap.size) : ListL S T lo hi w' v xs := by
  obtain ⟨us, G, h1, h2, h3, h4, h5⟩ := h.all
  refine ⟨ht, us, G, ⟨h1.1, h1.2.imp id ?_⟩, h2, fun j x hx => ?_, h4, h5⟩
  · rintro ⟨k, cap, cur, rfl, e1, e2, e3⟩
    exact ⟨k, cap, cur, rfl, e1, (hb k e1 (h2 k rfl)).trans e2, e3⟩
  · obtain ⟨es, q1, q2⟩ := h3 j x hx
    refine ⟨es, q1, S.owns_keep q2 fun b o f => ?_⟩
    have h6 := h4 j b o f
    have h7 := hb b h6.1 h6.2.1
    exact ⟨World.cell?_of_block (a := ⟨b, o, none⟩) h7, World.frozen?_of_block (a := ⟨b, o, none⟩) h7⟩
theorem infoRow8 : (Try.prog.info? 38).map (fun i => (i.zero, i.size, i.bytes)) = some (some (.agg #[.slice none 0 0]), 1, 24) := by kernel_rfl
/-- waysToCut: the two numbers lie in cells of their own, which the iterator captures. -/
theorem waysToCut_in (n : Nat) (ops stages : Int) (w : World) :
    CallsIn Fence.wide n Try.prog 46 #[.int .i64 ops, .int .i64 stages] w fun e w' =>
      e = .returned (.func (.func 63) #[] #[.pointer (some ⟨w.heap.size, 0, none⟩), .pointer (some ⟨w.heap.size + 1, 0, none⟩)]) ∧
      w' = (w.alloc (.cells #[.int .i64 ops] 3 (0, 0))).alloc (.cells #[.int .i64 stages] 3 (0, 0)) := by
  refine callsIn_of_wp Try.func46 rfl trivial ?_ rfl
  simp only [Try.ntmps46, List.size_toArray, List.length_cons, List.length_nil, Nat.reduceAdd, Nat.reduceSub, Array.replicate_succ, Array.replicate_zero, List.push_toArray, List.append_toArray, List.nil_append, List.cons_append]
  gi_wp2
  go_ret
  exact ⟨by simp, rfl⟩
/-- What has come when so many have. -/
def rowsTo (ops stages : Int) (k : Nat) : List (List Int) := (List.range k).map (wayAt ops stages)
theorem rowsTo_length (ops stages : Int) (k : Nat) : (rowsTo ops stages k).length = k := by simp [rowsTo]
theorem rowsTo_succ (ops stages : Int) (k : Nat) : rowsTo ops stages (k + 1) = rowsTo ops stages k ++ [wayAt ops stages k] := by
  unfold rowsTo
  rw [List.range_succ, List.map_append]
  rfl
theorem rowsTo_all (ops stages : Int) : rowsTo ops stages (waysI ops stages).length = waysI ops stages := by
  refine List.ext_getElem (rowsTo_length _ _ _) fun j h1 h2 => ?_
  simp only [rowsTo, wayAt, List.getElem_map, List.getElem_range]
  rw [List.getD_eq_getElem?_getD, List.getElem?_eq_getElem h2]
  rfl
theorem waysI_few (ops stages : Int) : (waysI ops stages).length ≤ 35 ∧ ∀ l ∈ waysI ops stages, l.length ≤ 7 := by
  unfold waysI
  split
  · rename_i h
    have hw := ways_at (n := ops.toNat) (k := stages.toNat) (by omega) (by omega) (by omega)
    refine ⟨hw.few, fun l hl => ?_⟩
    obtain ⟨j, hj⟩ := List.getElem?_of_mem hl
    have := (hw.len j l hj).1
    omega
  · exact ⟨by simp, fun l hl => by cases hl⟩
/-- What lies between two rounds of AllCuts. -/
def AllInv (w : World) (lo : Nat) (ops stages : Int) (pre : List Value) (W : World) : Prop :=
  (∃ v hi, Boxed W w.heap.size 34 v ∧ ListL ownRow 38 lo hi W v (rowsTo ops stages pre.length)) ∧ Below w.heap.size w W ∧ Boxed W (w.heap.size + 1) 3 (.int .i64 ops) ∧ Boxed W (w.heap.size + 1 + 1) 3 (.int .i64 stages)
theorem allInv_own {w : World} {ops stages : Int} {S : Nat} (hS : w.heap.size + 3 ≤ S) : ∀ pre A B row, AllInv w (S + 3) ops stages pre A → A.grownBy B row → (∀ r, row = some r → S ≤ r ∧ r < S + 3) → AllInv w (S + 3) ops stages pre B := by
  rintro pre A B row ⟨⟨v, hi, h1, h2⟩, h3, h4, h5⟩ hg hr
  have hne : ∀ b, b < S → some b ≠ row := fun b hb e => by have := hr b e.symm; omega
  refine ⟨⟨v, hi, (hg.block _ h1.lt (hne _ (by omega))).trans h1, h2.same (fun k hk1 hk2 => hg.block k (Nat.lt_of_lt_of_le hk2 h2.top) fun e => by have := hr k e.symm; omega) (Nat.le_trans h2.top hg.size)⟩, ?_, (hg.block _ h4.lt (hne _ (by omega))).trans h4, (hg.block _ h5.lt (hne _ (by omega))).trans h5⟩
  exact ⟨hg.os.trans h3.os, hg.tape.trans h3.tape, hg.output.trans h3.output, Nat.le_trans h3.size hg.size, fun b hb => (hg.block b (Nat.lt_of_lt_of_le hb h3.size) (hne b (by omega))).trans (h3.block b hb)⟩
set_option maxRecDepth 100000 in
set_option maxHeartbeats 3000000 in
theorem implAllCuts_o (w : World) (ops stages : Int) :
    Calls Try.prog 17 #[.int .i64 ops, .int .i64 stages] w fun e w' => ∃ v, e = .returned v ∧ ListL ownRow 38 w.heap.size w'.heap.size w' v (waysI ops stages) ∧ Below w.heap.size w w' := by
  obtain ⟨j0, hj, hy0, hy1, hy2⟩ := info_parts infoRow8
  refine (callsIn_wide (n := 6)).1 ?_
  refine callsIn_of_wp_marks Try.func17 rfl trivial ?_ rfl
  simp only [Try.ntmps17, List.size_toArray, List.length_cons, List.length_nil, Nat.reduceAdd, Nat.reduceSub, Array.replicate_succ, Array.replicate_zero, List.push_toArray, List.append_toArray, List.nil_append, List.cons_append]
  have hA := (Below.refl w.heap.size w).alloc (Nat.le_refl _) (.cells #[.slice none 0 0] 34 (0, 0))
  have hb0 := Boxed.new w 34 (.slice none 0 0)
  have hs1 : (w.alloc (.cells #[.slice none 0 0] 34 (0, 0))).heap.size = w.heap.size + 1 := by simp
  gi_wp2
  generalize w.alloc (.cells #[.slice none 0 0] 34 (0, 0)) = wa at hA hb0 hs1 ⊢
  refine ⟨trivial, ?_⟩
  refine (waysToCut_in _ _ _ _).mono ?_
  rintro e w' ⟨rfl, rfl⟩
  have hB := ((Below.refl wa.heap.size wa).alloc (Nat.le_refl _) (.cells #[.int .i64 ops] 3 (0, 0))).alloc (by simp) (.cells #[.int .i64 stages] 3 (0, 0))
  have hb1 : Boxed ((wa.alloc (.cells #[.int .i64 ops] 3 (0, 0))).alloc (.cells #[.int .i64 stages] 3 (0, 0))) (w.heap.size + 1) 3 (.int .i64 ops) := by
    have := (Boxed.new wa 3 (.int .i64 ops)).alloc (.cells #[.int .i64 stages] 3 (0, 0))
    rw [hs1] at this
    exact this
  have hb2 : Boxed ((wa.alloc (.cells #[.int .i64 ops] 3 (0, 0))).alloc (.cells #[.int .i64 stages] 3 (0, 0))) (w.heap.size + 1 + 1) 3 (.int .i64 stages) := by
    have := Boxed.new (wa.alloc (.cells #[.int .i64 ops] 3 (0, 0))) 3 (.int .i64 stages)
    rw [World.size_alloc, hs1] at this
    exact this
  have hs3 : ((wa.alloc (.cells #[.int .i64 ops] 3 (0, 0))).alloc (.cells #[.int .i64 stages] 3 (0, 0))).heap.size = w.heap.size + 3 := by simp; omega
  have hb3 := (hb0.alloc (.cells #[.int .i64 ops] 3 (0, 0))).alloc (.cells #[.int .i64 stages] 3 (0, 0))
  have hA3 := hA.trans (hB.mono (by omega))
  clear hA hb0 hB
  gi_wp2
  generalize (wa.alloc (.cells #[.int .i64 ops] 3 (0, 0))).alloc (.cells #[.int .i64 stages] 3 (0, 0)) = W0 at hb1 hb2 hb3 hs3 hA3 ⊢
  have hI0 : AllInv w (W0.heap.size + 3) ops stages [] W0 := ⟨⟨_, W0.heap.size, hb3, ListL.nil _ _ (Nat.le_refl _)⟩, hA3, hb1, hb2⟩
  refine wpIn_rowsIter rfl (by omega) (gf := 63) (lb := #[.pointer (some ⟨w.heap.size + 1, 0, none⟩), .pointer (some ⟨w.heap.size + 1 + 1, 0, none⟩)]) rfl trivial (enters_of Try.func63 (by kernel_rfl) rfl)
    (Kp := KeepB w.heap.size (w.heap.size + 1) (w.heap.size + 1 + 1))
    (ways1_given _ (by omega) (w.heap.size + 1) (w.heap.size + 1 + 1) ops stages (KeepB w.heap.size (w.heap.size + 1) (w.heap.size + 1 + 1)) (fun X Y h => h.2) W0 _ _ hb1 hb2 _)
    keepB_t (keepB_b (by omega) (by omega) (by omega)) (Below.refl _ _) rfl
    (AllInv w (W0.heap.size + 3) ops stages) (allInv_own (by omega)) hI0 ?a1 ?assign ?body ?done
  case assign =>
    intro l x W K hK
    gi_wp2
    exact hK
  case body =>
    rintro l pre v U0 U1 ⟨⟨u, hi, h1, h2⟩, h3, h4, h5⟩ hsU hB hrow hlen
    obtain ⟨k, hk⟩ : ∃ k, pre.length = k := ⟨_, rfl⟩
    rw [hk] at h2 hrow hlen
    have hsB := hB.size
    have hli := (h2.below hB h2.top).wide (hi' := U0.heap.size) (Nat.le_refl _) h2.top hsB
    have hbx : Boxed U1 w.heap.size 34 u := (hB.block _ h1.lt).trans h1
    have hp1 : Boxed U1 (w.heap.size + 1) 3 (.int .i64 ops) := (hB.block _ h4.lt).trans h4
    have hp2 : Boxed U1 (w.heap.size + 1 + 1) 3 (.int .i64 stages) := (hB.block _ h5.lt).trans h5
    have hw1 : Below w.heap.size w U1 := h3.trans (hB.mono (by omega))
    obtain ⟨x, hx⟩ : ∃ x, wayAt ops stages k = x := ⟨_, rfl⟩
    rw [hx] at hrow
    obtain ⟨ar, cr, rfl, -⟩ := hrow.form
    obtain ⟨nr, hnr⟩ : ∃ nr, x.length = nr := ⟨_, rfl⟩
    rw [hnr] at hrow ⊢
    obtain ⟨au, cu, rfl, -, -⟩ := hli.form
    have hrl := rowsTo_length ops stages k
    have hnx : rowsTo ops stages (pre ++ [Value.slice ar nr cr]).length = rowsTo ops stages k ++ [x] := by
      rw [List.length_append, hk]
      show rowsTo ops stages (k + 1) = _
      rw [rowsTo_succ, hx]
    obtain ⟨xs, hxs⟩ : ∃ xs, rowsTo ops stages k = xs := ⟨_, rfl⟩
    rw [hxs] at hrl hli hbx hnx
    obtain ⟨us, G, g1, g2, g3, g4, g5⟩ := hli.all
    have hk35 := (waysI_few ops stages).1
    rw [hrl] at hbx
    have g1' : U1.ownsRow (W0.heap.size + 3) 38 1 (.slice au k cu) k us := by
      have g1k := g1
      rw [hrl] at g1k
      exact g1k
    have hP : Hid (∀ (w4 : World) (g cap : Nat), w4.ownsRow (W0.heap.size + 3) 38 1 (.slice (some ⟨g, 0, none⟩) (k + 1) cap) (k + 1) (us ++ [.slice ar nr cr]) → (U1.alloc (.cells #[.slice ar nr cr] 38 (0, 0))).grownBy w4 (Value.slice au k cu).ownBlock →
        ((Value.slice au k cu).ownBlock = some g ∨ g = (U1.alloc (.cells #[.slice ar nr cr] 38 (0, 0))).heap.size) →
        ListL ownRow 38 (W0.heap.size + 3) w4.heap.size w4 (.slice (some ⟨g, 0, none⟩) (k + 1) cap) (xs ++ [x]) ∧ Below (W0.heap.size + 3) U1 w4) := Lib.hid fun w4 g cap ho hgr hat => by
      have hown := hrow.ownRow
      exact ListL.put (S := ownRow) (T := 38) (lo := W0.heap.size + 3) (hi := U0.heap.size) (w := U1) (w' := w4) (v := .slice au xs.length cu) (v' := .slice (some ⟨g, 0, none⟩) (k + 1) cap) (xs := xs) (o := (.cells #[.slice ar nr cr] 38 (0, 0))) (x := x) (F := FromB U0.heap.size U1.heap.size)
        hsU g1 g2 hsB g3 g4 g5 hown (fun b o f => f) rfl (by rw [hrl]; exact ho) (by rw [hrl]; exact hgr) (by
          rcases hat with e | e
          · exact .inl (by rw [hrl]; exact e.symm)
          · exact .inr (congrArg some e))
    have hcells : Hid (∀ j o, (Value.slice au k cu).ownBlock = some j → U1.heap[j]? = some o → o.isCells = true) := Lib.hid fun j o e ho => by
      rcases g1'.2 with ⟨e1, -⟩ | ⟨g', cap', cur, e1, -, e3, -⟩
      · rw [e1] at e
        cases e
      · rw [e1] at e
        have e4 : g' = j := Option.some.inj e
        subst e4
        rw [e3] at ho
        cases ho
        rfl
    have HNX := Lib.hid hnx
    have HW1 := Lib.hid hw1
    have HP1 := Lib.hid hp1
    have HP2 := Lib.hid hp2
    have HBX := Lib.hid hbx
    have HG1 := Lib.hid g1'
    have HLO := Lib.hid (fun j (e : (Value.slice au k cu).ownBlock = some j) => World.ownsRow.lt g1' j e)
    have cx := hbx.cell
    have hlen' : k < 35 := by omega
    have hsU1 : W0.heap.size + 3 ≤ U1.heap.size := by omega
    have hsA : (U1.alloc (.cells #[.slice ar nr cr] 38 (0, 0))).heap.size = U1.heap.size + 1 := by simp
    have HSA := Lib.hid hsA
    have HXL := Lib.hid hrl
    clear h1 h2 h3 h4 h5 hB hrow hli hbx hp1 hp2 hw1 g1 g1' g2 g3 g4 g5 hnx hx hnr hxs hk hrl hsA hlen hk35
    gi_wp2_with (gi_at_builtin; refine wpListIn_append_at _ rfl _ _ 34 rfl (W0.heap.size + 3) 38 j0 (.agg #[.slice none 0 0]) 1 24 Try.underlying34 hj hy0 hy1 hy2 rfl (by decide) _ _ _ rfl (HG1.out.alloc _) ⟨U1.heap.size, 0, none⟩ 1 1 [.slice ar nr cr] rfl rfl (cell_one_new _ _ _) (slices_one _ _ _) (by decide) (by unfold maxLen; omega) (by omega) (by rw [HSA.out]; omega) _ rfl ?_; intro g4 cap4 w4 ho4 hg4 hat4 hlt4; obtain ⟨hl4, hb4⟩ := hP.out w4 g4 cap4 ho4 hg4 hat4; have hbx4 : Boxed w4 w.heap.size 34 (.slice au k cu) := (hb4.block _ (by omega)).trans HBX.out; have c4 := hbx4.cell; have f4 := hbx4.frozen; have HL4 := Lib.hid hl4; have HB4 := Lib.hid hb4; have HX4 := Lib.hid hbx4; have HGR4 := Lib.hid hg4; clear ho4 hg4 hat4 hl4 hb4 hbx4)
    have hs4 := HB4.out.size
    have hgr := HGR4.out
    have hne : ∀ b, b < W0.heap.size + 3 → b ≠ w.heap.size → (w4.setCell ⟨w.heap.size, 0, none⟩ (.slice (some ⟨g4, 0, none⟩) (k + 1) cap4)).heap[b]? = U1.heap[b]? := fun b hb h0 => (Below.heap_setCell _ _ _ _ h0).trans (HB4.out.block b hb)
    refine ⟨?_, hne _ (by omega) (by omega), ⟨?_, hne _ (by omega) (by omega), hne _ (by omega) (by omega)⟩, ⟨⟨_, w4.heap.size, HX4.out.set _, ?_⟩, ?_, (hne _ (by omega) (by omega)).trans HP1.out, (hne _ (by omega) (by omega)).trans HP2.out⟩⟩
    · refine (((KeepsOthers.alloc U1 _).trans (KeepsOthers.of_grownBy hgr fun j o ej hj => ?_)).trans (KeepsOthers.setCell _ _ _)).from _
      have hlt := (HLO.out j ej).2
      rw [Below.heap_alloc _ _ _ hlt] at hj
      exact hcells.out j o ej hj
    · exact (HB4.out.mono (show w.heap.size ≤ W0.heap.size + 3 by omega)).setCell (p := ⟨w.heap.size, 0, none⟩) (Nat.le_refl _) _
    · rw [HNX.out]
      have := HL4.out.stored w.heap.size 0 (.slice (some ⟨g4, 0, none⟩) (k + 1) cap4) (by omega)
      exact this
    · exact (HW1.out.trans (HB4.out.mono (show w.heap.size ≤ W0.heap.size + 3 by omega))).setCell (p := ⟨w.heap.size, 0, none⟩) (Nat.le_refl _) _
  case done =>
    rintro xs W hx ⟨⟨u, hi, h1, h2⟩, h3, h4, h5⟩ hK
    rw [hx, rowsTo_all] at h2
    have cx := h1.cell
    have HK := Lib.hid hK
    have H2 := Lib.hid h2
    have H3 := Lib.hid h3
    clear h1 h2 h3 h4 h5
    gi_wp2
    refine marks_ret1 rfl HK.out (results_tmp rfl _ _ _) ⟨u, rfl, ?_, below_put H3.out (by omega) HK.out _⟩
    have hsp : (W.putObj W0.heap.size (.deferred none)).heap.size = W.heap.size := by simp
    exact (H2.out.same (w' := W.putObj W0.heap.size (.deferred none)) (fun b hb1 hb2 => World.putObj_heap_other (by omega)) (by rw [hsp]; exact H2.out.top)).wide (by omega) (by rw [hsp]; exact H2.out.top) (Nat.le_refl _)
end Go.Proofs.Ytkmcfbopilieeaa
