import Derived.Test.YtpnifgpmleaohaaGreatDoorJoin22
import Derived.RangeFuncNested
import Derived.RangeFuncBound
import Derived.RangeFuncCalls
import Derived.RangeFuncLeaves
import Derived.RangeFuncBox
import Derived.RangeFuncWrites
/-! YtpnifgpmleaohaaGreatDoorZSeqV -/
section

namespace Go.Proofs.YtpnifgpmleaohaaGreatDoor
open Go.RowKit Go.Sort
set_option linter.unusedVariables false

theorem infoStep1 : (Tryz.prog.info? 186).map (fun i => (i.zero, i.size, i.bytes)) = some (some .nilFunc, 1, 8) := by kernel_rfl
/-- A step back, with its boxes. -/
def stepV (bo BI bi : Nat) : Value := .func (.func 158) #[] #[.pointer (some ⟨bo, 0, none⟩), .pointer (some ⟨BI, 0, none⟩), .pointer (some ⟨bi, 0, none⟩)]
def StepAt (B0 lo : Nat) (W : World) (BI : Nat) (x : dOp) (j : Nat) (u : Value) : Prop := ∃ (bo bi : Nat) (ae : Option Addr) (ne ce : Nat), u = stepV bo BI bi ∧ (lo ≤ bo ∧ bo < W.heap.size) ∧ (lo ≤ bi ∧ bi < W.heap.size) ∧
  W.heap[bo]? = some (.cells #[.int .i64 x.1, .int .i64 x.2.1, .int .i64 x.2.2.1, .slice ae ne ce] 38 (0, 0)) ∧ W.heap[bi]? = some (.cells #[.int .i64 j] 3 (0, 0)) ∧ IntsIn B0 W ae ne x.2.2.2 ∧ ne ≤ ce ∧ ce ≤ 9223372036854775807
theorem StepAt.grown {B0 lo BI j : Nat} {W W' : World} {x : dOp} {u : Value} {row : Option Nat} (h : StepAt B0 lo W BI x j u) (hb : Below B0 W W') (hg : W.grownBy W' row) (hr : ∀ r, row = some r → ∀ b, lo ≤ b → b < W.heap.size → (∃ cs t, W.heap[b]? = some (.cells cs t (0, 0)) ∧ (t = 38 ∨ t = 3)) → b ≠ r) : StepAt B0 lo W' BI x j u := by
  obtain ⟨bo, bi, ae, ne, ce, rfl, h1, h2, h3, h4, h5, h6, h7⟩ := h
  have hs := hg.size
  exact ⟨bo, bi, ae, ne, ce, rfl, ⟨h1.1, by omega⟩, ⟨h2.1, by omega⟩, (hg.block bo h1.2 (fun e => hr bo e.symm bo h1.1 h1.2 ⟨_, _, h3, .inl rfl⟩ rfl)).trans h3, (hg.block bi h2.2 (fun e => hr bi e.symm bi h2.1 h2.2 ⟨_, _, h4, .inr rfl⟩ rfl)).trans h4, h5.below hb (Nat.le_refl _), h6, h7⟩
theorem StepAt.below {B0 lo BI j B : Nat} {W W' : World} {x : dOp} {u : Value} (h : StepAt B0 lo W BI x j u) (hb : Below B W W') (hB : W.heap.size ≤ B) (hB0 : B0 ≤ B) : StepAt B0 lo W' BI x j u := by
  obtain ⟨bo, bi, ae, ne, ce, rfl, h1, h2, h3, h4, h5, h6, h7⟩ := h
  have hs := hb.size
  exact ⟨bo, bi, ae, ne, ce, rfl, ⟨h1.1, by omega⟩, ⟨h2.1, by omega⟩, (hb.block bo (by omega)).trans h3, (hb.block bi (by omega)).trans h4, h5.below hb hB0, h6, h7⟩
theorem owns_below {w w' : World} {base : Nat} {T : TypeId} {size n B : Nat} {v : Value} {us : List Value} (h : w.ownsRow base T size v n us) (hb : Below B w w') (hB : w.heap.size ≤ B) : w'.ownsRow base T size v n us :=
  ⟨h.1, h.2.imp id (by
    rintro ⟨g, cap, cur, rfl, e1, e2, e3⟩
    exact ⟨g, cap, cur, rfl, e1, (hb.block g (Nat.lt_of_lt_of_le (Array.getElem?_eq_some_iff.1 e2).1 hB)).trans e2, e3⟩)⟩
theorem owns_block {w : World} {base : Nat} {T : TypeId} {size n : Nat} {v : Value} {us : List Value} (h : w.ownsRow base T size v n us) (g : Nat) (hg : v.ownBlock = some g) : base ≤ g ∧ ∃ cur, w.heap[g]? = some (.cells cur T (0, 0)) := by
  rcases h.2 with ⟨e, -⟩ | ⟨g', cap, cur, e, e1, e2, -⟩
  · rw [e] at hg
    simp [Value.ownBlock] at hg
  · rw [e] at hg
    have : g' = g := by simpa [Value.ownBlock] using hg
    subst this
    exact ⟨e1, cur, e2⟩
set_option maxRecDepth 100000 in
set_option maxHeartbeats 6400000 in
theorem implStepsBack_any (w : World) (a : Option Addr) (n c : Nat) (m : List dOp) (h : ListAt shOp (Under w.heap.size) w a n m) (hb : (Shape.list shOp).bulk m ≤ 1048576) (ai : Option Addr) (ni ci : Nat) :
    Calls Tryz.prog 86 #[.slice a n c, .slice ai ni ci] w fun e w' => ∃ (v : Value) (us : List Value), e = .returned v ∧ w'.ownsRow (w.heap.size + 1) 186 1 v n us ∧ w'.heap[w.heap.size]? = some (.cells #[.slice ai ni ci] 27 (0, 0)) ∧
      (∀ j x, m[j]? = some x → ∃ u, us[j]? = some u ∧ StepAt w.heap.size (w.heap.size + 1) w' w.heap.size x j u) ∧ Below w.heap.size w w' := by
  obtain ⟨j0, hj, hy0, hy1, hy2⟩ := info_parts infoStep1
  have hlen := h.1
  rw [bulk_list _ h] at hb
  have hn1 : n ≤ 1048576 := by omega
  have hal := (Below.refl w.heap.size w).alloc (Nat.le_refl _) (.cells #[.slice ai ni ci] 27 (0, 0))
  have hA := heap_alloc_new w (.cells #[.slice ai ni ci] 27 (0, 0))
  have hs1 : (w.alloc (.cells #[.slice ai ni ci] 27 (0, 0))).heap.size = w.heap.size + 1 := by simp
  have HL := Lib.hid h
  have HB := Lib.hid hb
  have HAL := Lib.hid hal
  have HA := Lib.hid hA
  clear h hb hal hA
  go_enter Tryz.func86, Tryz.ntmps86
  go_wp2_with fail
  generalize w.alloc (.cells #[.slice ai ni ci] 27 (0, 0)) = wa at HAL HA hs1 ⊢
  go_loopw [5, 10] (fun v i wr => ∃ (k : Nat) (us : List Value), k ≤ n ∧ i = .int .i64 k ∧ wr.ownsRow (w.heap.size + 1) 186 1 v k us ∧ (∀ j x, j < k → m[j]? = some x → ∃ u, us[j]? = some u ∧ StepAt w.heap.size (w.heap.size + 1) wr w.heap.size x j u) ∧ wr.heap[w.heap.size]? = some (.cells #[.slice ai ni ci] 27 (0, 0)) ∧ Below w.heap.size w wr) (fun _ i _ => n - (intOf i).toNat)
  case atStart => exact ⟨0, [], Nat.zero_le _, rfl, World.ownsRow_nil _ _ _ _, fun j x hj => absurd hj (by omega), HA.out, HAL.out⟩
  case round =>
    obtain ⟨k, us, hk, rfl, hown, hst, hI, hbw⟩ := hrel
    have hsz := hbw.size
    have hlo : w.heap.size < wr.heap.size := (Array.getElem?_eq_some_iff.1 hI).1
    have HO := Lib.hid hown
    have HS := Lib.hid hst
    have HI := Lib.hid hI
    have HBW := Lib.hid hbw
    obtain ⟨av, cv, rfl⟩ := own_form hown
    by_cases hltk : k < n
    · obtain ⟨x, hx⟩ : ∃ x, m[k]? = some x := ⟨_, List.getElem?_eq_getElem (by rw [hlen]; exact hltk)⟩
      obtain ⟨b1, o1, es, rfl, hbB1, hr, hs⟩ := HL.out.2 k x hx
      have hrr := rangeAt_kept hr (show b1 < w.heap.size from hbB1) (Kept.of_below (I := Under w.heap.size) hbw fun b hb => hb)
      have hsw := shOp.below hs hbw (Nat.le_refl _)
      have hbx' : shOp.bulk x ≤ 1048576 := by have h1 := bulk_mem shOp.bulk m k x hx; have h2 := HB.out; omega
      rw [shOp_bulk, bulk_ints] at hbx'
      obtain ⟨ae, ne, ce, rfl, ge, le, me⟩ := shOp_reads.1 hsw
      have hme : IntsIn w.heap.size wr ae ne x.2.2.2 := me.ints (by rw [← me.1]; exact hbx')
      rw [shOp_size] at hrr
      have d0 := hrr 0 _ rfl
      have d1 := hrr 1 _ rfl
      have d2 := hrr 2 _ rfl
      have d3 := hrr 3 _ rfl
      simp only [Nat.add_zero] at d0
      have HME := Lib.hid hme
      have HX := Lib.hid hx
      clear hr hrr hs hsw me hx hbx' hme hbB1 hown hst hI hbw
      go_upto_region 5 with fail
      have hq1 := (Below.refl wr.heap.size wr).alloc (Nat.le_refl _) (.cells #[.int .i64 k] 3 (0, 0))
      have hq2 := hq1.alloc (by simp) (.cells #[.int .i64 x.1, .int .i64 x.2.1, .int .i64 x.2.2.1, .slice ae ne ce] 38 (0, 0))
      have hn1' : ((wr.alloc (.cells #[.int .i64 k] 3 (0, 0))).alloc (.cells #[.int .i64 x.1, .int .i64 x.2.1, .int .i64 x.2.2.1, .slice ae ne ce] 38 (0, 0))).heap[wr.heap.size]? = some (.cells #[.int .i64 k] 3 (0, 0)) := by
        rw [Below.heap_alloc _ _ _ (by simp)]
        exact heap_alloc_new wr _
      have hn2' : ((wr.alloc (.cells #[.int .i64 k] 3 (0, 0))).alloc (.cells #[.int .i64 x.1, .int .i64 x.2.1, .int .i64 x.2.2.1, .slice ae ne ce] 38 (0, 0))).heap[wr.heap.size + 1]? = some (.cells #[.int .i64 x.1, .int .i64 x.2.1, .int .i64 x.2.2.1, .slice ae ne ce] 38 (0, 0)) := by
        have := heap_alloc_new (wr.alloc (.cells #[.int .i64 k] 3 (0, 0))) (.cells #[.int .i64 x.1, .int .i64 x.2.1, .int .i64 x.2.2.1, .slice ae ne ce] 38 (0, 0))
        simpa using this
      have hqs : ((wr.alloc (.cells #[.int .i64 k] 3 (0, 0))).alloc (.cells #[.int .i64 x.1, .int .i64 x.2.1, .int .i64 x.2.2.1, .slice ae ne ce] 38 (0, 0))).heap.size = wr.heap.size + 2 := by simp
      generalize (wr.alloc (.cells #[.int .i64 k] 3 (0, 0))).alloc (.cells #[.int .i64 x.1, .int .i64 x.2.1, .int .i64 x.2.2.1, .slice ae ne ce] 38 (0, 0)) = w4 at hq2 hn1' hn2' hqs ⊢
      have hown4 : w4.ownsRow (w.heap.size + 1) 186 1 (.slice av k cv) k us := owns_below HO.out hq2 (Nat.le_refl _)
      have hU : StepAt w.heap.size (w.heap.size + 1) w4 w.heap.size x k (stepV (wr.heap.size + 1) w.heap.size wr.heap.size) := ⟨_, _, ae, ne, ce, rfl, ⟨by omega, by omega⟩, ⟨by omega, by omega⟩, hn2', hn1', HME.out.below hq2 (by omega), ge, le⟩
      obtain ⟨U, hUU⟩ : ∃ U, U = stepV (wr.heap.size + 1) w.heap.size wr.heap.size := ⟨_, rfl⟩
      have hU1 : U.oneCell' = true := by rw [hUU]; rfl
      rw [← hUU] at hU
      have hI4 := (hq2.block w.heap.size (by omega)).trans HI.out
      have hb4 := HBW.out.trans (hq2.mono (by omega))
      have hP : Hid (∀ (w5 : World) (g' cap : Nat), (w4.alloc (.cells #[U] 186 (0, 0))).grownBy w5 (Value.slice av k cv).ownBlock → (∀ j y, j < k + 1 → m[j]? = some y → ∃ u, (us ++ [U])[j]? = some u ∧ StepAt w.heap.size (w.heap.size + 1) w5 w.heap.size y j u) ∧ w5.heap[w.heap.size]? = some (.cells #[.slice ai ni ci] 27 (0, 0)) ∧ Below w.heap.size w w5) := Lib.hid fun w5 g' cap hgr => by
        have ha := (Below.refl w4.heap.size w4).alloc (Nat.le_refl _) (.cells #[U] 186 (0, 0))
        have hown4' := owns_below hown4 ha (Nat.le_refl _)
        have hb5 : Below (w.heap.size + 1) w4 w5 := (ha.mono (by omega)).grown hgr (by have := ha.size; omega) (fun r hr => (owns_block hown4' r hr).1)
        have hb5' : Below w.heap.size (w4.alloc (.cells #[U] 186 (0, 0))) w5 := (Below.refl _ _).grown hgr (by have := ha.size; omega) (fun r hr => by have := (owns_block hown4' r hr).1; omega)
        have hne : ∀ r, (Value.slice av k cv).ownBlock = some r → ∀ b, w.heap.size + 1 ≤ b → b < (w4.alloc (.cells #[U] 186 (0, 0))).heap.size → (∃ cs t, (w4.alloc (.cells #[U] 186 (0, 0))).heap[b]? = some (.cells cs t (0, 0)) ∧ (t = 38 ∨ t = 3)) → b ≠ r := fun r hr b _ _ hbt e => by
          obtain ⟨cs, t, e1, e2⟩ := hbt
          obtain ⟨-, cur, e3⟩ := owns_block hown4' r hr
          rw [e, e3] at e1
          cases e1
          rcases e2 with e2 | e2 <;> exact absurd e2 (by decide)
        refine ⟨fun j y hj hy => ?_, (hb5.block w.heap.size (by omega)).trans hI4, hb4.trans (hb5.mono (by omega))⟩
        by_cases hjk : j < k
        · obtain ⟨u, hu1, hu2⟩ := HS.out j y hjk hy
          refine ⟨u, by rw [List.getElem?_append_left (List.getElem?_eq_some_iff.1 hu1).1]; exact hu1, ?_⟩
          exact ((hu2.below hq2 (Nat.le_refl _) (by omega)).below ha (Nat.le_refl _) (by omega)).grown hb5' hgr hne
        · obtain rfl : j = k := by omega
          have hy' := HX.out
          rw [hy'] at hy
          cases hy
          have hus : us.length = j := by have := hown4.1; simpa using this
          refine ⟨U, by rw [List.getElem?_append_right (by omega), hus, Nat.sub_self]; rfl, ?_⟩
          exact (hU.below ha (Nat.le_refl _) (by omega)).grown hb5' hgr hne
      have HRD : Hid ((w4.alloc (.cells #[U] 186 (0, 0))).ownsRow (w.heap.size + 1) 186 1 (.slice av k cv) k us) := Lib.hid (World.ownsRow.alloc hown4 _)
      have HND : Hid (∀ j u, ([U] : List Value)[j]? = some u → (w4.alloc (.cells #[U] 186 (0, 0))).cell? ((⟨w4.heap.size, 0, none⟩ : Addr).add j) = some u) := Lib.hid (World.news_of_block (heap_alloc_new w4 (.cells #[U] 186 (0, 0))))
      have HBS : Hid (w.heap.size + 1 ≤ (w4.alloc (.cells #[U] 186 (0, 0))).heap.size) := Lib.hid (by simp; omega)
      have HU1 : Hid (∀ u ∈ [U], u.oneCell' = true) := Lib.hid (fun u hu => by rw [List.mem_singleton.1 hu]; exact hU1)
      subst hUU
      unfold stepV at HRD HND HBS HU1 hP
      clear hown4 hU hI4 hb4 hq1 hq2 hn1' hn2' d0 d1 d2 d3 hU1
      have hge4 : wr.heap.size ≤ w4.heap.size := by omega
      clear hqs
      go_wp2_with (at_builtin; refine wpList_append_lies _ rfl _ _ 125 rfl (w.heap.size + 1) 186 j0 .nilFunc 1 8 Tryz.underlying125 hj hy0 hy1 hy2 rfl (by decide) _ _ _ rfl HRD.out ⟨w4.heap.size, 0, none⟩ 1 1 [.func (.func 158) #[] #[.pointer (some ⟨wr.heap.size + 1, 0, none⟩), .pointer (some ⟨w.heap.size, 0, none⟩), .pointer (some ⟨wr.heap.size, 0, none⟩)]] rfl rfl HND.out HU1.out (by omega) (by unfold maxLen; omega) (by omega) HBS.out _ rfl ?_; intro g' cap w5 hown5 hgrow5 hat5 _; have HP5 := Lib.hid (hP.out w5 g' cap hgrow5); have HO5 := Lib.hid hown5; clear hown5 hgrow5 hat5)
      go_roundw
      case rel => exact ⟨k + 1, us ++ [.func (.func 158) #[] #[.pointer (some ⟨wr.heap.size + 1, 0, none⟩), .pointer (some ⟨w.heap.size, 0, none⟩), .pointer (some ⟨wr.heap.size, 0, none⟩)]], by omega, by go_num, HO5.out, fun j y hj hy => HP5.out.1 j y hj hy, HP5.out.2.1, HP5.out.2.2⟩
      case measure => simp [intOf]; omega
    · obtain rfl : k = n := by omega
      clear hown hst hI hbw
      go_wp2_with fail
      go_ret
      exact ⟨_, _, rfl, HO.out, HI.out, fun j x hx => HS.out j x (by rw [← hlen]; exact (List.getElem?_eq_some_iff.1 hx).1) hx, HBW.out⟩
end Go.Proofs.YtpnifgpmleaohaaGreatDoor

end

/-! YtpnifgpmleaohaaGreatDoorZSeqR -/
section

namespace Go.Proofs.YtpnifgpmleaohaaGreatDoor
open Go.RowKit Go.Shelf
set_option linter.unusedVariables false

/-- The rows of gradients: a list in block g; what they lead to lies from L on, below H. -/
def GradsAt (g L H n : Nat) (W : World) (xs : List dRow) : Prop :=
  ∃ (us : List Value) (G : Nat → Foot), xs.length = n ∧ W.ownsRow g 56 1 (.slice (some ⟨g, 0, none⟩) n n) n us ∧
    (∀ j x, xs[j]? = some x → ∃ u, us[j]? = some u ∧ ownRow.owns (G j) W [u] x) ∧ (∀ j b o, G j b o → (L ≤ b ∧ b < H) ∧ (W.cell? ⟨b, o, none⟩).isSome = true) ∧ ∀ j j', j ≠ j' → Apart (G j) (G j')
theorem row_cells {F : Foot} {W : World} {u : Value} {x : dRow} (h : ownRow.owns F W [u] x) : ownRow.owns (fun b o => F b o ∧ (W.cell? ⟨b, o, none⟩).isSome = true) W [u] x := by
  obtain ⟨a, n, c, e, h1, h2, h3⟩ := ownRow_owns.1 h
  refine ownRow_owns.2 ⟨a, n, c, e, h1, h2, h3.1, ?_⟩
  rcases h3.2 with rfl | ⟨b, o, G, rfl, hF, hth, hx, hG, hA⟩
  · exact .inl rfl
  · refine .inr ⟨b, o, fun _ _ _ => False, rfl, fun i hi => ⟨hF i hi, (hth i hi).1⟩, hth, fun j y hy => ?_, fun j b' o' f => f.elim, fun j j' _ b o f => f.elim⟩
    obtain ⟨es, r, s⟩ := hx j y hy
    exact ⟨es, r, s⟩
theorem GradsAt.keep {g L H n : Nat} {W W' : World} {xs : List dRow} (h : GradsAt g L H n W xs) (hkg : W'.heap[g]? = W.heap[g]?) (hk : ∀ b o, L ≤ b → b < H → (W.cell? ⟨b, o, none⟩).isSome = true → W'.heap[b]? = W.heap[b]?) : GradsAt g L H n W' xs := by
  obtain ⟨us, G, h0, h1, h2, h3, h4⟩ := h
  refine ⟨us, G, h0, ⟨h1.1, h1.2.imp id ?_⟩, fun j x hx => ?_, fun j b o f => ?_, h4⟩
  · rintro ⟨g', cap, cur, e, e1, e2, e3⟩
    have e' := e
    simp only [Value.slice.injEq, Option.some.injEq, Addr.mk.injEq, and_true, true_and] at e'
    obtain ⟨rfl, -⟩ := e'
    exact ⟨_, cap, cur, e, e1, hkg.trans e2, e3⟩
  · obtain ⟨u, q1, q2⟩ := h2 j x hx
    refine ⟨u, q1, ownRow.owns_keep q2 fun b o f => ?_⟩
    have q := h3 j b o f
    have e := hk b o q.1.1 q.1.2 q.2
    exact ⟨World.cell?_of_block (a := ⟨b, o, none⟩) e, World.frozen?_of_block (a := ⟨b, o, none⟩) e⟩
  · have q := h3 j b o f
    refine ⟨q.1, ?_⟩
    rw [World.cell?_of_block (a := ⟨b, o, none⟩) (hk b o q.1.1 q.1.2 q.2)]
    exact q.2
theorem GradsAt.below {g L H n B : Nat} {W W' : World} {xs : List dRow} (h : GradsAt g L H n W xs) (hb : Below B W W') (hg : g < B) (hB : H ≤ B) : GradsAt g L H n W' xs :=
  h.keep (hb.block g hg) fun b o _ h2 _ => hb.block b (Nat.lt_of_lt_of_le h2 hB)
theorem GradsAt.other {g L H n b i : Nat} {W : World} {xs : List dRow} (h : GradsAt g L H n W xs) (v : Value) (hg : b ≠ g) (hb : b < L) : GradsAt g L H n (W.setCell ⟨b, i, none⟩ v) xs :=
  h.keep (heap_setCell_other _ _ _ _ (by show g ≠ b; omega)) fun b' o h1 _ _ => heap_setCell_other _ _ _ _ (by show b' ≠ b; omega)
theorem cell_none {W : World} {r i : Nat} {o : Obj} (h : W.heap[r]? = some o) (hc : o.isCells = false) : W.cell? ⟨r, i, none⟩ = none := by
  cases o with
  | cells => simp [Obj.isCells] at hc
  | _ => simp [World.cell?, h]
theorem GradsAt.turned {g L H n : Nat} {W W' : World} {row : Option Nat} {xs : List dRow} (h : GradsAt g L H n W xs) (hg : W.grownBy W' row) (hH : H ≤ W.heap.size) (hr : ∀ r, row = some r → ∃ o : Obj, W.heap[r]? = some o ∧ o.isCells = false) : GradsAt g L H n W' xs := by
  have h1 : ∃ cur, W.heap[g]? = some (.cells cur 56 (0, 0)) := by
    obtain ⟨us, G, -, q, -⟩ := h
    exact (owns_block q g rfl).2
  obtain ⟨cur, hcur⟩ := h1
  refine h.keep (hg.block g (Array.getElem?_eq_some_iff.1 hcur).1 fun e => ?_) fun b o q1 q2 q3 => hg.block b (by omega) fun e => ?_
  · obtain ⟨o, h2, h3⟩ := hr g e.symm
    rw [hcur] at h2
    cases h2
    simp [Obj.isCells] at h3
  · obtain ⟨ob, h2, h3⟩ := hr b e.symm
    rw [cell_none h2 h3] at q3
    simp at q3
theorem GradsAt.made (w : World) (n L H : Nat) (h : n ≤ 9223372036854775807) : GradsAt w.heap.size L H n (w.alloc (.cells (madeCells #[.slice none 0 0] n) 56 (0, 0))) (listK (fun _ => ([] : List Int)) n) := by
  have h3 := World.ownsRow_lit (base := w.heap.size) (e := 56) (size := 1) w (madeCells #[.slice none 0 0] n) n (Nat.le_refl _) (by unfold maxLen; omega) (by rw [size_madeCells, Nat.mul_one])
  rw [toList_madeCells_one] at h3
  refine ⟨List.replicate n (.slice none 0 0), fun _ _ _ => False, listK_length _ _, h3, fun j y hy => ?_, fun j b o f => f.elim, fun j j' _ b o f => f.elim⟩
  have hj : j < n := by
    have := (List.getElem?_eq_some_iff.1 hy).1
    rwa [listK_length] at this
  rw [listK_get _ _ _ hj] at hy
  cases hy
  exact ⟨.slice none 0 0, by rw [List.getElem?_replicate, if_pos hj], ownRow_owns.2 ⟨none, 0, 0, rfl, Nat.le_refl _, by omega, rfl, .inl rfl⟩⟩
theorem GradsAt.set {g L H H' n j : Nat} {W : World} {xs : List dRow} {F : Foot} {u : Value} {x : dRow} (h : GradsAt g L H n W xs) (hj : j < n) (hs : ownRow.owns F W [u] x) (hF : ∀ b o, F b o → H ≤ b ∧ b < H') (hL : L ≤ H) (hH : H ≤ H') (hg : g < L) :
    GradsAt g L H' n (W.setCell ⟨g, j, none⟩ u) (xs.set j x) := by
  have hs' := row_cells hs
  obtain ⟨us, G, h0, h1, h2, h3, h4⟩ := h
  have hother : ∀ b, b ≠ g → (W.setCell ⟨g, j, none⟩ u).heap[b]? = W.heap[b]? := fun b hb => heap_setCell_other _ _ _ _ hb
  have hkeep : ∀ (K : Foot) y v, ownRow.owns K W [v] y → (∀ b o, K b o → b ≠ g) → ownRow.owns K (W.setCell ⟨g, j, none⟩ u) [v] y := fun K y v hK hne => ownRow.owns_keep hK fun b o f =>
    ⟨World.cell?_of_block (a := ⟨b, o, none⟩) (hother b (hne b o f)), World.frozen?_of_block (a := ⟨b, o, none⟩) (hother b (hne b o f))⟩
  have hus : us.length = n := by have := h1.1; simpa using this
  refine ⟨us.set j u, fun i => if i = j then (fun b o => F b o ∧ (W.cell? ⟨b, o, none⟩).isSome = true) else G i, by rw [List.length_set]; exact h0, (World.ownsRow.stored h1 j u).1, fun i y hy => ?_, fun i b o f => ?_, fun i i' hne b o f f' => ?_⟩
  · by_cases e : i = j
    · subst e
      rw [List.getElem?_set_self (by omega)] at hy
      cases hy
      simp only [if_true]
      exact ⟨u, List.getElem?_set_self (by omega), hkeep _ _ _ hs' fun b o f => by have := hF b o f.1; omega⟩
    · rw [List.getElem?_set_ne (fun e' => e e'.symm)] at hy
      simp only [if_neg e]
      obtain ⟨v, q1, q2⟩ := h2 i y hy
      exact ⟨v, by rw [List.getElem?_set_ne (fun e' => e e'.symm)]; exact q1, hkeep _ _ _ q2 fun b o f => by have := (h3 i b o f).1.1; omega⟩
  · by_cases e : i = j
    · simp only [if_pos e] at f
      have q := hF b o f.1
      refine ⟨⟨by omega, q.2⟩, ?_⟩
      rw [World.cell?_of_block (a := ⟨b, o, none⟩) (hother b (by omega))]
      exact f.2
    · simp only [if_neg e] at f
      have q := h3 i b o f
      refine ⟨⟨q.1.1, by have := q.1.2; omega⟩, ?_⟩
      rw [World.cell?_of_block (a := ⟨b, o, none⟩) (hother b (by have := q.1.1; omega))]
      exact q.2
  · by_cases e : i = j <;> by_cases e' : i' = j
    · omega
    · simp only [if_pos e] at f; simp only [if_neg e'] at f'
      have q1 := (hF b o f.1).1; have q2 := (h3 i' b o f').1.2; omega
    · simp only [if_neg e] at f; simp only [if_pos e'] at f'
      have q1 := (hF b o f'.1).1; have q2 := (h3 i b o f).1.2; omega
    · simp only [if_neg e] at f; simp only [if_neg e'] at f'
      exact h4 i i' hne b o f f'
theorem GradsAt.place {g L H n j : Nat} {W : World} {xs : List dRow} (h : GradsAt g L H n W xs) (hj : j < n) : ∃ u, W.cell? ⟨g, j, none⟩ = some u ∧ W.frozen? ⟨g, j, none⟩ = false := by
  obtain ⟨us, G, h0, h1, -⟩ := h
  have hus : us.length = n := by have := h1.1; simpa using this
  exact ⟨_, (World.ownsRow.cellAt h1 j (by omega)).trans (List.getElem?_eq_getElem (by omega)), World.ownsRow.frozenAt h1 j⟩
theorem GradsAt.list {g L H n : Nat} {W : World} {xs : List dRow} (h : GradsAt g L H n W xs) (hg : g < L) (hH : H ≤ W.heap.size) : ListL ownRow 56 g W.heap.size W (.slice (some ⟨g, 0, none⟩) n n) xs := by
  obtain ⟨us, G, rfl, h1, h2, h3, h4⟩ := h
  refine ⟨Nat.le_refl _, us, G, h1, fun k hk => (World.ownsRow.lt h1 k hk).2, fun j x hx => ?_, fun j b o f => ?_, h4⟩
  · obtain ⟨u, q1, q2⟩ := h2 j x hx
    refine ⟨[u], fun i v hv => ?_, q2⟩
    cases i with
    | zero =>
      simp at hv
      subst hv
      simpa [ownRow_size] using q1
    | succ i => simp at hv
  · have q := (h3 j b o f).1
    refine ⟨by omega, by omega, fun e => ?_⟩
    have e' : g = b := by simpa [Value.ownBlock] using e
    omega
end Go.Proofs.YtpnifgpmleaohaaGreatDoor

end
