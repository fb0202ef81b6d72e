import Derived.Test.YtpnifgpmleaohaaGreatDoorJoin11
import Derived.Test.YtpnifgpmleaohaaGreatDoorJoin39
import Derived.Test.YtpnifgpmleaohaaGreatDoorJoin9
import Derived.Test.YtpnifgpmleaohaaGreatDoorJoin15
import Derived.Test.YtpnifgpmleaohaaGreatDoorJoin45
/-! YtpnifgpmleaohaaGreatDoorZBoxed -/
section

namespace Go.Proofs.YtpnifgpmleaohaaGreatDoor
open Go.RowKit
set_option linter.unusedVariables false
set_option linter.unusedSimpArgs false

/-- A box that was laid behind W. -/
def BoxIn (W w : World) (g : Nat) (o : Obj) : Prop := w.heap[g]? = some o ∧ W.heap.size ≤ g ∧ g < w.heap.size
theorem BoxIn.call {W w w' : World} {g : Nat} {o : Obj} (h : BoxIn W w g o) (hb : Below w.heap.size w w') : BoxIn W w' g o :=
  ⟨(hb.block g h.2.2).trans h.1, h.2.1, Nat.lt_of_lt_of_le h.2.2 hb.size⟩
theorem BoxIn.new {W w : World} (h : Below W.heap.size W w) (o : Obj) : BoxIn W (w.alloc o) w.heap.size o :=
  ⟨heap_alloc_new w o, h.size, by simp⟩
theorem BoxIn.drew {W w : World} {g : Nat} {o : Obj} (h : BoxIn W w g o) : BoxIn W w.drew g o := h
/-- What came out lies in its box, and reads. -/
def BoxedR {α : Type} (S : Shape α) (T : TypeId) (W wx : World) (t : Value) (v : α) : Prop :=
  ∃ g es, t = .pointer (some ⟨g, 0, none⟩) ∧ wx.heap[g]? = some (.cells es.toArray T (0, 0)) ∧ S.reads (Under wx.heap.size) wx es v ∧ W.heap.size ≤ g ∧ g < wx.heap.size ∧ Below W.heap.size W wx
theorem BoxedR.last {α : Type} {S : Shape α} {T : TypeId} {W w : World} {lo : Nat} {es : List Value} {v : α} (hB : Below W.heap.size W w) (hr : S.reads (From lo w.heap.size) w es v) :
    BoxedR S T W (w.alloc (.cells es.toArray T (0, 0))) (.pointer (some ⟨w.heap.size, 0, none⟩)) v := by
  have ha := (Below.refl w.heap.size w).alloc (Nat.le_refl _) (.cells es.toArray T (0, 0))
  exact ⟨_, es, rfl, heap_alloc_new w _, S.le (S.below (S.under hr) ha (Nat.le_refl _)) ha.size, hB.size, by simp, hB.trans (ha.mono hB.size)⟩
theorem BoxedR.early {α : Type} {S : Shape α} {T : TypeId} {W w : World} {lo g : Nat} {Z : Array Value} {es : List Value} {v : α} (hB : Below W.heap.size W w) (hr : S.reads (From lo w.heap.size) w es v)
    (hx : BoxIn W w g (.cells Z T (0, 0))) (hg : g < lo) (hz : Z.size = es.length) : BoxedR S T W (w.setCells g 0 es) (.pointer (some ⟨g, 0, none⟩)) v := by
  have hs := size_setCells g es 0 w
  have hT : Touched (fun b _ => b = g) w (w.setCells g 0 es) := touched_setCells _ _ _ _ fun _ _ => rfl
  refine ⟨g, es, rfl, ?_, ?_, hx.2.1, by rw [hs]; exact hx.2.2, below_setCells g hx.2.1 _ _ _ hB⟩
  · have := heap_setCells_all g T es [] Z.toList w (by simpa using hz) (by simpa using hx.1)
    simpa using this
  · rw [hs]
    exact S.under (S.keep hr fun b hb => hT.block b fun _ e => by
      have e' : b = g := e
      have := hb.1
      omega)
theorem BoxedR.early3 {α : Type} {S : Shape α} {T : TypeId} {W w : World} {lo g : Nat} {v0 v1 v2 z0 z1 z2 : Value} {v : α} (hB : Below W.heap.size W w) (hr : S.reads (From lo w.heap.size) w [v0, v1, v2] v)
    (hx : BoxIn W w g (.cells #[z0, z1, z2] T (0, 0))) (hg : g < lo) : BoxedR S T W (((w.setCell ⟨g, 0, none⟩ v0).setCell ⟨g, 1, none⟩ v1).setCell ⟨g, 2, none⟩ v2) (.pointer (some ⟨g, 0, none⟩)) v := by
  have h := BoxedR.early hB hr hx hg rfl
  simp only [World.setCells, Nat.zero_add, Nat.reduceAdd] at h
  exact h
end Go.Proofs.YtpnifgpmleaohaaGreatDoor

end

/-! YtpnifgpmleaohaaGreatDoorZInARow -/
section

namespace Go.Proofs.YtpnifgpmleaohaaGreatDoor
open Go.RowKit Go.Sort
set_option linter.unusedVariables false

theorem smallB_all {b : List dPair} (h : SmallB b) (hl : b.length ≤ 6) : (Shape.list shPair).bulk b ≤ 1048576 := by
  have hs : ∀ (l : List dPair), (∀ x, x ∈ l → shPair.bulk x ≤ 16) → Shape.sum shPair.bulk l ≤ 16 * l.length := fun l => by
    induction l with
    | nil => intro _; simp [Shape.sum]
    | cons x xs ih =>
      intro hx
      have h1 := hx x (by simp)
      have h2 := ih fun y hy => hx y (by simp [hy])
      simp only [Shape.sum, List.length_cons]
      omega
  have hb : (Shape.list shPair).bulk b = b.length + Shape.sum shPair.bulk b := rfl
  rw [hb]
  have := hs b fun x hx => by
    obtain ⟨j, hj⟩ := List.getElem?_of_mem hx
    have h1 := h j x hj
    rw [shPair_bulk, bulk_ints, bulk_ints]
    omega
  omega
theorem seqG_no {m : List dOp} {b : List dPair} (h : batchOkB m b = false) : seqG m b = dNone := by unfold seqG; rw [h]; rfl
theorem seqG_yes {m : List dOp} {b : List dPair} (h : batchOkB m b = true) : seqG m b = seqK m b b.length := by unfold seqG; rw [if_pos h]
theorem seqG_small (m : List dOp) (b : List dPair) : shGrads.bulk (seqG m b) ≤ 1048576 := by
  cases h : batchOkB m b with
  | false =>
    rw [seqG_no h, shGrads_bulk]
    decide
  | true =>
    rw [seqG_yes h]
    exact seqK_bulk m b _
theorem grads_len {I : Nat → Prop} {w : World} {a : Option Addr} {n c : Nat} {L : Int} {s : Bool} {d : dGrads} (h : shGrads.reads I w [.slice a n c, .int .i64 L, .bool s] d) : d.1.length = n ∧ d.2.1 = L ∧ d.2.2 = s ∧ ListAt shRow I w a n d.1 := by
  obtain ⟨a', n', c', e, -, -, hl⟩ := shGrads_reads.1 h
  simp only [List.cons.injEq, Value.slice.injEq, Value.int.injEq, Value.bool.injEq, and_true, true_and] at e
  obtain ⟨⟨rfl, rfl, rfl⟩, h1, h2⟩ := e
  exact ⟨hl.1, h1.symm, h2.symm, hl⟩

theorem model_len {I : Nat → Prop} {w : World} {a : Option Addr} {n c : Nat} {m : dModel} (h : shModel.reads I w [.slice a n c] m) : m.length = n := by
  obtain ⟨a', n', c', e, -, -, hl⟩ := shModel_reads.1 h
  cases e
  exact hl.1
theorem shModel_lists {I : Nat → Prop} {w : World} {a : Option Addr} {n c : Nat} {m : dModel} (h : shModel.reads I w [.slice a n c] m) : n ≤ c ∧ c ≤ 9223372036854775807 ∧ m.length = n ∧ ListAt shOp I w a n m := by
  obtain ⟨a', n', c', e, h1, h2, hl⟩ := shModel_reads.1 h
  cases e
  exact ⟨h1, h2, hl.1, hl⟩
set_option maxRecDepth 100000 in
set_option maxHeartbeats 6400000 in
theorem lawInARow_small (w : World) (p : Option Addr) (cap : Nat) (bs : List UInt8) (hc : CodeIn w.heap.size w p bs) (hE : LaidE w) :
    Calls Tryz.prog 5 #[.slice p bs.length cap] w fun e w' => e = .returned (.bool true) ∧ Below w.heap.size w w' := by
  have HC := Lib.hid hc
  have HE := Lib.hid hE
  have hlt := hE.lt
  clear hc hE
  go_enter Tryz.func5, Tryz.ntmps5
  go_wp2_with fail
  refine (big_no p cap bs HC.out.room _).mono ?_
  rintro e w' ⟨rfl, rfl⟩
  go_wp2_with fail
  refine (drawSequential_e _ p cap bs HC.out).mono ?_
  rintro e w1 ⟨a, n, c, m, ab, k, cb, b, rfl, ⟨hbm, hsb, hbl, k6, hk1, hk2⟩, hrm, hrb, hb⟩
  have hs1 := hb.size
  have hal : Below w1.heap.size w1 (w1.alloc (.cells #[.slice a n c] 50 (0, 0))) := (Below.refl _ _).alloc (Nat.le_refl _) _
  have hk := heap_alloc_new w1 (.cells #[.slice a n c] 50 (0, 0))
  have hs2 : (w1.alloc (.cells #[.slice a n c] 50 (0, 0))).heap.size = w1.heap.size + 1 := by simp
  have hbb := smallB_all hsb (by omega)
  -- what is told of the model and the batch in every later world
  have HM := Lib.hid fun (wx : World) (h : Below w1.heap.size w1 wx) => shModel.le (shModel.below hrm h (Nat.le_refl _)) h.size
  have HB := Lib.hid fun (wx : World) (h : Below w1.heap.size w1 wx) => (hrb.below h (Nat.le_refl _)).le h.size
  have HG := Lib.hid fun (wx : World) (h : Below w1.heap.size w1 wx) => HE.out.below hlt (hb.trans (h.mono hs1))
  have T1 := Lib.hid hb
  have HSB := Lib.hid hsb
  have HBL := Lib.hid hbl
  have HBM := Lib.hid hbm
  have HBB := Lib.hid hbb
  have A2 := Lib.hid hal
  have K2 := Lib.hid hk
  clear hrm hrb hb hsb hbl hbm hbb hal hk HC
  go_wp2_with fail
  generalize hw2 : w1.alloc (.cells #[.slice a n c] 50 (0, 0)) = w2 at A2 K2 hs2 ⊢
  clear hw2
  have hz2 := box1 K2.out
  have hC := implSequential_o w2 [.slice a n c] m (HM.out w2 A2.out) HBM.out ab k cb b (HB.out w2 A2.out) hk1 hk2 HBB.out (HG.out w2 A2.out)
  have HC := Lib.hid hC
  clear hC
  obtain ⟨G, hG⟩ : ∃ G, seqG m b = G := ⟨_, rfl⟩
  have hGs : shGrads.bulk G ≤ 1048576 := by rw [← hG]; exact seqG_small m b
  rw [hG] at HC
  have HGG := Lib.hid hG
  clear hG
  try go_wp2_with fail
  refine HC.out.mono ?_
  rintro e w3 ⟨eg, rfl, hr, hb⟩
  have hs3 := hb.size
  obtain ⟨ag, ng, cg, rfl, -⟩ := ownGrads_owns.1 hr
  have hal : Below w3.heap.size w3 (w3.alloc (.cells #[.slice ag ng cg, .int .i64 G.2.1, .bool G.2.2] 30 (0, 0))) := (Below.refl _ _).alloc (Nat.le_refl _) _
  have hk := heap_alloc_new w3 (.cells #[.slice ag ng cg, .int .i64 G.2.1, .bool G.2.2] 30 (0, 0))
  have hs4 : (w3.alloc (.cells #[.slice ag ng cg, .int .i64 G.2.1, .bool G.2.2] 30 (0, 0))).heap.size = w3.heap.size + 1 := by simp
  have hrd := ownGrads.owns_reads (I := Under w3.heap.size) hr fun b o f => f.2
  have B3 := Lib.hid (hb.mono (show w1.heap.size ≤ w2.heap.size by omega))
  have KM3 := Lib.hid ((hb.block w1.heap.size (by omega)).trans K2.out)
  have A4 := Lib.hid hal
  have KG4 := Lib.hid hk
  have RG := Lib.hid fun (wx : World) (h : Below w3.heap.size w3 wx) => shGrads.le (shGrads.below hrd h (Nat.le_refl _)) h.size
  have HNG := Lib.hid (grads_len hrd).1
  clear hr hb hal hk hrd HC hz2 K2
  go_upto_region 5 with fail
  generalize hw4 : w3.alloc (.cells #[.slice ag ng cg, .int .i64 G.2.1, .bool G.2.2] 30 (0, 0)) = w4 at A4 KG4 hs4 ⊢
  clear hw4
  have T4 := Lib.hid (A2.out.trans (B3.out.trans (A4.out.mono (by omega))))
  have KM4 := Lib.hid ((A4.out.block w1.heap.size (by omega)).trans KM3.out)
  have hz4 := box1 KM4.out
  have hC := specBatchOk_d w4 [.slice a n c] m (HM.out w4 T4.out) HBM.out ab k cb b (HB.out w4 T4.out) hk1 hk2 HBB.out
  obtain ⟨d, hd⟩ : ∃ d, batchOkB m b = d := ⟨_, rfl⟩
  rw [hd] at hC
  have HD := Lib.hid hd
  have HC := Lib.hid hC
  clear hC hd KM3
  go_wp2_with fail
  refine HC.out.mono ?_
  rintro e w5 ⟨rfl, hb⟩
  have hs5 := hb.size
  have B5 := Lib.hid hb
  have KG5 := Lib.hid ((hb.block w3.heap.size (by omega)).trans KG4.out)
  have KM5 := Lib.hid ((hb.block w1.heap.size (by omega)).trans KM4.out)
  have T5 := Lib.hid (T4.out.trans (hb.mono (show w1.heap.size ≤ w4.heap.size by omega)))
  have G5 := Lib.hid (A4.out.trans (hb.mono (show w3.heap.size ≤ w4.heap.size by omega)))
  clear hb HC hz4 KM4 KG4
  cases d
  · have hg0 : G = dNone := by rw [← HGG.out]; exact seqG_no HD.out
    subst hg0
    obtain rfl : ng = 0 := HNG.out.symm
    obtain ⟨⟨d0, d1, d2⟩, f0, f1, f2⟩ := cellsG KG5.out
    go_wp2_with fail
    go_ret
    exact ⟨rfl, T1.out.trans (T5.out.mono hs1)⟩
  · have hgy : G = seqK m b k := by rw [← HGG.out, seqG_yes HD.out, HBL.out]
    obtain ⟨hmo, -, -, hpo⟩ := batch_has HD.out
    have HMO := Lib.hid hmo
    have HPO := Lib.hid hpo
    have HGY := Lib.hid hgy
    have hz5 := box1 KM5.out
    have HC := Lib.hid (implZeroGrads_o w5 [.slice a n c] m (HM.out w5 T5.out) HBM.out)
    clear hgy hmo hpo
    go_wp2_with fail
    refine HC.out.mono ?_
    rintro e w6 ⟨ez, rfl, hr, hb⟩
    have hs6 := hb.size
    obtain ⟨az, nz, cz, rfl, -⟩ := ownGrads_owns.1 hr
    have hal : Below w6.heap.size w6 (w6.alloc (.cells #[.slice az nz cz, .int .i64 (zeroG m).2.1, .bool (zeroG m).2.2] 30 (0, 0))) := (Below.refl _ _).alloc (Nat.le_refl _) _
    have hk := heap_alloc_new w6 (.cells #[.slice az nz cz, .int .i64 (zeroG m).2.1, .bool (zeroG m).2.2] 30 (0, 0))
    have hs7 : (w6.alloc (.cells #[.slice az nz cz, .int .i64 (zeroG m).2.1, .bool (zeroG m).2.2] 30 (0, 0))).heap.size = w6.heap.size + 1 := by simp
    have T7 := Lib.hid (hb.trans (hal.mono hs6))
    have KW := Lib.hid hk
    have RW := Lib.hid (ownGrads.owns_sub (G := fun b _ => w5.heap.size ≤ b ∧ b < w6.heap.size + 1 ∧ b ≠ w6.heap.size) (ownGrads.owns_keep hr (.of_below hal fun b o f => f.2)) fun b o hb => ⟨by have := hb.1; omega, by have := hb.2; omega, by have := hb.2; omega⟩)
    clear hr hb hal hk HC hz5
    go_wp2_with fail
    generalize hw7 : w6.alloc (.cells #[.slice az nz cz, .int .i64 (zeroG m).2.1, .bool (zeroG m).2.2] 30 (0, 0)) = w7 at T7 KW RW hs7 ⊢
    clear hw7
    go_loopw [7] (fun i wr => ∃ (j : Nat) (aw : Option Addr) (nw cw : Nat), j ≤ k ∧ i = .int .i64 j ∧ wr.heap[w6.heap.size]? = some (.cells #[.slice aw nw cw, .int .i64 (seqK m b j).2.1, .bool (seqK m b j).2.2] 30 (0, 0)) ∧ ownGrads.owns (fun b _ => w5.heap.size ≤ b ∧ b < wr.heap.size ∧ b ≠ w6.heap.size) wr [.slice aw nw cw, .int .i64 (seqK m b j).2.1, .bool (seqK m b j).2.2] (seqK m b j) ∧
      w6.heap.size + 1 ≤ wr.heap.size ∧ Below w5.heap.size w5 wr) (fun i _ => k - (intOf i).toNat)
    case atStart => exact ⟨0, az, nz, cz, Nat.zero_le _, rfl, KW.out, by rw [hs7]; exact RW.out, Nat.le_of_eq hs7.symm, T7.out⟩
    case round =>
      obtain ⟨j, aw, nw, cw, hj, rfl, hwb, hwr, hsr, hbw⟩ := hrel
      obtain ⟨wo, rfl⟩ : ∃ y, y = wr := ⟨_, rfl⟩
      obtain ⟨W, hW⟩ : ∃ W, seqK m b j = W := ⟨_, rfl⟩
      have hWb : shGrads.bulk W ≤ 1048576 := by rw [← hW]; exact seqK_bulk m b j
      rw [hW] at hwb hwr
      have hsz := hbw.size
      have HBW := Lib.hid hbw
      have HWB := Lib.hid hwb
      have HWR := Lib.hid hwr
      have HW := Lib.hid hW
      have TR := Lib.hid (T5.out.trans (hbw.mono (show w1.heap.size ≤ w5.heap.size by omega)))
      clear hW hwb hwr hbw
      by_cases hltj : j < k
      · obtain ⟨x, hx⟩ : ∃ x, b[j]? = some x := ⟨_, List.getElem?_eq_getElem (by rw [HBL.out]; exact hltj)⟩
        have hxp := HPO.out j (by rw [HBL.out]; exact hltj)
        rw [pairAt_get hx] at hxp
        obtain ⟨mf1, mf2, mf3⟩ := micro_forms HMO.out hxp
        have hbx' : shPair.bulk x ≤ 1048576 := by
          have h1 := bulk_mem shPair.bulk b j x hx
          have h2 := HBB.out
          have h3 : (Shape.list shPair).bulk b = b.length + Shape.sum shPair.bulk b := rfl
          omega
        obtain ⟨M, hM⟩ : ∃ M, microG m x = M := ⟨_, rfl⟩
        have hMb : shGrads.bulk M ≤ 1048576 := by rw [← hM]; exact micro_small m x
        have hNX : seqK m b (j + 1) = addG W M := by
          show addG (seqK m b j) (microG m (pairAt b j)) = _
          rw [HW.out, pairAt_get hx, hM]
        rw [hM] at mf1 mf2 mf3
        have HNX := Lib.hid hNX
        have MF3 := Lib.hid mf3
        obtain ⟨b1, o1, es, eab, hbB1, hr, hs⟩ := (HB.out wo TR.out).2 j x hx
        obtain ⟨ax, nx, cx, at', nt, ct, rfl, -⟩ := shPair_reads.1 hs
        have HC := Lib.hid fun (wt : World) (hb : Below wo.heap.size wo wt) => (implMicroGrads_o wt [.slice a n c] m (HM.out wt (TR.out.trans (hb.mono TR.out.size))) HBM.out _ x (shPair.le (shPair.below hs hb (Nat.le_refl _)) hb.size) hbx' (HG.out wt (TR.out.trans (hb.mono TR.out.size)))).mono fun e w' ⟨es', he, ho, hb'⟩ => (⟨es', he, ownGrads.owns_reads ho fun b o f => f, hb'⟩ : ∃ es' : List Value, e = Ending.returned (.agg es'.toArray) ∧ shGrads.reads (From wt.heap.size w'.heap.size) w' es' _ ∧ Below wt.heap.size wt w')
        simp only [hM] at HC
        rw [shPair_size] at hr
        have c0 := hr 0 _ rfl
        have c1 := hr 1 _ rfl
        simp only [Nat.add_zero] at c0
        have hKM := (HBW.out.block w1.heap.size (by omega)).trans KM5.out
        have hAZ : Below wo.heap.size wo (wo.alloc (.cells #[.slice none 0 0, .int .i64 0, .bool false] 30 (0, 0))) := (Below.refl _ _).alloc (Nat.le_refl _) _
        have z0 := box1 hKM
        have z0' := box1 ((hAZ.block w1.heap.size (by omega)).trans hKM)
        have c0' := (hAZ.cell (p := ⟨b1, o1 + j * 2, none⟩) hbB1).trans c0
        have c1' := (hAZ.cell (p := ⟨b1, o1 + j * 2 + 1, none⟩) hbB1).trans c1
        subst eab
        have DR : Hid (Below wo.heap.size wo wo.drew) := Lib.hid (Below.refl _ _).drew
        have DRA : Hid (Below wo.heap.size wo (wo.alloc (.cells #[.slice none 0 0, .int .i64 0, .bool false] 30 (0, 0))).drew) := Lib.hid hAZ.drew
        clear hr hs hx hxp hM hNX mf3 hKM hAZ hbB1
        go_upto_region 11 with fail
        go_cut [8] (fun t wx => BoxedR shGrads 30 wo wx t M)
        case first =>
          go_region_law (go_simp; first
            | (go_at_call 35; (with_reducible refine (HC.out _ DR.out).mono ?_); rintro e tq ⟨ew, rfl, hr, hb⟩; obtain ⟨aq_0, nq_0, cq_0, rfl, -⟩ := shGrads_reads.1 hr; have BQ := Lib.hid (DR.out.trans (hb.mono DR.out.size)); have RQ := Lib.hid hr; clear hb hr)
            | (go_at_call 35; (with_reducible refine (HC.out _ DRA.out).mono ?_); rintro e tq ⟨ew, rfl, hr, hb⟩; have BX := Lib.hid ((BoxIn.new (Below.refl wo.heap.size wo) (.cells #[.slice none 0 0, .int .i64 0, .bool false] 30 (0, 0))).drew.call hb); have BL : Hid (wo.heap.size < (wo.alloc (.cells #[.slice none 0 0, .int .i64 0, .bool false] 30 (0, 0))).drew.heap.size) := Lib.hid (by show _ < (wo.alloc (.cells #[.slice none 0 0, .int .i64 0, .bool false] 30 (0, 0))).heap.size; simp); have yy_0 := cell_of_row _ _ 0 _ _ _ BX.out.1; have ff_0 := frozen_of_row _ _ 0 _ _ BX.out.1; have yy_1 := cell_of_row _ _ 1 _ _ _ BX.out.1; have ff_1 := frozen_of_row _ _ 1 _ _ BX.out.1; have yy_2 := cell_of_row _ _ 2 _ _ _ BX.out.1; have ff_2 := frozen_of_row _ _ 2 _ _ BX.out.1; simp only [List.getElem?_toArray, List.getElem?_cons_zero, List.getElem?_cons_succ] at yy_0 yy_1 yy_2; obtain ⟨aq_0, nq_0, cq_0, rfl, -⟩ := shGrads_reads.1 hr; have BQ := Lib.hid (DRA.out.trans (hb.mono DRA.out.size)); have RQ := Lib.hid hr; clear hb hr))
          all_goals
            clear z0 z0' c0 c0' c1 c1'
            try clear yy_0 ff_0 yy_1 ff_1 yy_2 ff_2
            clear HC DR DRA
            go_wp2_with fail
            go_meet
            case rel => first | (with_reducible exact BoxedR.last BQ.out RQ.out) | (with_reducible exact BoxedR.early3 BQ.out RQ.out BX.out BL.out)
        case rest =>
          obtain ⟨gx, ex, rfl, hgx, hrx, hlo, hltx, hbx⟩ := hcut
          obtain ⟨wx, rfl⟩ : ∃ y, y = wc := ⟨_, rfl⟩
          have hsx := hbx.size
          obtain ⟨axx, nxx, cxx, rfl, -⟩ := shGrads_reads.1 hrx
          obtain ⟨g1, -, -, gl⟩ := grads_len hrx
          obtain rfl : nxx = n := by rw [← g1, mf1]; exact model_len (HM.out w1 (Below.refl _ _))
          obtain ⟨⟨y0, y1, y2⟩, -⟩ := cellsG hgx
          have hKM := (hbx.block w1.heap.size (by omega)).trans ((HBW.out.block w1.heap.size (by omega)).trans KM5.out)
          have zm := box1 hKM
          have hn8 : nxx ≤ 8 := by
            have h1 := (modelOk_has HMO.out).2.2
            have h2 := model_len (HM.out w1 (Below.refl _ _))
            omega
          have hneg : decide (M.2.1 < 0) = false := decide_eq_false (by omega)
          have hneg' : ¬ M.2.1 < 0 := by omega
          have KMX := Lib.hid hKM
          have HGX := Lib.hid hgx
          have HRX := Lib.hid hrx
          have GL := Lib.hid gl
          have HBX := Lib.hid hbx
          have TX := Lib.hid (TR.out.trans (hbx.mono TR.out.size))
          clear hgx hrx gl hbx hKM g1 HC
          clear z0 z0' c0 c0' c1 c1' DR DRA
          go_wp2_with fail
          go_loopw [9] (fun i wr => ∃ q : Nat, q ≤ nxx ∧ i = .int .i64 q ∧ Below wx.heap.size wx wr) (fun i _ => nxx - (intOf i).toNat)
          case atStart => exact ⟨0, Nat.zero_le _, rfl, Below.refl _ _⟩
          case round =>
            obtain ⟨q, hq, rfl, hbq⟩ := hrel
            have hszq := hbq.size
            have zm2 := box1 ((hbq.block w1.heap.size (by omega)).trans KMX.out)
            obtain ⟨⟨y0', y1', y2'⟩, -⟩ := cellsG ((hbq.block gx (by omega)).trans HGX.out)
            clear zm y0 y1 y2
            by_cases hltq : q < nxx
            · obtain ⟨z, hz⟩ : ∃ z, M.1[q]? = some z := ⟨_, List.getElem?_eq_getElem (by rw [mf1, model_len (HM.out w1 (Below.refl _ _))]; exact hltq)⟩
              obtain ⟨bz, oz, ez, eax, hbz, hrz, hsz2⟩ := GL.out.2 q z hz
              obtain ⟨arr, nrr, crr, rfl, -, -, mrr⟩ := shRow_reads.1 hsz2
              obtain ⟨-, -, -, gm⟩ := shModel_lists (HM.out wx TX.out)
              obtain ⟨y, hy⟩ : ∃ y, m[q]? = some y := ⟨_, List.getElem?_eq_getElem (by rw [model_len (HM.out w1 (Below.refl _ _))]; exact hltq)⟩
              obtain ⟨bo, oo, eo, ea, hbo, hro, hso⟩ := gm.2 q y hy
              obtain ⟨ape, npe, cpe, rfl, -, -, mpe⟩ := shOp_reads.1 hso
              have hlen : nrr = npe := by
                have h1 := MF3.out q (by rw [model_len (HM.out w1 (Below.refl _ _))]; exact hltq)
                rw [rowAt_get hz, opAt_get hy] at h1
                rw [← mrr.1, ← mpe.1]
                exact h1
              subst hlen
              have k1 := (hbq.cell (p := ⟨bz, oz + q * shRow.size + 0, none⟩) hbz).trans (hrz 0 _ rfl)
              have k2 := (hbq.cell (p := ⟨bo, oo + q * shOp.size + 3, none⟩) hbo).trans (hro 3 _ rfl)
              rw [shRow_size, Nat.mul_one, Nat.add_zero] at k1
              rw [shOp_size] at k2
              subst eax
              subst ea
              have HBQ := Lib.hid hbq
              clear hbq hrz hsz2 mrr gm hro hso mpe hz hy hbz hbo
              go_wp2_with fail
              go_quiet (fail)
              have HQQ : Hid (Below wx.heap.size wx (wr.drewN nq)) := Lib.hid (HBQ.out.trans ⟨rfl, rfl, rfl, Nat.le_refl _, fun _ _ => rfl⟩)
              generalize wr.drewN nq = wq2 at HQQ ⊢
              clear k1 k2 y0' y1' y2' zm2
              go_wp2_with fail
              go_round
              case rel => exact ⟨q + 1, by omega, by go_num, HQQ.out⟩
              case measure => simp [intOf]; omega
            · obtain rfl : q = nxx := by omega
              have hdq : Below wo.heap.size wo wr := HBX.out.trans (hbq.mono HBX.out.size)
              have hkw := (hdq.block w6.heap.size (by omega)).trans HWB.out
              obtain ⟨⟨d0, d1, d2⟩, f0, f1, f2⟩ := cellsG hkw
              have hrw := ownGrads.owns_keep HWR.out (.of_below hdq fun b o f => f.2.1)
              have HC := Lib.hid (implAddGrads_o wr [.slice aw nw cw, .int .i64 W.2.1, .bool W.2.2] W (ownGrads.owns_reads (I := Under wr.heap.size) hrw fun b o f => Nat.lt_of_lt_of_le f.2.1 hdq.size) hWb _ M (shGrads.le (shGrads.below HRX.out hbq (Nat.le_refl _)) hbq.size) hMb (HG.out wr (TX.out.trans (hbq.mono TX.out.size))))
              have HDQ := Lib.hid hdq
              have HKW := Lib.hid hkw
              have szq := hdq.size
              clear hdq hkw hrw hbq
              go_wp2_with fail
              refine HC.out.mono ?_
              rintro e wu ⟨eh, rfl, hr, hb⟩
              obtain ⟨ah, nh, ch, rfl, -⟩ := ownGrads_owns.1 hr
              have szu := hb.size
              have hku := (hb.block w6.heap.size (by omega)).trans HKW.out
              obtain ⟨⟨d0', d1', d2'⟩, f0', f1', f2'⟩ := cellsG hku
              have HKU := Lib.hid hku
              have HRU := Lib.hid hr
              have HBU := Lib.hid (HBW.out.trans ((HDQ.out.mono hsz).trans (hb.mono (by omega))))
              clear hr hb hku d0 d1 d2 f0 f1 f2 y0' y1' y2' zm2
              go_wp2_with fail
              go_roundw
              case rel =>
                refine ⟨j + 1, ah, nh, ch, by omega, by go_num, ?_, ?_, ?_, ?_⟩
                · rw [HNX.out]
                  exact store3 HKU.out _ _ _
                · rw [HNX.out, set3_size]
                  refine ownGrads.owns_sub (ownGrads.owns_keep HRU.out fun b o f => ?_) fun b o f => ⟨by have := f.1; omega, f.2, by have := f.1; omega⟩
                  have hne : b ≠ w6.heap.size := by have := f.1; omega
                  exact ⟨World.cell?_of_block (a := ⟨b, o, none⟩) (set3_other _ _ _ hne), World.frozen?_of_block (a := ⟨b, o, none⟩) (set3_other _ _ _ hne)⟩
                · rw [set3_size]
                  omega
                · exact set3_below HBU.out (by omega) _ _ _
              case measure => simp [intOf]; omega
      · obtain rfl : j = k := by omega
        obtain rfl : W = G := by rw [← HW.out, HGY.out]
        have hkg := (HBW.out.block w3.heap.size (by omega)).trans KG5.out
        obtain ⟨⟨d0, d1, d2⟩, -⟩ := cellsG hkg
        obtain ⟨⟨e0, e1, e2⟩, -⟩ := cellsG HWB.out
        have hC := specSameGrads_d wo [.slice ag ng cg, .int .i64 W.2.1, .bool W.2.2] W (RG.out wo (G5.out.trans (HBW.out.mono (by omega)))) hWb [.slice aw nw cw, .int .i64 W.2.1, .bool W.2.2] W (ownGrads.owns_reads (I := Under wo.heap.size) HWR.out fun b o f => f.2.1) hWb
        rw [sameGrads_self] at hC
        have HC := Lib.hid hC
        clear hC hkg
        go_wp2_with fail
        refine HC.out.mono ?_
        rintro e wz ⟨rfl, hb⟩
        have HZ := Lib.hid (TR.out.trans (hb.mono TR.out.size))
        clear hb
        go_wp2_with fail
        go_ret
        exact ⟨rfl, T1.out.trans (HZ.out.mono hs1)⟩
theorem lawInARow_big (w : World) (a : Option Addr) (len cap : Nat) (hm : len ≤ 9223372036854775807) (hbig : 1048576 < len) :
    Calls Tryz.prog 5 #[.slice a len cap] w fun e w' => e = .returned (.bool true) ∧ Below w.heap.size w w' := by
  go_enter Tryz.func5, Tryz.ntmps5
  go_wp2_with fail
  refine (big_yes a len cap hbig hm _).mono ?_
  rintro e w' ⟨rfl, rfl⟩
  go_wp2_with fail
  go_ret
  exact ⟨rfl, Below.refl _ _⟩
theorem lawInARow (w : World) (a : Option Addr) (len cap : Nat) (hm : len ≤ 9223372036854775807) (hE : LaidE w)
    (hb : ∃ bs : List UInt8, bs.length = len ∧ ∀ j (hj : j < bs.length), ∃ b o, a = some ⟨b, o, none⟩ ∧ b < w.heap.size ∧ w.cell? ⟨b, o + j, none⟩ = some (.int .u8 (bs[j].toNat : Int))) :
    Calls Tryz.prog 5 #[.slice a len cap] w fun e w' => e = .returned (.bool true) ∧ Below w.heap.size w w' :=
  law_of _ w a len cap hm hb (lawInARow_big w a len cap hm) (fun bs hc => lawInARow_small w a cap bs hc hE)
end Go.Proofs.YtpnifgpmleaohaaGreatDoor

end
