import Derived.Test.YtkmcfbopilieeaaJoin35
import Derived.Test.YtkmcfbopilieeaaJoin29
import Derived.Test.YtkmcfbopilieeaaJoin18
import Derived.Test.YtkmcfbopilieeaaJoin25
import Derived.Deep.AppendLies
/-! YtkmcfbopilieeaaCutW -/
section

namespace Go.Proofs.Ytkmcfbopilieeaa
open Go.RowKit Go.Shelf
set_option linter.unusedVariables false
attribute [local go_sem] Oper.semAt_some

/-- All ways, as they are told. -/
def waysI (ops stages : Int) : List (List Int) := if 1 ≤ stages ∧ stages ≤ ops ∧ ops ≤ 8 then ways ops.toNat stages.toNat else []
def wayAt (ops stages : Int) (p : Nat) : List Int := (waysI ops stages).getD p []
theorem waysI_no {ops stages : Int} (h : ¬ (1 ≤ stages ∧ stages ≤ ops ∧ ops ≤ 8)) : waysI ops stages = [] := if_neg h
theorem waysI_yes {n k : Nat} (h1 : 1 ≤ k) (h2 : k ≤ n) (h3 : n ≤ 8) : waysI n k = ways n k := by
  unfold waysI
  rw [if_pos ⟨by omega, by omega, by omega⟩, Int.toNat_natCast, Int.toNat_natCast]
theorem wayAt_get {n k p : Nat} (h1 : 1 ≤ k) (h2 : k ≤ n) (h3 : n ≤ 8) (hp : p < (ways n k).length) : (ways n k)[p]? = some (wayAt n k p) := by
  unfold wayAt
  rw [waysI_yes h1 h2 h3, List.getD_eq_getElem?_getD, List.getElem?_eq_getElem hp]
  rfl
theorem clone_notnil8 (b p n c : Nat) (w : World) : (binOp .eql 29 (.slice (some ⟨b, p, none⟩) n c) (.slice none 0 0)).run Try.prog w = .ok (.bool false) w := by kernel_rfl
theorem row_new {base : Nat} {w : World} {v : Value} {n : Nat} {ds : List Int} (h : w.ownsRow base 3 1 v (0 + n) ([] ++ icells ds)) : Row base w v ds := by
  have hl : ds.length = n := by
    have := h.1
    rw [List.nil_append, icells_length] at this
    omega
  unfold Row
  rw [hl]
  simpa using h
set_option maxRecDepth 100000 in
/-- A copy of numbers. -/
theorem implClone8 (w : World) (b p n c : Nat) (ds : List Int) (h : IntsIn w.heap.size w (some ⟨b, p, none⟩) n ds) :
    Calls Try.prog 66 #[.slice (some ⟨b, p, none⟩) n c] w (RowV w ds) := by
  obtain ⟨i0, hi0, hz0, hz1, hz2⟩ := info_parts Try.infoI64
  have hl := h.len
  have hroom := h.room
  have HY := Lib.hid h
  have HL := Lib.hid hl
  have hnn := clone_notnil8 b p n c
  have hE0 : (w.alloc (.cells #[] 3 (0, 0))).ownsRow w.heap.size 3 1 (.slice (some ⟨w.heap.size, 0, none⟩) 0 0) 0 [] := Row.empty w _ rfl
  clear h hl
  go_enter Try.func66, Try.ntmps66
  go_wp2_with (at_builtin; refine wpList_append_own _ rfl _ _ 29 rfl w.heap.size 3 i0 (.int .i64 0) 1 8 Try.underlying29 hi0 hz0 hz1 hz2 rfl (by decide) _ _ _ rfl hE0 ⟨b, p, none⟩ n c (icells ds) rfl (by rw [icells_length, HL.out, Nat.mul_one]) (ints_news (HY.out.below ((Below.refl w.heap.size w).alloc (Nat.le_refl _) _) (by omega))) (icells_one _) (by unfold maxLen; omega) (by omega) (by simp) ?_; intro v2 w2 hown hgrow _; have hr := row_new hown; have hb := ((Below.refl w.heap.size w).alloc (Nat.le_refl _) (.cells #[] 3 (0, 0))).grown hgrow (by simp) (fun k e => by cases e; exact Nat.le_refl _); have HR := Lib.hid hr; have HB := Lib.hid hb; clear hown hgrow hr hb)
  go_ret
  exact ⟨v2, rfl, HR.out, HB.out⟩
theorem Row.same {base g n c : Nat} {w w' : World} {xs : List Int} (h : Row base w (.slice (some ⟨g, 0, none⟩) n c) xs) (hg : w'.heap[g]? = w.heap[g]?) : Row base w' (.slice (some ⟨g, 0, none⟩) n c) xs := by
  refine ⟨h.1, ?_⟩
  rcases h.2 with h2 | ⟨g', cap, cur, e, h3, h4, h5⟩
  · exact .inl h2
  · refine .inr ⟨g', cap, cur, e, h3, ?_, h5⟩
    have e2 : g = g' := by
      simp only [Value.slice.injEq, Option.some.injEq, Addr.mk.injEq] at e
      exact e.1.1
    subst e2
    rw [hg]
    exact h4
theorem way_step {n k p : Nat} (h1 : 1 ≤ k) (h2 : k ≤ n) (h3 : n ≤ 8) (hp : p < (ways n k).length) :
    ∃ q, NextAt n (k - 1) (wayAt n k p) q ∧ q.isSome = decide (p + 1 < (ways n k).length) ∧ (p + 1 < (ways n k).length → nextL (wayAt n k p) q = wayAt n k (p + 1)) ∧ (wayAt n k p).length = k - 1 ∧ cutsB n (wayAt n k p) = true := by
  have hw := ways_at h1 h2 h3
  have hg := wayAt_get h1 h2 h3 hp
  obtain ⟨hl, hc⟩ := hw.len p _ hg
  by_cases hn : p + 1 < (ways n k).length
  · have hg' := wayAt_get h1 h2 h3 hn
    obtain ⟨i, i1, i2, i3, i4⟩ := hw.step p _ _ hg hg'
    exact ⟨some i, ⟨i1, i2, i3⟩, (decide_eq_true hn).symm, fun _ => i4.symm, hl, hc⟩
  · exact ⟨none, hw.last p _ hg (by omega), (decide_eq_false hn).symm, fun h => absurd h hn, hl, hc⟩
theorem way_range {n : Nat} {l : List Int} (hc : cutsB n l = true) (h8 : n ≤ 8) : ∀ j, j < l.length → 0 ≤ l.getD j 0 ∧ l.getD j 0 ≤ 8 := fun j hj => by
  have h1 := cuts_rise (cutsB_has hc) j (by omega)
  have h2 := cutAt_has (cutsB_has hc j hj)
  omega
/-- The row at a block, as it reads. -/
def readK (w : World) (g C : Nat) : List Int := mapK (fun j => match w.cell? ⟨g, j, none⟩ with | some (.int _ x) => x | _ => 0) C
theorem row_read {base g C c : Nat} {w : World} {l : List Int} (h : Row base w (.slice (some ⟨g, 0, none⟩) C c) l) (hl : l.length = C) : readK w g C = l := by
  have h1 : w.ownsRow base 3 1 (.slice (some ⟨g, 0, none⟩) C c) C (icells l) := by
    unfold Row at h
    rw [hl] at h
    exact h
  refine List.ext_getElem (by unfold readK; rw [mapK_length, hl]) fun j h2 h3 => ?_
  have hj : j < C := by omega
  have e2 := mapK_get (fun j => match w.cell? ⟨g, j, none⟩ with | some (.int _ x) => x | _ => 0) C j hj
  rw [List.getD_eq_getElem?_getD, List.getElem?_eq_getElem (by rw [mapK_length]; exact hj)] at e2
  simp only [Option.getD_some] at e2
  refine Eq.trans e2 ?_
  rw [World.ownsRow.cellAt h1 j (by omega), icells_get l j h3]
  simp [List.getD, h3]
/-- How much is still to come. -/
def leftW (g C : Nat) (t : Value) (w : World) : Nat := match t with
  | .bool true => 5000001 - rankW (readK w g C)
  | _ => 0
theorem row_ints8 {base g C c : Nat} {w : World} {xs : List Int} (h : Row base w (.slice (some ⟨g, 0, none⟩) C c) xs) (hl : xs.length = C) (hr : C ≤ 1048576) : IntsIn w.heap.size w (some ⟨g, 0, none⟩) C xs := by
  subst hl
  obtain ⟨a', c', e, hi⟩ := h.form
  cases e
  exact hi hr
set_option maxRecDepth 100000 in
set_option maxHeartbeats 3000000 in
theorem ways1_given (n : Nat) (hn : 1 ≤ n) (B1 B2 : Nat) (ops stages : Int) (Kp : World → World → Prop) (hKp : ∀ X Y, Kp X Y → Y.heap[B1]? = X.heap[B1]? ∧ Y.heap[B2]? = X.heap[B2]?) (w : World) (t1 t2 : TypeId) (h1 : Boxed w B1 t1 (.int .i64 ops)) (h2 : Boxed w B2 t2 (.int .i64 stages)) (b0 : Nat) :
    RowsGiven Fence.wide n Try.prog 63 #[.pointer (some ⟨B1, 0, none⟩), .pointer (some ⟨B2, 0, none⟩)] Kp (wayAt ops stages) (waysI ops stages).length w b0 := by
  intro l J W hW hb0 hJ hY h0
  subst hb0
  have g1 : Boxed W B1 t1 (.int .i64 ops) := (hW.block B1 h1.lt).trans h1
  have g2 : Boxed W B2 t2 (.int .i64 stages) := (hW.block B2 h2.lt).trans h2
  have c1 := g1.cell
  have c2 := g2.cell
  have HY := Lib.hid hY
  have HJ := Lib.hid hJ
  have H0 := Lib.hid h0
  have G1 := Lib.hid g1
  have G2 := Lib.hid g2
  clear hY hJ h0 hW h1 h2 g1 g2
  refine callsIn_of_wp Try.func63 rfl trivial ?_ rfl
  simp only [Try.ntmps63, List.size_toArray, List.length_cons, List.length_nil, Nat.reduceAdd, Nat.reduceSub, Array.replicate_succ, Array.replicate_zero, List.push_toArray, List.append_toArray, List.nil_append, List.cons_append]
  by_cases ha : ops > 8
  · have hN : (waysI ops stages).length = 0 := by rw [waysI_no (by omega)]; rfl
    have HN := Lib.hid hN
    clear hN
    have d1 : decide (ops > 8) = true := decide_eq_true ha
    have d1' : 8 < ops := ha
    gi_wp2
    refine bodyPost_ret (results_none rfl _ _ _) rfl ⟨⟨_, rfl⟩, [], by rw [HN.out]; rfl, H0.out⟩
  · have d1 : decide (ops > 8) = false := decide_eq_false ha
    by_cases hb : stages < 1
    · have hN : (waysI ops stages).length = 0 := by rw [waysI_no (by omega)]; rfl
      have HN := Lib.hid hN
      clear hN
      have d2 : decide (stages < 1) = true := decide_eq_true hb
      gi_wp2
      refine bodyPost_ret (results_none rfl _ _ _) rfl ⟨⟨_, rfl⟩, [], by rw [HN.out]; rfl, H0.out⟩
    · have d2 : decide (stages < 1) = false := decide_eq_false hb
      by_cases hc : stages > ops
      · have hN : (waysI ops stages).length = 0 := by rw [waysI_no (by omega)]; rfl
        have HN := Lib.hid hN
        clear hN
        have d3 : decide (stages > ops) = true := decide_eq_true hc
        gi_wp2
        refine bodyPost_ret (results_none rfl _ _ _) rfl ⟨⟨_, rfl⟩, [], by rw [HN.out]; rfl, H0.out⟩
      · have d3 : decide (stages > ops) = false := decide_eq_false hc
        obtain ⟨m, rfl⟩ : ∃ m : Nat, ops = m := ⟨ops.toNat, by omega⟩
        obtain ⟨k, rfl⟩ : ∃ k : Nat, stages = k := ⟨stages.toNat, by omega⟩
        have m8 : m ≤ 8 := by omega
        have k1 : 1 ≤ k := by omega
        have km : k ≤ m := by omega
        obtain ⟨C, hC⟩ : ∃ C, k - 1 = C := ⟨_, rfl⟩
        have hw1 : (k : Int) - 1 = (C : Int) := by omega
        have hC7 : C ≤ 7 := by omega
        have hmk := run_make_many (P := Try.prog) 29 3 _ 1 8 Try.underlying29 Try.infoI64 C (by omega) (by omega)
        have hms := Row.made W C (by omega)
        have hbs : Below W.heap.size W (W.alloc (.cells (madeCells #[.int .i64 0] C) 3 (0, 0))) := (Below.refl _ _).alloc (Nat.le_refl _) _
        have hsz : (W.alloc (.cells (madeCells #[.int .i64 0] C) 3 (0, 0))).heap.size = W.heap.size + 1 := by simp
        have hJ1 : J [] (W.alloc (.cells (madeCells #[.int .i64 0] C) 3 (0, 0))) := HJ.out _ _ _ H0.out (World.grownBy_alloc W _ _)
        have HMS := Lib.hid hms
        have HBS := Lib.hid hbs
        have HJ1 := Lib.hid hJ1
        have hw8 := ways_at k1 km m8
        have HW8 := Lib.hid hw8
        have HNW : Hid ((waysI (m : Int) (k : Int)).length = (ways m k).length) := Lib.hid (by rw [waysI_yes k1 km m8])
        have hsome := hw8.some
        have hB1 : B1 < W.heap.size := G1.out.lt
        have hB2 : B2 < W.heap.size := G2.out.lt
        have HC := Lib.hid hC
        clear hms hbs hJ1 hw8 hC
        gi_wp2
        generalize W.alloc (.cells (madeCells #[.int .i64 0] C) 3 (0, 0)) = wa at HMS HBS HJ1 hsz ⊢
        clear hmk
        refine ⟨trivial, ?_⟩
        have hT := (implRiseFrom_any wa W.heap.size W.heap.size C C (noughts C) HMS.out (by unfold noughts; simp) hC7 0 (Nat.zero_le _) C 1 ⟨by omega, by omega⟩)
        rw [Nat.sub_zero] at hT
        have HT := Lib.hid hT
        clear hT
        with_reducible refine (callsIn_wide.2 HT.out).mono ?_
        rintro e w1 ⟨⟨v, rfl⟩, hr, hg⟩
        rw [show noughts C = List.replicate C 0 from rfl, rise_first] at hr
        have hf : firstW C = wayAt m k 0 := by
          have e1 := HW8.out.first
          rw [wayAt_get k1 km m8 hsome, HC.out] at e1
          exact (Option.some.inj e1).symm
        rw [hf] at hr
        have hJ2 : J [] w1 := HJ.out _ _ _ HJ1.out hg
        have q1 : Boxed w1 B1 t1 (.int .i64 m) := (hg.block B1 (by omega) (fun e => by have := Option.some.inj e; omega)).trans ((HBS.out.block B1 hB1).trans G1.out)
        have q2 : Boxed w1 B2 t2 (.int .i64 k) := (hg.block B2 (by omega) (fun e => by have := Option.some.inj e; omega)).trans ((HBS.out.block B2 hB2).trans G2.out)
        have hs1 : W.heap.size < w1.heap.size := by have := hg.size; omega
        have HR1 := Lib.hid hr
        have HJ2 := Lib.hid hJ2
        have Q1 := Lib.hid q1
        have Q2 := Lib.hid q2
        clear hr hg hJ2 q1 q2 hf c1 c2 HT
        gi_wp2
        gi_loopw [5] (fun t wr => ∃ (p : Nat) (pre : List Value), pre.length = p ∧ p ≤ (ways m k).length ∧ t = .bool (decide (p < (ways m k).length)) ∧ J pre wr ∧ (p < (ways m k).length → Row W.heap.size wr (.slice (some ⟨W.heap.size, 0, none⟩) C C) (wayAt m k p)) ∧ Boxed wr B1 t1 (.int .i64 m) ∧ Boxed wr B2 t2 (.int .i64 k) ∧ W.heap.size < wr.heap.size)
          (leftW W.heap.size C)
        case atStart => exact ⟨0, [], rfl, Nat.zero_le _, by rw [decide_eq_true (show 0 < (ways m k).length by omega)], HJ2.out, fun _ => HR1.out, Q1.out, Q2.out, hs1⟩
        case round =>
          obtain ⟨p, pre, hpl, hp, rfl, hJp, hrp, b1, b2, hsw⟩ := hrel
          by_cases hlt : p < (ways m k).length
          · obtain ⟨q, hq, hqs, hqn, hll, hcc⟩ := way_step k1 km m8 hlt
            rw [HC.out] at hq hll
            have hrow := hrp hlt
            have hrange := way_range hcc m8
            rw [hll] at hrange
            obtain ⟨L, hL⟩ : ∃ L, wayAt m k p = L := ⟨_, rfl⟩
            rw [hL] at hrow hq hqn hll hrange
            have hcl := implClone8 wr W.heap.size 0 C C L (row_ints8 hrow hll (by omega))
            have HCL := Lib.hid hcl
            have HRW := Lib.hid hrow
            have HQ := Lib.hid hq
            have HQS := Lib.hid hqs
            have HQN := Lib.hid hqn
            have HLL := Lib.hid hll
            have HRG := Lib.hid hrange
            have HL := Lib.hid hL
            have HJP := Lib.hid hJp
            have P1 := Lib.hid b1
            have P2 := Lib.hid b2
            have HPL := Lib.hid hpl
            have hlen : p < (waysI (m : Int) (k : Int)).length := by rw [HNW.out]; exact hlt
            rw [decide_eq_true hlt]
            clear hrow hq hqs hqn hll hcc hrange hL hcl hJp b1 b2 hrp hpl
            gi_wp2
            refine ⟨trivial, ?_⟩
            refine (callsIn_wide.2 HCL.out).mono ?_
            rintro e W1 ⟨v, rfl, hr1, hb1⟩
            obtain ⟨fn, tmps, assign, body, hy, hR⟩ := HY.out pre v wr W1 HJP.out hsw hb1 (by rw [HPL.out, HL.out]; exact hr1) (by rw [HPL.out]; exact hlen)
            have HR := Lib.hid hR
            have HB1 := Lib.hid hb1
            have hs1' := hb1.size
            clear hR hr1 hb1 HCL
            gi_wp2
            refine HR.out.mono ?_
            rintro e W3 ⟨rfl, hJ3, hk3, hb3, hs3⟩
            obtain ⟨k1', k2'⟩ := hKp _ _ hk3
            have hbw := HB1.out
            have p1 : Boxed W3 B1 t1 (.int .i64 m) := k1'.trans ((hbw.block B1 (by omega)).trans P1.out)
            have p2 : Boxed W3 B2 t2 (.int .i64 k) := k2'.trans ((hbw.block B2 (by omega)).trans P2.out)
            have hrow3 := Row.same (HRW.out.below hbw) hb3
            have HT := Lib.hid (implToNextWay_any W3 W.heap.size W.heap.size C C L m hrow3 HLL.out hC7 m8 (Nat.le_refl _) (by omega) HRG.out q HQ.out)
            have c1 := p1.cell
            have PP1 := Lib.hid p1
            have PP2 := Lib.hid p2
            have HJ3 := Lib.hid hJ3
            have hsz3 : W.heap.size < W3.heap.size := by omega
            clear hJ3 hk3 hb3 k1' k2' hbw p1 p2 hrow3 HR
            gi_wp2
            refine ⟨trivial, ?_⟩
            refine (callsIn_wide.2 HT.out).mono ?_
            rintro e W4 ⟨rfl, hr4, hg4⟩
            have hs4 := hg4.size
            have HR4 := Lib.hid hr4
            have HG4 := Lib.hid hg4
            clear hr4 hg4 c1 HT
            gi_wp2
            go_roundw
            case rel =>
              refine ⟨p + 1, pre ++ [v], by rw [List.length_append, HPL.out]; rfl, by omega, by rw [HQS.out], HJ.out _ _ _ HJ3.out HG4.out, fun h => ?_, (HG4.out.block B1 (by omega) (fun e => by have := Option.some.inj e; omega)).trans PP1.out, (HG4.out.block B2 (by omega) (fun e => by have := Option.some.inj e; omega)).trans PP2.out, by omega⟩
              rw [← HQN.out h]
              exact HR4.out
            case measure =>
              have hrk := ranked_in k1 km m8
              have hg0 := wayAt_get k1 km m8 hlt
              have ht := ranked_top hrk hg0
              rw [HL.out] at ht hg0
              have e0 := row_read HRW.out HLL.out
              show leftW W.heap.size C (.bool q.isSome) W4 < leftW W.heap.size C (.bool true) wr
              have e1 : leftW W.heap.size C (.bool true) wr = 5000001 - rankW L := by unfold leftW; rw [e0]
              rw [e1]
              by_cases hn1 : p + 1 < (ways m k).length
              · have hg1 := wayAt_get k1 km m8 hn1
                have hst := ranked_step hrk hg0 hg1
                have ht1 := ranked_top hrk hg1
                have hr4 := HR4.out
                rw [HQN.out hn1] at hr4
                have hl1 : (wayAt m k (p + 1)).length = C := by rw [(HW8.out.len _ _ hg1).1, HC.out]
                have e2 := row_read hr4 hl1
                have e3 : leftW W.heap.size C (.bool true) W4 = 5000001 - rankW (wayAt m k (p + 1)) := by unfold leftW; rw [e2]
                rw [HQS.out, decide_eq_true hn1, e3]
                omega
              · have e3 : leftW W.heap.size C (.bool false) W4 = 0 := rfl
                rw [HQS.out, decide_eq_false hn1, e3]
                omega
          · rw [decide_eq_false hlt]
            have HJP := Lib.hid hJp
            clear hJp hrp b1 b2
            gi_wp2
            go_end0
            exact ⟨⟨_, rfl⟩, pre, by rw [HNW.out]; omega, HJP.out⟩
end Go.Proofs.Ytkmcfbopilieeaa

end

/-! YtkmcfbopilieeaaCutA -/
section

namespace Go.Proofs.Ytkmcfbopilieeaa
open Go.RowKit Go.Shelf
set_option linter.unusedVariables false
attribute [local go_sem] Oper.semAt_some

theorem wpListIn_append_at {F : Fence} {n : Nat} {P : Program} (w : World) {ops : Array Oper} {rest : List Oper} {o : Oper} {a : Act} {Q : Exit → Act → World → Prop}
    (hg : o.guard = none) (s x : Operand) (t : TypeId) (hop : o.op = Op.call { callee := Callee.builtin Builtin.append, args := #[s, x], argTypes := #[t, t] })
    (base : Nat) (e : TypeId) (i : TypeInfo) (z : Value) (size bytes : Nat) (h1 : P.underlying t = some (.slice e)) (h2 : P.info? e = some i) (h3 : i.zero = some z) (h4 : i.size = size) (h5 : i.bytes = bytes) (h6 : z.cells.size = size) (h7 : 0 < size)
    (v : Value) (k : Nat) (xs : List Value) (hs : a.eval s = v) (hown : w.ownsRow base e size v k xs) (ad : Addr) (m c : Nat) (news : List Value) (hx : a.eval x = .slice (some ad) m c) (hn : news.length = m * size)
    (hc : ∀ j u, news[j]? = some u → w.cell? (ad.add j) = some u) (h1c : ∀ u ∈ news, u.oneCell' = true) (hm : 0 < m) (b1 : k + m ≤ maxLen) (b2 : (k + m) * bytes ≤ 140737488355328) (b3 : base ≤ w.heap.size) (H : Nat) (hH : w.heap.size = H)
    (hK : ∀ g cap w', w'.ownsRow base e size (.slice (some ⟨g, 0, none⟩) (k + m) cap) (k + m) (xs ++ news) → w.grownBy w' v.ownBlock → (v.ownBlock = some g ∨ g = H) → g < w'.heap.size → wpListIn F n P ops Q rest (a.put o.dst (.slice (some ⟨g, 0, none⟩) (k + m) cap)) w') :
    wpListIn F n P ops Q (o :: rest) a w := by
  refine wpListIn_plain hg fun K hK' => ?_
  obtain ⟨g, cap, w', hrun, r1, r2, r3, r4⟩ := run_append_lies (P := P) w t o.type base e i z size bytes h1 h2 h3 h4 h5 h6 h7 v k xs hown ad m c news hn hc h1c hm b1 b2 b3 H hH
  unfold Oper.wpIn
  refine ⟨?_, ?_⟩
  · simp [Oper.about, hop, resolve, Target.leads, Sem.run_pure]
  · rw [Oper.semAt_plain F _ _ (by rw [hop]; intro c hc'; cases hc')]
    simp [execOp, hop, resolve, invoke, builtin, hs, hx, hrun, Result.andThen]
    exact hK' _ _ (hK g cap w' r1 r2 r3 r4)
theorem ListL.same {α : Type} {S : Owned α} {T : TypeId} {lo hi : Nat} {w w' : World} {v : Value} {xs : List α} (h : ListL S T lo hi w v xs) (hb : ∀ k, lo ≤ k → k < hi → w'.heap[k]? = w.heap[k]?) (ht : hi ≤ w'.heap.size) : ListL S T lo hi w' v xs := by
  obtain ⟨us, G, h1, h2, h3, h4, h5⟩ := h.all
  refine ⟨ht, us, G, ⟨h1.1, h1.2.imp id ?_⟩, h2, fun j x hx => ?_, h4, h5⟩
  · rintro ⟨k, cap, cur, rfl, e1, e2, e3⟩
    exact ⟨k, cap, cur, rfl, e1, (hb k e1 (h2 k rfl)).trans e2, e3⟩
  · obtain ⟨es, q1, q2⟩ := h3 j x hx
    refine ⟨es, q1, S.owns_keep q2 fun b o f => ?_⟩
    have h6 := h4 j b o f
    have h7 := hb b h6.1 h6.2.1
    exact ⟨World.cell?_of_block (a := ⟨b, o, none⟩) h7, World.frozen?_of_block (a := ⟨b, o, none⟩) h7⟩
theorem infoRow8 : (Try.prog.info? 38).map (fun i => (i.zero, i.size, i.bytes)) = some (some (.agg #[.slice none 0 0]), 1, 24) := by kernel_rfl
/-- waysToCut: the two numbers lie in cells of their own, which the iterator captures. -/
theorem waysToCut_in (n : Nat) (ops stages : Int) (w : World) :
    CallsIn Fence.wide n Try.prog 46 #[.int .i64 ops, .int .i64 stages] w fun e w' =>
      e = .returned (.func (.func 63) #[] #[.pointer (some ⟨w.heap.size, 0, none⟩), .pointer (some ⟨w.heap.size + 1, 0, none⟩)]) ∧
      w' = (w.alloc (.cells #[.int .i64 ops] 3 (0, 0))).alloc (.cells #[.int .i64 stages] 3 (0, 0)) := by
  refine callsIn_of_wp Try.func46 rfl trivial ?_ rfl
  simp only [Try.ntmps46, List.size_toArray, List.length_cons, List.length_nil, Nat.reduceAdd, Nat.reduceSub, Array.replicate_succ, Array.replicate_zero, List.push_toArray, List.append_toArray, List.nil_append, List.cons_append]
  gi_wp2
  go_ret
  exact ⟨by simp, rfl⟩
/-- What has come when so many have. -/
def rowsTo (ops stages : Int) (k : Nat) : List (List Int) := (List.range k).map (wayAt ops stages)
theorem rowsTo_length (ops stages : Int) (k : Nat) : (rowsTo ops stages k).length = k := by simp [rowsTo]
theorem rowsTo_succ (ops stages : Int) (k : Nat) : rowsTo ops stages (k + 1) = rowsTo ops stages k ++ [wayAt ops stages k] := by
  unfold rowsTo
  rw [List.range_succ, List.map_append]
  rfl
theorem rowsTo_all (ops stages : Int) : rowsTo ops stages (waysI ops stages).length = waysI ops stages := by
  refine List.ext_getElem (rowsTo_length _ _ _) fun j h1 h2 => ?_
  simp only [rowsTo, wayAt, List.getElem_map, List.getElem_range]
  rw [List.getD_eq_getElem?_getD, List.getElem?_eq_getElem h2]
  rfl
theorem waysI_few (ops stages : Int) : (waysI ops stages).length ≤ 35 ∧ ∀ l ∈ waysI ops stages, l.length ≤ 7 := by
  unfold waysI
  split
  · rename_i h
    have hw := ways_at (n := ops.toNat) (k := stages.toNat) (by omega) (by omega) (by omega)
    refine ⟨hw.few, fun l hl => ?_⟩
    obtain ⟨j, hj⟩ := List.getElem?_of_mem hl
    have := (hw.len j l hj).1
    omega
  · exact ⟨by simp, fun l hl => by cases hl⟩
/-- What lies between two rounds of AllCuts. -/
def AllInv (w : World) (lo : Nat) (ops stages : Int) (pre : List Value) (W : World) : Prop :=
  (∃ v hi, Boxed W w.heap.size 34 v ∧ ListL ownRow 38 lo hi W v (rowsTo ops stages pre.length)) ∧ Below w.heap.size w W ∧ Boxed W (w.heap.size + 1) 3 (.int .i64 ops) ∧ Boxed W (w.heap.size + 1 + 1) 3 (.int .i64 stages)
theorem allInv_own {w : World} {ops stages : Int} {S : Nat} (hS : w.heap.size + 3 ≤ S) : ∀ pre A B row, AllInv w (S + 3) ops stages pre A → A.grownBy B row → (∀ r, row = some r → S ≤ r ∧ r < S + 3) → AllInv w (S + 3) ops stages pre B := by
  rintro pre A B row ⟨⟨v, hi, h1, h2⟩, h3, h4, h5⟩ hg hr
  have hne : ∀ b, b < S → some b ≠ row := fun b hb e => by have := hr b e.symm; omega
  refine ⟨⟨v, hi, (hg.block _ h1.lt (hne _ (by omega))).trans h1, h2.same (fun k hk1 hk2 => hg.block k (Nat.lt_of_lt_of_le hk2 h2.top) fun e => by have := hr k e.symm; omega) (Nat.le_trans h2.top hg.size)⟩, ?_, (hg.block _ h4.lt (hne _ (by omega))).trans h4, (hg.block _ h5.lt (hne _ (by omega))).trans h5⟩
  exact ⟨hg.os.trans h3.os, hg.tape.trans h3.tape, hg.output.trans h3.output, Nat.le_trans h3.size hg.size, fun b hb => (hg.block b (Nat.lt_of_lt_of_le hb h3.size) (hne b (by omega))).trans (h3.block b hb)⟩
set_option maxRecDepth 100000 in
set_option maxHeartbeats 3000000 in
theorem implAllCuts_o (w : World) (ops stages : Int) :
    Calls Try.prog 17 #[.int .i64 ops, .int .i64 stages] w fun e w' => ∃ v, e = .returned v ∧ ListL ownRow 38 w.heap.size w'.heap.size w' v (waysI ops stages) ∧ Below w.heap.size w w' := by
  obtain ⟨j0, hj, hy0, hy1, hy2⟩ := info_parts infoRow8
  refine (callsIn_wide (n := 6)).1 ?_
  refine callsIn_of_wp_marks Try.func17 rfl trivial ?_ rfl
  simp only [Try.ntmps17, List.size_toArray, List.length_cons, List.length_nil, Nat.reduceAdd, Nat.reduceSub, Array.replicate_succ, Array.replicate_zero, List.push_toArray, List.append_toArray, List.nil_append, List.cons_append]
  have hA := (Below.refl w.heap.size w).alloc (Nat.le_refl _) (.cells #[.slice none 0 0] 34 (0, 0))
  have hb0 := Boxed.new w 34 (.slice none 0 0)
  have hs1 : (w.alloc (.cells #[.slice none 0 0] 34 (0, 0))).heap.size = w.heap.size + 1 := by simp
  gi_wp2
  generalize w.alloc (.cells #[.slice none 0 0] 34 (0, 0)) = wa at hA hb0 hs1 ⊢
  refine ⟨trivial, ?_⟩
  refine (waysToCut_in _ _ _ _).mono ?_
  rintro e w' ⟨rfl, rfl⟩
  have hB := ((Below.refl wa.heap.size wa).alloc (Nat.le_refl _) (.cells #[.int .i64 ops] 3 (0, 0))).alloc (by simp) (.cells #[.int .i64 stages] 3 (0, 0))
  have hb1 : Boxed ((wa.alloc (.cells #[.int .i64 ops] 3 (0, 0))).alloc (.cells #[.int .i64 stages] 3 (0, 0))) (w.heap.size + 1) 3 (.int .i64 ops) := by
    have := (Boxed.new wa 3 (.int .i64 ops)).alloc (.cells #[.int .i64 stages] 3 (0, 0))
    rw [hs1] at this
    exact this
  have hb2 : Boxed ((wa.alloc (.cells #[.int .i64 ops] 3 (0, 0))).alloc (.cells #[.int .i64 stages] 3 (0, 0))) (w.heap.size + 1 + 1) 3 (.int .i64 stages) := by
    have := Boxed.new (wa.alloc (.cells #[.int .i64 ops] 3 (0, 0))) 3 (.int .i64 stages)
    rw [World.size_alloc, hs1] at this
    exact this
  have hs3 : ((wa.alloc (.cells #[.int .i64 ops] 3 (0, 0))).alloc (.cells #[.int .i64 stages] 3 (0, 0))).heap.size = w.heap.size + 3 := by simp; omega
  have hb3 := (hb0.alloc (.cells #[.int .i64 ops] 3 (0, 0))).alloc (.cells #[.int .i64 stages] 3 (0, 0))
  have hA3 := hA.trans (hB.mono (by omega))
  clear hA hb0 hB
  gi_wp2
  generalize (wa.alloc (.cells #[.int .i64 ops] 3 (0, 0))).alloc (.cells #[.int .i64 stages] 3 (0, 0)) = W0 at hb1 hb2 hb3 hs3 hA3 ⊢
  have hI0 : AllInv w (W0.heap.size + 3) ops stages [] W0 := ⟨⟨_, W0.heap.size, hb3, ListL.nil _ _ (Nat.le_refl _)⟩, hA3, hb1, hb2⟩
  refine wpIn_rowsIter rfl (by omega) (gf := 63) (lb := #[.pointer (some ⟨w.heap.size + 1, 0, none⟩), .pointer (some ⟨w.heap.size + 1 + 1, 0, none⟩)]) rfl trivial (enters_of Try.func63 (by kernel_rfl) rfl)
    (Kp := KeepB w.heap.size (w.heap.size + 1) (w.heap.size + 1 + 1))
    (ways1_given _ (by omega) (w.heap.size + 1) (w.heap.size + 1 + 1) ops stages (KeepB w.heap.size (w.heap.size + 1) (w.heap.size + 1 + 1)) (fun X Y h => h.2) W0 _ _ hb1 hb2 _)
    keepB_t (keepB_b (by omega) (by omega) (by omega)) (Below.refl _ _) rfl
    (AllInv w (W0.heap.size + 3) ops stages) (allInv_own (by omega)) hI0 ?a1 ?assign ?body ?done
  case assign =>
    intro l x W K hK
    gi_wp2
    exact hK
  case body =>
    rintro l pre v U0 U1 ⟨⟨u, hi, h1, h2⟩, h3, h4, h5⟩ hsU hB hrow hlen
    obtain ⟨k, hk⟩ : ∃ k, pre.length = k := ⟨_, rfl⟩
    rw [hk] at h2 hrow hlen
    have hsB := hB.size
    have hli := (h2.below hB h2.top).wide (hi' := U0.heap.size) (Nat.le_refl _) h2.top hsB
    have hbx : Boxed U1 w.heap.size 34 u := (hB.block _ h1.lt).trans h1
    have hp1 : Boxed U1 (w.heap.size + 1) 3 (.int .i64 ops) := (hB.block _ h4.lt).trans h4
    have hp2 : Boxed U1 (w.heap.size + 1 + 1) 3 (.int .i64 stages) := (hB.block _ h5.lt).trans h5
    have hw1 : Below w.heap.size w U1 := h3.trans (hB.mono (by omega))
    obtain ⟨x, hx⟩ : ∃ x, wayAt ops stages k = x := ⟨_, rfl⟩
    rw [hx] at hrow
    obtain ⟨ar, cr, rfl, -⟩ := hrow.form
    obtain ⟨nr, hnr⟩ : ∃ nr, x.length = nr := ⟨_, rfl⟩
    rw [hnr] at hrow ⊢
    obtain ⟨au, cu, rfl, -, -⟩ := hli.form
    have hrl := rowsTo_length ops stages k
    have hnx : rowsTo ops stages (pre ++ [Value.slice ar nr cr]).length = rowsTo ops stages k ++ [x] := by
      rw [List.length_append, hk]
      show rowsTo ops stages (k + 1) = _
      rw [rowsTo_succ, hx]
    obtain ⟨xs, hxs⟩ : ∃ xs, rowsTo ops stages k = xs := ⟨_, rfl⟩
    rw [hxs] at hrl hli hbx hnx
    obtain ⟨us, G, g1, g2, g3, g4, g5⟩ := hli.all
    have hk35 := (waysI_few ops stages).1
    rw [hrl] at hbx
    have g1' : U1.ownsRow (W0.heap.size + 3) 38 1 (.slice au k cu) k us := by
      have g1k := g1
      rw [hrl] at g1k
      exact g1k
    have hP : Hid (∀ (w4 : World) (g cap : Nat), w4.ownsRow (W0.heap.size + 3) 38 1 (.slice (some ⟨g, 0, none⟩) (k + 1) cap) (k + 1) (us ++ [.slice ar nr cr]) → (U1.alloc (.cells #[.slice ar nr cr] 38 (0, 0))).grownBy w4 (Value.slice au k cu).ownBlock →
        ((Value.slice au k cu).ownBlock = some g ∨ g = (U1.alloc (.cells #[.slice ar nr cr] 38 (0, 0))).heap.size) →
        ListL ownRow 38 (W0.heap.size + 3) w4.heap.size w4 (.slice (some ⟨g, 0, none⟩) (k + 1) cap) (xs ++ [x]) ∧ Below (W0.heap.size + 3) U1 w4) := Lib.hid fun w4 g cap ho hgr hat => by
      have hown := hrow.ownRow
      exact ListL.put (S := ownRow) (T := 38) (lo := W0.heap.size + 3) (hi := U0.heap.size) (w := U1) (w' := w4) (v := .slice au xs.length cu) (v' := .slice (some ⟨g, 0, none⟩) (k + 1) cap) (xs := xs) (o := (.cells #[.slice ar nr cr] 38 (0, 0))) (x := x) (F := FromB U0.heap.size U1.heap.size)
        hsU g1 g2 hsB g3 g4 g5 hown (fun b o f => f) rfl (by rw [hrl]; exact ho) (by rw [hrl]; exact hgr) (by
          rcases hat with e | e
          · exact .inl (by rw [hrl]; exact e.symm)
          · exact .inr (congrArg some e))
    have hcells : Hid (∀ j o, (Value.slice au k cu).ownBlock = some j → U1.heap[j]? = some o → o.isCells = true) := Lib.hid fun j o e ho => by
      rcases g1'.2 with ⟨e1, -⟩ | ⟨g', cap', cur, e1, -, e3, -⟩
      · rw [e1] at e
        cases e
      · rw [e1] at e
        have e4 : g' = j := Option.some.inj e
        subst e4
        rw [e3] at ho
        cases ho
        rfl
    have HNX := Lib.hid hnx
    have HW1 := Lib.hid hw1
    have HP1 := Lib.hid hp1
    have HP2 := Lib.hid hp2
    have HBX := Lib.hid hbx
    have HG1 := Lib.hid g1'
    have HLO := Lib.hid (fun j (e : (Value.slice au k cu).ownBlock = some j) => World.ownsRow.lt g1' j e)
    have cx := hbx.cell
    have hlen' : k < 35 := by omega
    have hsU1 : W0.heap.size + 3 ≤ U1.heap.size := by omega
    have hsA : (U1.alloc (.cells #[.slice ar nr cr] 38 (0, 0))).heap.size = U1.heap.size + 1 := by simp
    have HSA := Lib.hid hsA
    have HXL := Lib.hid hrl
    clear h1 h2 h3 h4 h5 hB hrow hli hbx hp1 hp2 hw1 g1 g1' g2 g3 g4 g5 hnx hx hnr hxs hk hrl hsA hlen hk35
    gi_wp2_with (gi_at_builtin; refine wpListIn_append_at _ rfl _ _ 34 rfl (W0.heap.size + 3) 38 j0 (.agg #[.slice none 0 0]) 1 24 Try.underlying34 hj hy0 hy1 hy2 rfl (by decide) _ _ _ rfl (HG1.out.alloc _) ⟨U1.heap.size, 0, none⟩ 1 1 [.slice ar nr cr] rfl rfl (cell_one_new _ _ _) (slices_one _ _ _) (by decide) (by unfold maxLen; omega) (by omega) (by rw [HSA.out]; omega) _ rfl ?_; intro g4 cap4 w4 ho4 hg4 hat4 hlt4; obtain ⟨hl4, hb4⟩ := hP.out w4 g4 cap4 ho4 hg4 hat4; have hbx4 : Boxed w4 w.heap.size 34 (.slice au k cu) := (hb4.block _ (by omega)).trans HBX.out; have c4 := hbx4.cell; have f4 := hbx4.frozen; have HL4 := Lib.hid hl4; have HB4 := Lib.hid hb4; have HX4 := Lib.hid hbx4; have HGR4 := Lib.hid hg4; clear ho4 hg4 hat4 hl4 hb4 hbx4)
    have hs4 := HB4.out.size
    have hgr := HGR4.out
    have hne : ∀ b, b < W0.heap.size + 3 → b ≠ w.heap.size → (w4.setCell ⟨w.heap.size, 0, none⟩ (.slice (some ⟨g4, 0, none⟩) (k + 1) cap4)).heap[b]? = U1.heap[b]? := fun b hb h0 => (Below.heap_setCell _ _ _ _ h0).trans (HB4.out.block b hb)
    refine ⟨?_, hne _ (by omega) (by omega), ⟨?_, hne _ (by omega) (by omega), hne _ (by omega) (by omega)⟩, ⟨⟨_, w4.heap.size, HX4.out.set _, ?_⟩, ?_, (hne _ (by omega) (by omega)).trans HP1.out, (hne _ (by omega) (by omega)).trans HP2.out⟩⟩
    · refine (((KeepsOthers.alloc U1 _).trans (KeepsOthers.of_grownBy hgr fun j o ej hj => ?_)).trans (KeepsOthers.setCell _ _ _)).from _
      have hlt := (HLO.out j ej).2
      rw [Below.heap_alloc _ _ _ hlt] at hj
      exact hcells.out j o ej hj
    · exact (HB4.out.mono (show w.heap.size ≤ W0.heap.size + 3 by omega)).setCell (p := ⟨w.heap.size, 0, none⟩) (Nat.le_refl _) _
    · rw [HNX.out]
      have := HL4.out.stored w.heap.size 0 (.slice (some ⟨g4, 0, none⟩) (k + 1) cap4) (by omega)
      exact this
    · exact (HW1.out.trans (HB4.out.mono (show w.heap.size ≤ W0.heap.size + 3 by omega))).setCell (p := ⟨w.heap.size, 0, none⟩) (Nat.le_refl _) _
  case done =>
    rintro xs W hx ⟨⟨u, hi, h1, h2⟩, h3, h4, h5⟩ hK
    rw [hx, rowsTo_all] at h2
    have cx := h1.cell
    have HK := Lib.hid hK
    have H2 := Lib.hid h2
    have H3 := Lib.hid h3
    clear h1 h2 h3 h4 h5
    gi_wp2
    refine marks_ret1 rfl HK.out (results_tmp rfl _ _ _) ⟨u, rfl, ?_, below_put H3.out (by omega) HK.out _⟩
    have hsp : (W.putObj W0.heap.size (.deferred none)).heap.size = W.heap.size := by simp
    exact (H2.out.same (w' := W.putObj W0.heap.size (.deferred none)) (fun b hb1 hb2 => World.putObj_heap_other (by omega)) (by rw [hsp]; exact H2.out.top)).wide (by omega) (by rw [hsp]; exact H2.out.top) (Nat.le_refl _)
end Go.Proofs.Ytkmcfbopilieeaa

end
