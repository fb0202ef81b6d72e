import Derived.Test.YtkmcfbopilieeaaCutR
import Derived.Test.YtkmcfbopilieeaaSeqZ
import Derived.Test.YtkmcfbopilieeaaMatT
import Derived.Test.YtkmcfbopilieeaaGrow
import Derived.Deep.AppendLies
import Derived.Test.YtkmcfbopilieeaaSpecFix
import Derived.Test.YtkmcfbopilieeaaCutI
import Derived.Test.YtkmcfbopilieeaaCutS
import Derived.Lib.QuietBelow
import Derived.Test.YtkmcfbopilieeaaMark
import Derived.Test.YtkmcfbopilieeaaFew
/-! YtkmcfbopilieeaaCutW -/
section

namespace Go.Proofs.Ytkmcfbopilieeaa
open Go.RowKit Go.Shelf
set_option linter.unusedVariables false
attribute [local go_sem] Oper.semAt_some

/-- All ways, as they are told. -/
def waysI (ops stages : Int) : List (List Int) := if 1 ≤ stages ∧ stages ≤ ops ∧ ops ≤ 8 then ways ops.toNat stages.toNat else []
def wayAt (ops stages : Int) (p : Nat) : List Int := (waysI ops stages).getD p []
theorem waysI_no {ops stages : Int} (h : ¬ (1 ≤ stages ∧ stages ≤ ops ∧ ops ≤ 8)) : waysI ops stages = [] := if_neg h
theorem waysI_yes {n k : Nat} (h1 : 1 ≤ k) (h2 : k ≤ n) (h3 : n ≤ 8) : waysI n k = ways n k := by
  unfold waysI
  rw [if_pos ⟨by omega, by omega, by omega⟩, Int.toNat_natCast, Int.toNat_natCast]
theorem wayAt_get {n k p : Nat} (h1 : 1 ≤ k) (h2 : k ≤ n) (h3 : n ≤ 8) (hp : p < (ways n k).length) : (ways n k)[p]? = some (wayAt n k p) := by
  unfold wayAt
  rw [waysI_yes h1 h2 h3, List.getD_eq_getElem?_getD, List.getElem?_eq_getElem hp]
  rfl
theorem clone_notnil8 (b p n c : Nat) (w : World) : (binOp .eql 29 (.slice (some ⟨b, p, none⟩) n c) (.slice none 0 0)).run Try.prog w = .ok (.bool false) w := by kernel_rfl
theorem row_new {base : Nat} {w : World} {v : Value} {n : Nat} {ds : List Int} (h : w.ownsRow base 3 1 v (0 + n) ([] ++ icells ds)) : Row base w v ds := by
  have hl : ds.length = n := by
    have := h.1
    rw [List.nil_append, icells_length] at this
    omega
  unfold Row
  rw [hl]
  simpa using h
set_option maxRecDepth 100000 in
/-- A copy of numbers. -/
theorem implClone8 (w : World) (b p n c : Nat) (ds : List Int) (h : IntsIn w.heap.size w (some ⟨b, p, none⟩) n ds) :
    Calls Try.prog 66 #[.slice (some ⟨b, p, none⟩) n c] w (RowV w ds) := by
  obtain ⟨i0, hi0, hz0, hz1, hz2⟩ := info_parts Try.infoI64
  have hl := h.len
  have hroom := h.room
  have HY := Lib.hid h
  have HL := Lib.hid hl
  have hnn := clone_notnil8 b p n c
  have hE0 : (w.alloc (.cells #[] 3 (0, 0))).ownsRow w.heap.size 3 1 (.slice (some ⟨w.heap.size, 0, none⟩) 0 0) 0 [] := Row.empty w _ rfl
  clear h hl
  go_enter Try.func66, Try.ntmps66
  go_wp2_with (at_builtin; refine wpList_append_own _ rfl _ _ 29 rfl w.heap.size 3 i0 (.int .i64 0) 1 8 Try.underlying29 hi0 hz0 hz1 hz2 rfl (by decide) _ _ _ rfl hE0 ⟨b, p, none⟩ n c (icells ds) rfl (by rw [icells_length, HL.out, Nat.mul_one]) (ints_news (HY.out.below ((Below.refl w.heap.size w).alloc (Nat.le_refl _) _) (by omega))) (icells_one _) (by unfold maxLen; omega) (by omega) (by simp) ?_; intro v2 w2 hown hgrow _; have hr := row_new hown; have hb := ((Below.refl w.heap.size w).alloc (Nat.le_refl _) (.cells #[] 3 (0, 0))).grown hgrow (by simp) (fun k e => by cases e; exact Nat.le_refl _); have HR := Lib.hid hr; have HB := Lib.hid hb; clear hown hgrow hr hb)
  go_ret
  exact ⟨v2, rfl, HR.out, HB.out⟩
theorem Row.same {base g n c : Nat} {w w' : World} {xs : List Int} (h : Row base w (.slice (some ⟨g, 0, none⟩) n c) xs) (hg : w'.heap[g]? = w.heap[g]?) : Row base w' (.slice (some ⟨g, 0, none⟩) n c) xs := by
  refine ⟨h.1, ?_⟩
  rcases h.2 with h2 | ⟨g', cap, cur, e, h3, h4, h5⟩
  · exact .inl h2
  · refine .inr ⟨g', cap, cur, e, h3, ?_, h5⟩
    have e2 : g = g' := by
      simp only [Value.slice.injEq, Option.some.injEq, Addr.mk.injEq] at e
      exact e.1.1
    subst e2
    rw [hg]
    exact h4
theorem way_step {n k p : Nat} (h1 : 1 ≤ k) (h2 : k ≤ n) (h3 : n ≤ 8) (hp : p < (ways n k).length) :
    ∃ q, NextAt n (k - 1) (wayAt n k p) q ∧ q.isSome = decide (p + 1 < (ways n k).length) ∧ (p + 1 < (ways n k).length → nextL (wayAt n k p) q = wayAt n k (p + 1)) ∧ (wayAt n k p).length = k - 1 ∧ cutsB n (wayAt n k p) = true := by
  have hw := ways_at h1 h2 h3
  have hg := wayAt_get h1 h2 h3 hp
  obtain ⟨hl, hc⟩ := hw.len p _ hg
  by_cases hn : p + 1 < (ways n k).length
  · have hg' := wayAt_get h1 h2 h3 hn
    obtain ⟨i, i1, i2, i3, i4⟩ := hw.step p _ _ hg hg'
    exact ⟨some i, ⟨i1, i2, i3⟩, (decide_eq_true hn).symm, fun _ => i4.symm, hl, hc⟩
  · exact ⟨none, hw.last p _ hg (by omega), (decide_eq_false hn).symm, fun h => absurd h hn, hl, hc⟩
theorem way_range {n : Nat} {l : List Int} (hc : cutsB n l = true) (h8 : n ≤ 8) : ∀ j, j < l.length → 0 ≤ l.getD j 0 ∧ l.getD j 0 ≤ 8 := fun j hj => by
  have h1 := cuts_rise (cutsB_has hc) j (by omega)
  have h2 := cutAt_has (cutsB_has hc j hj)
  omega
/-- The row at a block, as it reads. -/
def readK (w : World) (g C : Nat) : List Int := mapK (fun j => match w.cell? ⟨g, j, none⟩ with | some (.int _ x) => x | _ => 0) C
theorem row_read {base g C c : Nat} {w : World} {l : List Int} (h : Row base w (.slice (some ⟨g, 0, none⟩) C c) l) (hl : l.length = C) : readK w g C = l := by
  have h1 : w.ownsRow base 3 1 (.slice (some ⟨g, 0, none⟩) C c) C (icells l) := by
    unfold Row at h
    rw [hl] at h
    exact h
  refine List.ext_getElem (by unfold readK; rw [mapK_length, hl]) fun j h2 h3 => ?_
  have hj : j < C := by omega
  have e2 := mapK_get (fun j => match w.cell? ⟨g, j, none⟩ with | some (.int _ x) => x | _ => 0) C j hj
  rw [List.getD_eq_getElem?_getD, List.getElem?_eq_getElem (by rw [mapK_length]; exact hj)] at e2
  simp only [Option.getD_some] at e2
  refine Eq.trans e2 ?_
  rw [World.ownsRow.cellAt h1 j (by omega), icells_get l j h3]
  simp [List.getD, h3]
/-- How much is still to come. -/
def leftW (g C : Nat) (t : Value) (w : World) : Nat := match t with
  | .bool true => 5000001 - rankW (readK w g C)
  | _ => 0
theorem row_ints8 {base g C c : Nat} {w : World} {xs : List Int} (h : Row base w (.slice (some ⟨g, 0, none⟩) C c) xs) (hl : xs.length = C) (hr : C ≤ 1048576) : IntsIn w.heap.size w (some ⟨g, 0, none⟩) C xs := by
  subst hl
  obtain ⟨a', c', e, hi⟩ := h.form
  cases e
  exact hi hr
set_option maxRecDepth 100000 in
set_option maxHeartbeats 3000000 in
theorem ways1_given (n : Nat) (hn : 1 ≤ n) (B1 B2 : Nat) (ops stages : Int) (Kp : World → World → Prop) (hKp : ∀ X Y, Kp X Y → Y.heap[B1]? = X.heap[B1]? ∧ Y.heap[B2]? = X.heap[B2]?) (w : World) (t1 t2 : TypeId) (h1 : Boxed w B1 t1 (.int .i64 ops)) (h2 : Boxed w B2 t2 (.int .i64 stages)) (b0 : Nat) :
    RowsGiven Fence.wide n Try.prog 63 #[.pointer (some ⟨B1, 0, none⟩), .pointer (some ⟨B2, 0, none⟩)] Kp (wayAt ops stages) (waysI ops stages).length w b0 := by
  intro l J W hW hb0 hJ hY h0
  subst hb0
  have g1 : Boxed W B1 t1 (.int .i64 ops) := (hW.block B1 h1.lt).trans h1
  have g2 : Boxed W B2 t2 (.int .i64 stages) := (hW.block B2 h2.lt).trans h2
  have c1 := g1.cell
  have c2 := g2.cell
  have HY := Lib.hid hY
  have HJ := Lib.hid hJ
  have H0 := Lib.hid h0
  have G1 := Lib.hid g1
  have G2 := Lib.hid g2
  clear hY hJ h0 hW h1 h2 g1 g2
  refine callsIn_of_wp Try.func63 rfl trivial ?_ rfl
  simp only [Try.ntmps63, List.size_toArray, List.length_cons, List.length_nil, Nat.reduceAdd, Nat.reduceSub, Array.replicate_succ, Array.replicate_zero, List.push_toArray, List.append_toArray, List.nil_append, List.cons_append]
  by_cases ha : ops > 8
  · have hN : (waysI ops stages).length = 0 := by rw [waysI_no (by omega)]; rfl
    have HN := Lib.hid hN
    clear hN
    have d1 : decide (ops > 8) = true := decide_eq_true ha
    have d1' : 8 < ops := ha
    gi_wp2
    refine bodyPost_ret (results_none rfl _ _ _) rfl ⟨⟨_, rfl⟩, [], by rw [HN.out]; rfl, H0.out⟩
  · have d1 : decide (ops > 8) = false := decide_eq_false ha
    by_cases hb : stages < 1
    · have hN : (waysI ops stages).length = 0 := by rw [waysI_no (by omega)]; rfl
      have HN := Lib.hid hN
      clear hN
      have d2 : decide (stages < 1) = true := decide_eq_true hb
      gi_wp2
      refine bodyPost_ret (results_none rfl _ _ _) rfl ⟨⟨_, rfl⟩, [], by rw [HN.out]; rfl, H0.out⟩
    · have d2 : decide (stages < 1) = false := decide_eq_false hb
      by_cases hc : stages > ops
      · have hN : (waysI ops stages).length = 0 := by rw [waysI_no (by omega)]; rfl
        have HN := Lib.hid hN
        clear hN
        have d3 : decide (stages > ops) = true := decide_eq_true hc
        gi_wp2
        refine bodyPost_ret (results_none rfl _ _ _) rfl ⟨⟨_, rfl⟩, [], by rw [HN.out]; rfl, H0.out⟩
      · have d3 : decide (stages > ops) = false := decide_eq_false hc
        obtain ⟨m, rfl⟩ : ∃ m : Nat, ops = m := ⟨ops.toNat, by omega⟩
        obtain ⟨k, rfl⟩ : ∃ k : Nat, stages = k := ⟨stages.toNat, by omega⟩
        have m8 : m ≤ 8 := by omega
        have k1 : 1 ≤ k := by omega
        have km : k ≤ m := by omega
        obtain ⟨C, hC⟩ : ∃ C, k - 1 = C := ⟨_, rfl⟩
        have hw1 : (k : Int) - 1 = (C : Int) := by omega
        have hC7 : C ≤ 7 := by omega
        have hmk := run_make_many (P := Try.prog) 29 3 _ 1 8 Try.underlying29 Try.infoI64 C (by omega) (by omega)
        have hms := Row.made W C (by omega)
        have hbs : Below W.heap.size W (W.alloc (.cells (madeCells #[.int .i64 0] C) 3 (0, 0))) := (Below.refl _ _).alloc (Nat.le_refl _) _
        have hsz : (W.alloc (.cells (madeCells #[.int .i64 0] C) 3 (0, 0))).heap.size = W.heap.size + 1 := by simp
        have hJ1 : J [] (W.alloc (.cells (madeCells #[.int .i64 0] C) 3 (0, 0))) := HJ.out _ _ _ H0.out (World.grownBy_alloc W _ _)
        have HMS := Lib.hid hms
        have HBS := Lib.hid hbs
        have HJ1 := Lib.hid hJ1
        have hw8 := ways_at k1 km m8
        have HW8 := Lib.hid hw8
        have HNW : Hid ((waysI (m : Int) (k : Int)).length = (ways m k).length) := Lib.hid (by rw [waysI_yes k1 km m8])
        have hsome := hw8.some
        have hB1 : B1 < W.heap.size := G1.out.lt
        have hB2 : B2 < W.heap.size := G2.out.lt
        have HC := Lib.hid hC
        clear hms hbs hJ1 hw8 hC
        gi_wp2
        generalize W.alloc (.cells (madeCells #[.int .i64 0] C) 3 (0, 0)) = wa at HMS HBS HJ1 hsz ⊢
        clear hmk
        refine ⟨trivial, ?_⟩
        have hT := (implRiseFrom_any wa W.heap.size W.heap.size C C (noughts C) HMS.out (by unfold noughts; simp) hC7 0 (Nat.zero_le _) C 1 ⟨by omega, by omega⟩)
        rw [Nat.sub_zero] at hT
        have HT := Lib.hid hT
        clear hT
        with_reducible refine (callsIn_wide.2 HT.out).mono ?_
        rintro e w1 ⟨⟨v, rfl⟩, hr, hg⟩
        rw [show noughts C = List.replicate C 0 from rfl, rise_first] at hr
        have hf : firstW C = wayAt m k 0 := by
          have e1 := HW8.out.first
          rw [wayAt_get k1 km m8 hsome, HC.out] at e1
          exact (Option.some.inj e1).symm
        rw [hf] at hr
        have hJ2 : J [] w1 := HJ.out _ _ _ HJ1.out hg
        have q1 : Boxed w1 B1 t1 (.int .i64 m) := (hg.block B1 (by omega) (fun e => by have := Option.some.inj e; omega)).trans ((HBS.out.block B1 hB1).trans G1.out)
        have q2 : Boxed w1 B2 t2 (.int .i64 k) := (hg.block B2 (by omega) (fun e => by have := Option.some.inj e; omega)).trans ((HBS.out.block B2 hB2).trans G2.out)
        have hs1 : W.heap.size < w1.heap.size := by have := hg.size; omega
        have HR1 := Lib.hid hr
        have HJ2 := Lib.hid hJ2
        have Q1 := Lib.hid q1
        have Q2 := Lib.hid q2
        clear hr hg hJ2 q1 q2 hf c1 c2 HT
        gi_wp2
        gi_loopw [5] (fun t wr => ∃ (p : Nat) (pre : List Value), pre.length = p ∧ p ≤ (ways m k).length ∧ t = .bool (decide (p < (ways m k).length)) ∧ J pre wr ∧ (p < (ways m k).length → Row W.heap.size wr (.slice (some ⟨W.heap.size, 0, none⟩) C C) (wayAt m k p)) ∧ Boxed wr B1 t1 (.int .i64 m) ∧ Boxed wr B2 t2 (.int .i64 k) ∧ W.heap.size < wr.heap.size)
          (leftW W.heap.size C)
        case atStart => exact ⟨0, [], rfl, Nat.zero_le _, by rw [decide_eq_true (show 0 < (ways m k).length by omega)], HJ2.out, fun _ => HR1.out, Q1.out, Q2.out, hs1⟩
        case round =>
          obtain ⟨p, pre, hpl, hp, rfl, hJp, hrp, b1, b2, hsw⟩ := hrel
          by_cases hlt : p < (ways m k).length
          · obtain ⟨q, hq, hqs, hqn, hll, hcc⟩ := way_step k1 km m8 hlt
            rw [HC.out] at hq hll
            have hrow := hrp hlt
            have hrange := way_range hcc m8
            rw [hll] at hrange
            obtain ⟨L, hL⟩ : ∃ L, wayAt m k p = L := ⟨_, rfl⟩
            rw [hL] at hrow hq hqn hll hrange
            have hcl := implClone8 wr W.heap.size 0 C C L (row_ints8 hrow hll (by omega))
            have HCL := Lib.hid hcl
            have HRW := Lib.hid hrow
            have HQ := Lib.hid hq
            have HQS := Lib.hid hqs
            have HQN := Lib.hid hqn
            have HLL := Lib.hid hll
            have HRG := Lib.hid hrange
            have HL := Lib.hid hL
            have HJP := Lib.hid hJp
            have P1 := Lib.hid b1
            have P2 := Lib.hid b2
            have HPL := Lib.hid hpl
            have hlen : p < (waysI (m : Int) (k : Int)).length := by rw [HNW.out]; exact hlt
            rw [decide_eq_true hlt]
            clear hrow hq hqs hqn hll hcc hrange hL hcl hJp b1 b2 hrp hpl
            gi_wp2
            refine ⟨trivial, ?_⟩
            refine (callsIn_wide.2 HCL.out).mono ?_
            rintro e W1 ⟨v, rfl, hr1, hb1⟩
            obtain ⟨fn, tmps, assign, body, hy, hR⟩ := HY.out pre v wr W1 HJP.out hsw hb1 (by rw [HPL.out, HL.out]; exact hr1) (by rw [HPL.out]; exact hlen)
            have HR := Lib.hid hR
            have HB1 := Lib.hid hb1
            have hs1' := hb1.size
            clear hR hr1 hb1 HCL
            gi_wp2
            refine HR.out.mono ?_
            rintro e W3 ⟨rfl, hJ3, hk3, hb3, hs3⟩
            obtain ⟨k1', k2'⟩ := hKp _ _ hk3
            have hbw := HB1.out
            have p1 : Boxed W3 B1 t1 (.int .i64 m) := k1'.trans ((hbw.block B1 (by omega)).trans P1.out)
            have p2 : Boxed W3 B2 t2 (.int .i64 k) := k2'.trans ((hbw.block B2 (by omega)).trans P2.out)
            have hrow3 := Row.same (HRW.out.below hbw) hb3
            have HT := Lib.hid (implToNextWay_any W3 W.heap.size W.heap.size C C L m hrow3 HLL.out hC7 m8 (Nat.le_refl _) (by omega) HRG.out q HQ.out)
            have c1 := p1.cell
            have PP1 := Lib.hid p1
            have PP2 := Lib.hid p2
            have HJ3 := Lib.hid hJ3
            have hsz3 : W.heap.size < W3.heap.size := by omega
            clear hJ3 hk3 hb3 k1' k2' hbw p1 p2 hrow3 HR
            gi_wp2
            refine ⟨trivial, ?_⟩
            refine (callsIn_wide.2 HT.out).mono ?_
            rintro e W4 ⟨rfl, hr4, hg4⟩
            have hs4 := hg4.size
            have HR4 := Lib.hid hr4
            have HG4 := Lib.hid hg4
            clear hr4 hg4 c1 HT
            gi_wp2
            go_roundw
            case rel =>
              refine ⟨p + 1, pre ++ [v], by rw [List.length_append, HPL.out]; rfl, by omega, by rw [HQS.out], HJ.out _ _ _ HJ3.out HG4.out, fun h => ?_, (HG4.out.block B1 (by omega) (fun e => by have := Option.some.inj e; omega)).trans PP1.out, (HG4.out.block B2 (by omega) (fun e => by have := Option.some.inj e; omega)).trans PP2.out, by omega⟩
              rw [← HQN.out h]
              exact HR4.out
            case measure =>
              have hrk := ranked_in k1 km m8
              have hg0 := wayAt_get k1 km m8 hlt
              have ht := ranked_top hrk hg0
              rw [HL.out] at ht hg0
              have e0 := row_read HRW.out HLL.out
              show leftW W.heap.size C (.bool q.isSome) W4 < leftW W.heap.size C (.bool true) wr
              have e1 : leftW W.heap.size C (.bool true) wr = 5000001 - rankW L := by unfold leftW; rw [e0]
              rw [e1]
              by_cases hn1 : p + 1 < (ways m k).length
              · have hg1 := wayAt_get k1 km m8 hn1
                have hst := ranked_step hrk hg0 hg1
                have ht1 := ranked_top hrk hg1
                have hr4 := HR4.out
                rw [HQN.out hn1] at hr4
                have hl1 : (wayAt m k (p + 1)).length = C := by rw [(HW8.out.len _ _ hg1).1, HC.out]
                have e2 := row_read hr4 hl1
                have e3 : leftW W.heap.size C (.bool true) W4 = 5000001 - rankW (wayAt m k (p + 1)) := by unfold leftW; rw [e2]
                rw [HQS.out, decide_eq_true hn1, e3]
                omega
              · have e3 : leftW W.heap.size C (.bool false) W4 = 0 := rfl
                rw [HQS.out, decide_eq_false hn1, e3]
                omega
          · rw [decide_eq_false hlt]
            have HJP := Lib.hid hJp
            clear hJp hrp b1 b2
            gi_wp2
            go_end0
            exact ⟨⟨_, rfl⟩, pre, by rw [HNW.out]; omega, HJP.out⟩
end Go.Proofs.Ytkmcfbopilieeaa

end

/-! YtkmcfbopilieeaaCutA -/
section

namespace Go.Proofs.Ytkmcfbopilieeaa
open Go.RowKit Go.Shelf
set_option linter.unusedVariables false
attribute [local go_sem] Oper.semAt_some

theorem wpListIn_append_at {F : Fence} {n : Nat} {P : Program} (w : World) {ops : Array Oper} {rest : List Oper} {o : Oper} {a : Act} {Q : Exit → Act → World → Prop}
    (hg : o.guard = none) (s x : Operand) (t : TypeId) (hop : o.op = Op.call { callee := Callee.builtin Builtin.append, args := #[s, x], argTypes := #[t, t] })
    (base : Nat) (e : TypeId) (i : TypeInfo) (z : Value) (size bytes : Nat) (h1 : P.underlying t = some (.slice e)) (h2 : P.info? e = some i) (h3 : i.zero = some z) (h4 : i.size = size) (h5 : i.bytes = bytes) (h6 : z.cells.size = size) (h7 : 0 < size)
    (v : Value) (k : Nat) (xs : List Value) (hs : a.eval s = v) (hown : w.ownsRow base e size v k xs) (ad : Addr) (m c : Nat) (news : List Value) (hx : a.eval x = .slice (some ad) m c) (hn : news.length = m * size)
    (hc : ∀ j u, news[j]? = some u → w.cell? (ad.add j) = some u) (h1c : ∀ u ∈ news, u.oneCell' = true) (hm : 0 < m) (b1 : k + m ≤ maxLen) (b2 : (k + m) * bytes ≤ 140737488355328) (b3 : base ≤ w.heap.size) (H : Nat) (hH : w.heap.size = H)
    (hK : ∀ g cap w', w'.ownsRow base e size (.slice (some ⟨g, 0, none⟩) (k + m) cap) (k + m) (xs ++ news) → w.grownBy w' v.ownBlock → (v.ownBlock = some g ∨ g = H) → g < w'.heap.size → wpListIn F n P ops Q rest (a.put o.dst (.slice (some ⟨g, 0, none⟩) (k + m) cap)) w') :
    wpListIn F n P ops Q (o :: rest) a w := by
  refine wpListIn_plain hg fun K hK' => ?_
  obtain ⟨g, cap, w', hrun, r1, r2, r3, r4⟩ := run_append_lies (P := P) w t o.type base e i z size bytes h1 h2 h3 h4 h5 h6 h7 v k xs hown ad m c news hn hc h1c hm b1 b2 b3 H hH
  unfold Oper.wpIn
  refine ⟨?_, ?_⟩
  · simp [Oper.about, hop, resolve, Target.leads, Sem.run_pure]
  · rw [Oper.semAt_plain F _ _ (by rw [hop]; intro c hc'; cases hc')]
    simp [execOp, hop, resolve, invoke, builtin, hs, hx, hrun, Result.andThen]
    exact hK' _ _ (hK g cap w' r1 r2 r3 r4)
theorem ListL.same {α : Type} {S : Owned α} {T : TypeId} {lo hi : Nat} {w w' : World} {v : Value} {xs : List α} (h : ListL S T lo hi w v xs) (hb : ∀ k, lo ≤ k → k < hi → w'.heap[k]? = w.heap[k]?) (ht : hi ≤ w'.heap.size) : ListL S T lo hi w' v xs := by
  obtain ⟨us, G, h1, h2, h3, h4, h5⟩ := h.all
  refine ⟨ht, us, G, ⟨h1.1, h1.2.imp id ?_⟩, h2, fun j x hx => ?_, h4, h5⟩
  · rintro ⟨k, cap, cur, rfl, e1, e2, e3⟩
    exact ⟨k, cap, cur, rfl, e1, (hb k e1 (h2 k rfl)).trans e2, e3⟩
  · obtain ⟨es, q1, q2⟩ := h3 j x hx
    refine ⟨es, q1, S.owns_keep q2 fun b o f => ?_⟩
    have h6 := h4 j b o f
    have h7 := hb b h6.1 h6.2.1
    exact ⟨World.cell?_of_block (a := ⟨b, o, none⟩) h7, World.frozen?_of_block (a := ⟨b, o, none⟩) h7⟩
theorem infoRow8 : (Try.prog.info? 38).map (fun i => (i.zero, i.size, i.bytes)) = some (some (.agg #[.slice none 0 0]), 1, 24) := by kernel_rfl
/-- waysToCut: the two numbers lie in cells of their own, which the iterator captures. -/
theorem waysToCut_in (n : Nat) (ops stages : Int) (w : World) :
    CallsIn Fence.wide n Try.prog 46 #[.int .i64 ops, .int .i64 stages] w fun e w' =>
      e = .returned (.func (.func 63) #[] #[.pointer (some ⟨w.heap.size, 0, none⟩), .pointer (some ⟨w.heap.size + 1, 0, none⟩)]) ∧
      w' = (w.alloc (.cells #[.int .i64 ops] 3 (0, 0))).alloc (.cells #[.int .i64 stages] 3 (0, 0)) := by
  refine callsIn_of_wp Try.func46 rfl trivial ?_ rfl
  simp only [Try.ntmps46, List.size_toArray, List.length_cons, List.length_nil, Nat.reduceAdd, Nat.reduceSub, Array.replicate_succ, Array.replicate_zero, List.push_toArray, List.append_toArray, List.nil_append, List.cons_append]
  gi_wp2
  go_ret
  exact ⟨by simp, rfl⟩
/-- What has come when so many have. -/
def rowsTo (ops stages : Int) (k : Nat) : List (List Int) := (List.range k).map (wayAt ops stages)
theorem rowsTo_length (ops stages : Int) (k : Nat) : (rowsTo ops stages k).length = k := by simp [rowsTo]
theorem rowsTo_succ (ops stages : Int) (k : Nat) : rowsTo ops stages (k + 1) = rowsTo ops stages k ++ [wayAt ops stages k] := by
  unfold rowsTo
  rw [List.range_succ, List.map_append]
  rfl
theorem rowsTo_all (ops stages : Int) : rowsTo ops stages (waysI ops stages).length = waysI ops stages := by
  refine List.ext_getElem (rowsTo_length _ _ _) fun j h1 h2 => ?_
  simp only [rowsTo, wayAt, List.getElem_map, List.getElem_range]
  rw [List.getD_eq_getElem?_getD, List.getElem?_eq_getElem h2]
  rfl
theorem waysI_few (ops stages : Int) : (waysI ops stages).length ≤ 35 ∧ ∀ l ∈ waysI ops stages, l.length ≤ 7 := by
  unfold waysI
  split
  · rename_i h
    have hw := ways_at (n := ops.toNat) (k := stages.toNat) (by omega) (by omega) (by omega)
    refine ⟨hw.few, fun l hl => ?_⟩
    obtain ⟨j, hj⟩ := List.getElem?_of_mem hl
    have := (hw.len j l hj).1
    omega
  · exact ⟨by simp, fun l hl => by cases hl⟩
/-- What lies between two rounds of AllCuts. -/
def AllInv (w : World) (lo : Nat) (ops stages : Int) (pre : List Value) (W : World) : Prop :=
  (∃ v hi, Boxed W w.heap.size 34 v ∧ ListL ownRow 38 lo hi W v (rowsTo ops stages pre.length)) ∧ Below w.heap.size w W ∧ Boxed W (w.heap.size + 1) 3 (.int .i64 ops) ∧ Boxed W (w.heap.size + 1 + 1) 3 (.int .i64 stages)
theorem allInv_own {w : World} {ops stages : Int} {S : Nat} (hS : w.heap.size + 3 ≤ S) : ∀ pre A B row, AllInv w (S + 3) ops stages pre A → A.grownBy B row → (∀ r, row = some r → S ≤ r ∧ r < S + 3) → AllInv w (S + 3) ops stages pre B := by
  rintro pre A B row ⟨⟨v, hi, h1, h2⟩, h3, h4, h5⟩ hg hr
  have hne : ∀ b, b < S → some b ≠ row := fun b hb e => by have := hr b e.symm; omega
  refine ⟨⟨v, hi, (hg.block _ h1.lt (hne _ (by omega))).trans h1, h2.same (fun k hk1 hk2 => hg.block k (Nat.lt_of_lt_of_le hk2 h2.top) fun e => by have := hr k e.symm; omega) (Nat.le_trans h2.top hg.size)⟩, ?_, (hg.block _ h4.lt (hne _ (by omega))).trans h4, (hg.block _ h5.lt (hne _ (by omega))).trans h5⟩
  exact ⟨hg.os.trans h3.os, hg.tape.trans h3.tape, hg.output.trans h3.output, Nat.le_trans h3.size hg.size, fun b hb => (hg.block b (Nat.lt_of_lt_of_le hb h3.size) (hne b (by omega))).trans (h3.block b hb)⟩
set_option maxRecDepth 100000 in
set_option maxHeartbeats 3000000 in
theorem implAllCuts_o (w : World) (ops stages : Int) :
    Calls Try.prog 17 #[.int .i64 ops, .int .i64 stages] w fun e w' => ∃ v, e = .returned v ∧ ListL ownRow 38 w.heap.size w'.heap.size w' v (waysI ops stages) ∧ Below w.heap.size w w' := by
  obtain ⟨j0, hj, hy0, hy1, hy2⟩ := info_parts infoRow8
  refine (callsIn_wide (n := 6)).1 ?_
  refine callsIn_of_wp_marks Try.func17 rfl trivial ?_ rfl
  simp only [Try.ntmps17, List.size_toArray, List.length_cons, List.length_nil, Nat.reduceAdd, Nat.reduceSub, Array.replicate_succ, Array.replicate_zero, List.push_toArray, List.append_toArray, List.nil_append, List.cons_append]
  have hA := (Below.refl w.heap.size w).alloc (Nat.le_refl _) (.cells #[.slice none 0 0] 34 (0, 0))
  have hb0 := Boxed.new w 34 (.slice none 0 0)
  have hs1 : (w.alloc (.cells #[.slice none 0 0] 34 (0, 0))).heap.size = w.heap.size + 1 := by simp
  gi_wp2
  generalize w.alloc (.cells #[.slice none 0 0] 34 (0, 0)) = wa at hA hb0 hs1 ⊢
  refine ⟨trivial, ?_⟩
  refine (waysToCut_in _ _ _ _).mono ?_
  rintro e w' ⟨rfl, rfl⟩
  have hB := ((Below.refl wa.heap.size wa).alloc (Nat.le_refl _) (.cells #[.int .i64 ops] 3 (0, 0))).alloc (by simp) (.cells #[.int .i64 stages] 3 (0, 0))
  have hb1 : Boxed ((wa.alloc (.cells #[.int .i64 ops] 3 (0, 0))).alloc (.cells #[.int .i64 stages] 3 (0, 0))) (w.heap.size + 1) 3 (.int .i64 ops) := by
    have := (Boxed.new wa 3 (.int .i64 ops)).alloc (.cells #[.int .i64 stages] 3 (0, 0))
    rw [hs1] at this
    exact this
  have hb2 : Boxed ((wa.alloc (.cells #[.int .i64 ops] 3 (0, 0))).alloc (.cells #[.int .i64 stages] 3 (0, 0))) (w.heap.size + 1 + 1) 3 (.int .i64 stages) := by
    have := Boxed.new (wa.alloc (.cells #[.int .i64 ops] 3 (0, 0))) 3 (.int .i64 stages)
    rw [World.size_alloc, hs1] at this
    exact this
  have hs3 : ((wa.alloc (.cells #[.int .i64 ops] 3 (0, 0))).alloc (.cells #[.int .i64 stages] 3 (0, 0))).heap.size = w.heap.size + 3 := by simp; omega
  have hb3 := (hb0.alloc (.cells #[.int .i64 ops] 3 (0, 0))).alloc (.cells #[.int .i64 stages] 3 (0, 0))
  have hA3 := hA.trans (hB.mono (by omega))
  clear hA hb0 hB
  gi_wp2
  generalize (wa.alloc (.cells #[.int .i64 ops] 3 (0, 0))).alloc (.cells #[.int .i64 stages] 3 (0, 0)) = W0 at hb1 hb2 hb3 hs3 hA3 ⊢
  have hI0 : AllInv w (W0.heap.size + 3) ops stages [] W0 := ⟨⟨_, W0.heap.size, hb3, ListL.nil _ _ (Nat.le_refl _)⟩, hA3, hb1, hb2⟩
  refine wpIn_rowsIter rfl (by omega) (gf := 63) (lb := #[.pointer (some ⟨w.heap.size + 1, 0, none⟩), .pointer (some ⟨w.heap.size + 1 + 1, 0, none⟩)]) rfl trivial (enters_of Try.func63 (by kernel_rfl) rfl)
    (Kp := KeepB w.heap.size (w.heap.size + 1) (w.heap.size + 1 + 1))
    (ways1_given _ (by omega) (w.heap.size + 1) (w.heap.size + 1 + 1) ops stages (KeepB w.heap.size (w.heap.size + 1) (w.heap.size + 1 + 1)) (fun X Y h => h.2) W0 _ _ hb1 hb2 _)
    keepB_t (keepB_b (by omega) (by omega) (by omega)) (Below.refl _ _) rfl
    (AllInv w (W0.heap.size + 3) ops stages) (allInv_own (by omega)) hI0 ?a1 ?assign ?body ?done
  case assign =>
    intro l x W K hK
    gi_wp2
    exact hK
  case body =>
    rintro l pre v U0 U1 ⟨⟨u, hi, h1, h2⟩, h3, h4, h5⟩ hsU hB hrow hlen
    obtain ⟨k, hk⟩ : ∃ k, pre.length = k := ⟨_, rfl⟩
    rw [hk] at h2 hrow hlen
    have hsB := hB.size
    have hli := (h2.below hB h2.top).wide (hi' := U0.heap.size) (Nat.le_refl _) h2.top hsB
    have hbx : Boxed U1 w.heap.size 34 u := (hB.block _ h1.lt).trans h1
    have hp1 : Boxed U1 (w.heap.size + 1) 3 (.int .i64 ops) := (hB.block _ h4.lt).trans h4
    have hp2 : Boxed U1 (w.heap.size + 1 + 1) 3 (.int .i64 stages) := (hB.block _ h5.lt).trans h5
    have hw1 : Below w.heap.size w U1 := h3.trans (hB.mono (by omega))
    obtain ⟨x, hx⟩ : ∃ x, wayAt ops stages k = x := ⟨_, rfl⟩
    rw [hx] at hrow
    obtain ⟨ar, cr, rfl, -⟩ := hrow.form
    obtain ⟨nr, hnr⟩ : ∃ nr, x.length = nr := ⟨_, rfl⟩
    rw [hnr] at hrow ⊢
    obtain ⟨au, cu, rfl, -, -⟩ := hli.form
    have hrl := rowsTo_length ops stages k
    have hnx : rowsTo ops stages (pre ++ [Value.slice ar nr cr]).length = rowsTo ops stages k ++ [x] := by
      rw [List.length_append, hk]
      show rowsTo ops stages (k + 1) = _
      rw [rowsTo_succ, hx]
    obtain ⟨xs, hxs⟩ : ∃ xs, rowsTo ops stages k = xs := ⟨_, rfl⟩
    rw [hxs] at hrl hli hbx hnx
    obtain ⟨us, G, g1, g2, g3, g4, g5⟩ := hli.all
    have hk35 := (waysI_few ops stages).1
    rw [hrl] at hbx
    have g1' : U1.ownsRow (W0.heap.size + 3) 38 1 (.slice au k cu) k us := by
      have g1k := g1
      rw [hrl] at g1k
      exact g1k
    have hP : Hid (∀ (w4 : World) (g cap : Nat), w4.ownsRow (W0.heap.size + 3) 38 1 (.slice (some ⟨g, 0, none⟩) (k + 1) cap) (k + 1) (us ++ [.slice ar nr cr]) → (U1.alloc (.cells #[.slice ar nr cr] 38 (0, 0))).grownBy w4 (Value.slice au k cu).ownBlock →
        ((Value.slice au k cu).ownBlock = some g ∨ g = (U1.alloc (.cells #[.slice ar nr cr] 38 (0, 0))).heap.size) →
        ListL ownRow 38 (W0.heap.size + 3) w4.heap.size w4 (.slice (some ⟨g, 0, none⟩) (k + 1) cap) (xs ++ [x]) ∧ Below (W0.heap.size + 3) U1 w4) := Lib.hid fun w4 g cap ho hgr hat => by
      have hown := hrow.ownRow
      exact ListL.put (S := ownRow) (T := 38) (lo := W0.heap.size + 3) (hi := U0.heap.size) (w := U1) (w' := w4) (v := .slice au xs.length cu) (v' := .slice (some ⟨g, 0, none⟩) (k + 1) cap) (xs := xs) (o := (.cells #[.slice ar nr cr] 38 (0, 0))) (x := x) (F := FromB U0.heap.size U1.heap.size)
        hsU g1 g2 hsB g3 g4 g5 hown (fun b o f => f) rfl (by rw [hrl]; exact ho) (by rw [hrl]; exact hgr) (by
          rcases hat with e | e
          · exact .inl (by rw [hrl]; exact e.symm)
          · exact .inr (congrArg some e))
    have hcells : Hid (∀ j o, (Value.slice au k cu).ownBlock = some j → U1.heap[j]? = some o → o.isCells = true) := Lib.hid fun j o e ho => by
      rcases g1'.2 with ⟨e1, -⟩ | ⟨g', cap', cur, e1, -, e3, -⟩
      · rw [e1] at e
        cases e
      · rw [e1] at e
        have e4 : g' = j := Option.some.inj e
        subst e4
        rw [e3] at ho
        cases ho
        rfl
    have HNX := Lib.hid hnx
    have HW1 := Lib.hid hw1
    have HP1 := Lib.hid hp1
    have HP2 := Lib.hid hp2
    have HBX := Lib.hid hbx
    have HG1 := Lib.hid g1'
    have HLO := Lib.hid (fun j (e : (Value.slice au k cu).ownBlock = some j) => World.ownsRow.lt g1' j e)
    have cx := hbx.cell
    have hlen' : k < 35 := by omega
    have hsU1 : W0.heap.size + 3 ≤ U1.heap.size := by omega
    have hsA : (U1.alloc (.cells #[.slice ar nr cr] 38 (0, 0))).heap.size = U1.heap.size + 1 := by simp
    have HSA := Lib.hid hsA
    have HXL := Lib.hid hrl
    clear h1 h2 h3 h4 h5 hB hrow hli hbx hp1 hp2 hw1 g1 g1' g2 g3 g4 g5 hnx hx hnr hxs hk hrl hsA hlen hk35
    gi_wp2_with (gi_at_builtin; refine wpListIn_append_at _ rfl _ _ 34 rfl (W0.heap.size + 3) 38 j0 (.agg #[.slice none 0 0]) 1 24 Try.underlying34 hj hy0 hy1 hy2 rfl (by decide) _ _ _ rfl (HG1.out.alloc _) ⟨U1.heap.size, 0, none⟩ 1 1 [.slice ar nr cr] rfl rfl (cell_one_new _ _ _) (slices_one _ _ _) (by decide) (by unfold maxLen; omega) (by omega) (by rw [HSA.out]; omega) _ rfl ?_; intro g4 cap4 w4 ho4 hg4 hat4 hlt4; obtain ⟨hl4, hb4⟩ := hP.out w4 g4 cap4 ho4 hg4 hat4; have hbx4 : Boxed w4 w.heap.size 34 (.slice au k cu) := (hb4.block _ (by omega)).trans HBX.out; have c4 := hbx4.cell; have f4 := hbx4.frozen; have HL4 := Lib.hid hl4; have HB4 := Lib.hid hb4; have HX4 := Lib.hid hbx4; have HGR4 := Lib.hid hg4; clear ho4 hg4 hat4 hl4 hb4 hbx4)
    have hs4 := HB4.out.size
    have hgr := HGR4.out
    have hne : ∀ b, b < W0.heap.size + 3 → b ≠ w.heap.size → (w4.setCell ⟨w.heap.size, 0, none⟩ (.slice (some ⟨g4, 0, none⟩) (k + 1) cap4)).heap[b]? = U1.heap[b]? := fun b hb h0 => (Below.heap_setCell _ _ _ _ h0).trans (HB4.out.block b hb)
    refine ⟨?_, hne _ (by omega) (by omega), ⟨?_, hne _ (by omega) (by omega), hne _ (by omega) (by omega)⟩, ⟨⟨_, w4.heap.size, HX4.out.set _, ?_⟩, ?_, (hne _ (by omega) (by omega)).trans HP1.out, (hne _ (by omega) (by omega)).trans HP2.out⟩⟩
    · refine (((KeepsOthers.alloc U1 _).trans (KeepsOthers.of_grownBy hgr fun j o ej hj => ?_)).trans (KeepsOthers.setCell _ _ _)).from _
      have hlt := (HLO.out j ej).2
      rw [Below.heap_alloc _ _ _ hlt] at hj
      exact hcells.out j o ej hj
    · exact (HB4.out.mono (show w.heap.size ≤ W0.heap.size + 3 by omega)).setCell (p := ⟨w.heap.size, 0, none⟩) (Nat.le_refl _) _
    · rw [HNX.out]
      have := HL4.out.stored w.heap.size 0 (.slice (some ⟨g4, 0, none⟩) (k + 1) cap4) (by omega)
      exact this
    · exact (HW1.out.trans (HB4.out.mono (show w.heap.size ≤ W0.heap.size + 3 by omega))).setCell (p := ⟨w.heap.size, 0, none⟩) (Nat.le_refl _) _
  case done =>
    rintro xs W hx ⟨⟨u, hi, h1, h2⟩, h3, h4, h5⟩ hK
    rw [hx, rowsTo_all] at h2
    have cx := h1.cell
    have HK := Lib.hid hK
    have H2 := Lib.hid h2
    have H3 := Lib.hid h3
    clear h1 h2 h3 h4 h5
    gi_wp2
    refine marks_ret1 rfl HK.out (results_tmp rfl _ _ _) ⟨u, rfl, ?_, below_put H3.out (by omega) HK.out _⟩
    have hsp : (W.putObj W0.heap.size (.deferred none)).heap.size = W.heap.size := by simp
    exact (H2.out.same (w' := W.putObj W0.heap.size (.deferred none)) (fun b hb1 hb2 => World.putObj_heap_other (by omega)) (by rw [hsp]; exact H2.out.top)).wide (by omega) (by rw [hsp]; exact H2.out.top) (Nat.le_refl _)
end Go.Proofs.Ytkmcfbopilieeaa

end

/-! YtkmcfbopilieeaaCutB -/
section

namespace Go.Proofs.Ytkmcfbopilieeaa
open Go.RowKit
set_option linter.unusedVariables false

/-- A list of a call's own that leaves one block alone. -/
def ListM {α : Type} (S : Owned α) (T : TypeId) (lo hi g : Nat) (w : World) (v : Value) (xs : List α) : Prop :=
  hi ≤ w.heap.size ∧ g < hi ∧ ∃ (us : List Value) (G : Nat → Foot), w.ownsRow lo T S.size v xs.length us ∧ (∀ k, v.ownBlock = some k → k < hi ∧ k ≠ g) ∧
    (∀ j x, xs[j]? = some x → ∃ es, (∀ i u, es[i]? = some u → us[j * S.size + i]? = some u) ∧ S.owns (G j) w es x) ∧
    (∀ j b o, G j b o → lo ≤ b ∧ b < hi ∧ v.ownBlock ≠ some b ∧ b ≠ g) ∧ ∀ j j', j ≠ j' → Apart (G j) (G j')
section
variable {α : Type} {S : Owned α} {T : TypeId} {lo hi g : Nat} {w w' : World} {v v' : Value} {xs : List α}
theorem ListM.toL (h : ListM S T lo hi g w v xs) : ListL S T lo hi w v xs := by
  obtain ⟨h0, h1, us, G, h2, h3, h4, h5, h6⟩ := h
  exact ⟨h0, us, G, h2, fun k hk => (h3 k hk).1, h4, fun j b o f => ⟨(h5 j b o f).1, (h5 j b o f).2.1, (h5 j b o f).2.2.1⟩, h6⟩
theorem ListM.same {hi' : Nat} (h : ListM S T lo hi g w v xs) (hb : ∀ k, lo ≤ k → k < hi → k ≠ g → w'.heap[k]? = w.heap[k]?) (hh : hi ≤ hi') (ht : hi' ≤ w'.heap.size) : ListM S T lo hi' g w' v xs := by
  obtain ⟨h0, h1, us, G, h2, h3, h4, h5, h6⟩ := h
  refine ⟨ht, by omega, us, G, ⟨h2.1, h2.2.imp id ?_⟩, fun k hk => ⟨Nat.lt_of_lt_of_le (h3 k hk).1 hh, (h3 k hk).2⟩, fun j x hx => ?_, fun j b o f => ⟨(h5 j b o f).1, Nat.lt_of_lt_of_le (h5 j b o f).2.1 hh, (h5 j b o f).2.2⟩, h6⟩
  · rintro ⟨k, cap, cur, rfl, e1, e2, e3⟩
    exact ⟨k, cap, cur, rfl, e1, (hb k e1 (h3 k rfl).1 (h3 k rfl).2).trans e2, e3⟩
  · obtain ⟨es, q1, q2⟩ := h4 j x hx
    refine ⟨es, q1, S.owns_keep q2 fun b o f => ?_⟩
    have h7 := h5 j b o f
    have h8 := hb b h7.1 h7.2.1 h7.2.2.2
    exact ⟨World.cell?_of_block (a := ⟨b, o, none⟩) h8, World.frozen?_of_block (a := ⟨b, o, none⟩) h8⟩
theorem ListM.put {es : List Value} {x : α} {F : Foot} {o : Obj} {us : List Value} {G : Nat → Foot} (hlo : lo ≤ hi) (hgh : g < hi)
    (h1 : w.ownsRow lo T S.size v xs.length us) (h2 : ∀ k, v.ownBlock = some k → k < hi ∧ k ≠ g) (hh : hi ≤ w.heap.size) (h3 : ∀ j x, xs[j]? = some x → ∃ es, (∀ i u, es[i]? = some u → us[j * S.size + i]? = some u) ∧ S.owns (G j) w es x)
    (h4 : ∀ j b o, G j b o → lo ≤ b ∧ b < hi ∧ v.ownBlock ≠ some b ∧ b ≠ g) (h5 : ∀ j j', j ≠ j' → Apart (G j) (G j'))
    (hs : S.owns F w es x) (hF : ∀ b o, F b o → hi ≤ b ∧ b < w.heap.size) (hl : es.length = S.size)
    (hown : w'.ownsRow lo T S.size v' (xs.length + 1) (us ++ es)) (hg : (w.alloc o).grownBy w' v.ownBlock) (hv : v'.ownBlock = v.ownBlock ∨ v'.ownBlock = some (w.alloc o).heap.size) :
    ListM S T lo w'.heap.size g w' v' (xs ++ [x]) ∧ Below lo w w' := by
  have hsz : w.heap.size < (w.alloc o).heap.size := by simp
  have hszw : w.heap.size ≤ w'.heap.size := Nat.le_trans (Nat.le_of_lt hsz) hg.size
  have hus : us.length = xs.length * S.size := h1.1
  have hbe : Below lo w w' := ((Below.refl lo w).alloc (Nat.le_trans hlo hh) o).grown hg (by omega) (fun k hk => (World.ownsRow.lt h1 k hk).1)
  have hkeep : ∀ (F : Foot), (∀ b o, F b o → b < w.heap.size ∧ v.ownBlock ≠ some b) → SameAt F w w' := fun F hF b o f => by
    have hb := hF b o f
    have e := (hg.block b (Nat.lt_trans hb.1 hsz) (fun e => hb.2 e.symm)).trans (Below.heap_alloc w _ _ hb.1)
    exact ⟨World.cell?_of_block (a := ⟨b, o, none⟩) e, World.frozen?_of_block (a := ⟨b, o, none⟩) e⟩
  have hvg : ∀ k, v'.ownBlock = some k → k ≠ g := fun k hk => by
    rcases hv with e | e
    · rw [e] at hk
      exact (h2 k hk).2
    · rw [e] at hk
      have e2 : (w.alloc o).heap.size = k := by simpa using hk
      omega
  refine ⟨⟨Nat.le_refl _, by omega, us ++ es, fun j => if j < xs.length then G j else if j = xs.length then F else fun _ _ => False, by simpa using hown, fun k hk => ⟨(World.ownsRow.lt hown k hk).2, hvg k hk⟩, fun j y hy => ?_, fun j b o' f => ?_, fun j j' hne b o' f f' => ?_⟩, hbe⟩
  · by_cases hj : j < xs.length
    · rw [List.getElem?_append_left hj] at hy
      obtain ⟨es', q1, q2⟩ := h3 j y hy
      simp only [if_pos hj]
      refine ⟨es', fun i u hu => ?_, S.owns_keep q2 (hkeep _ fun b o f => ⟨Nat.lt_of_lt_of_le (h4 j b o f).2.1 hh, (h4 j b o f).2.2.1⟩)⟩
      have := q1 i u hu
      rw [List.getElem?_append_left (List.getElem?_eq_some_iff.1 this).1]
      exact this
    · rw [List.getElem?_append_right (by omega)] at hy
      have hj0 : j - xs.length = 0 := by
        cases e : j - xs.length with
        | zero => rfl
        | succ i => rw [e] at hy; simp at hy
      obtain rfl : j = xs.length := by omega
      simp at hy
      subst hy
      simp only [Nat.lt_irrefl, if_false, if_true]
      refine ⟨es, fun i u hu => ?_, S.owns_keep hs (hkeep _ fun b o f => ⟨(hF b o f).2, fun e => ?_⟩)⟩
      · rw [← hus, List.getElem?_append_right (by omega), Nat.add_sub_cancel_left]
        exact hu
      · have e1 := (h2 b e).1
        have e2 := (hF b o f).1
        omega
  · by_cases hj : j < xs.length
    · simp only [if_pos hj] at f
      have q := h4 j b o' f
      refine ⟨q.1, by omega, ?_, q.2.2.2⟩
      rcases hv with e | e
      · rw [e]; exact q.2.2.1
      · rw [e]; intro e'; have e2 : (w.alloc o).heap.size = b := by simpa using e'
        have := q.2.1
        omega
    · by_cases hj' : j = xs.length
      · subst hj'
        simp only [Nat.lt_irrefl, if_false, if_true] at f
        have q := hF b o' f
        refine ⟨by omega, by omega, ?_, by omega⟩
        rcases hv with e | e
        · rw [e]; intro e'; have := (h2 b e').1; omega
        · rw [e]; intro e'; have e2 : (w.alloc o).heap.size = b := by simpa using e'
          omega
      · simp only [if_neg hj, if_neg hj'] at f
  · have key : ∀ i, (if i < xs.length then G i else if i = xs.length then F else fun _ _ => False) b o' → (i < xs.length ∧ G i b o') ∨ (i = xs.length ∧ F b o') := fun i f => by
      by_cases hi : i < xs.length
      · simp only [if_pos hi] at f; exact .inl ⟨hi, f⟩
      · by_cases hi' : i = xs.length
        · simp only [if_neg hi, if_pos hi'] at f; exact .inr ⟨hi', f⟩
        · simp only [if_neg hi, if_neg hi'] at f
    rcases key j f with ⟨a1, a2⟩ | ⟨a1, a2⟩ <;> rcases key j' f' with ⟨b1, b2⟩ | ⟨b1, b2⟩
    · exact h5 j j' hne b o' a2 b2
    · have q1 := (h4 j b o' a2).2.1; have q2 := (hF b o' b2).1; omega
    · have q1 := (h4 j' b o' b2).2.1; have q2 := (hF b o' a2).1; omega
    · omega
end
theorem Row.put8 {base g n c : Nat} {w w' : World} {xs ys : List Int} {v' : Value} (h : Row base w (.slice (some ⟨g, 0, none⟩) n c) xs) (hl : xs.length = n) (hB : base ≤ w.heap.size) (o : Obj) (hown : w'.ownsRow base 3 1 v' (n + ys.length) (icells xs ++ icells ys)) (hg : (w.alloc o).grownBy w' (Value.slice (some ⟨g, 0, none⟩) n c).ownBlock) : Row base w' v' (xs ++ ys) ∧ Below base w w' := by
  refine ⟨?_, ((Below.refl base w).alloc hB o).grown hg (by simp; omega) fun k hk => (h.lt k hk).1⟩
  unfold Row
  rw [List.length_append, hl, icells_append]
  exact hown
/-- The cuts of a way have their places ahead of the end. -/
theorem way_room {n : Nat} {l : List Int} (hc : cutsB n l = true) : ∀ t j, t + j + 1 = l.length → l.getD j 0 + ((l.length - j : Nat) : Int) ≤ (n : Int)
  | 0, j, h => by
    have := (cutAt_has (cutsB_has hc j (by omega))).2
    omega
  | t + 1, j, h => by
    have ih := way_room hc t (j + 1) (by omega)
    have h1 := (cutAt_has (cutsB_has hc (j + 1) (by omega))).1
    rw [prevC_succ] at h1
    omega
set_option maxRecDepth 100000 in
set_option maxHeartbeats 3000000 in
theorem specAllCuts_o (w : World) (ops stages : Int) :
    Calls Try.prog 38 #[.int .i64 ops, .int .i64 stages] w fun e w' => ∃ v, e = .returned v ∧ ListL ownRow 38 w.heap.size w'.heap.size w' v (waysI ops stages) ∧ Below w.heap.size w w' := by
  obtain ⟨j0, hj, hy0, hy1, hy2⟩ := info_parts infoRow8
  obtain ⟨i0, hi, hz0, hz1, hz2⟩ := info_parts Try.infoI64
  have hA := (Below.refl w.heap.size w).alloc (Nat.le_refl _) (.cells #[] 38 (0, 0))
  have hE := ListL.empty ownRow 38 w (Nat.le_refl _)
  have hsA : (w.alloc (.cells #[] 38 (0, 0))).heap.size = w.heap.size + 1 := by simp
  have HA := Lib.hid hA
  have HE := Lib.hid hE
  have HSA := Lib.hid hsA
  clear hA hE hsA
  have HI := Lib.hid fun (x lo hi : Int) (w : World) => l1In_any x lo hi w
  by_cases hok : 1 ≤ stages ∧ stages ≤ ops ∧ ops ≤ 8
  · obtain ⟨h1, h2, h3⟩ := hok
    obtain ⟨m, rfl⟩ : ∃ m : Nat, ops = m := ⟨ops.toNat, by omega⟩
    obtain ⟨k, rfl⟩ : ∃ k : Nat, stages = k := ⟨stages.toNat, by omega⟩
    have m8 : m ≤ 8 := by omega
    have k1 : 1 ≤ k := by omega
    have km : k ≤ m := by omega
    have HC1 := Lib.hid fun (w : World) => l1In_any (m : Int) 1 8 w
    have HC2 := Lib.hid fun (w : World) => l1In_any (k : Int) 1 (m : Int) w
    rw [inB_yes (by omega) (by omega)] at HC1 HC2
    clear h1 h2 h3 HI
    go_enter Try.func38, Try.ntmps38
    go_upto_region 2 with fail
    generalize w.alloc (.cells #[] 38 (0, 0)) = wa at HA HE HSA ⊢
    go_wp2_with fail
    refine (HC1.out _).mono ?_
    rintro e w' ⟨rfl, rfl⟩
    go_wp2_with fail
    refine (HC2.out _).mono ?_
    rintro e w' ⟨rfl, rfl⟩
    go_wp2_with fail
    have hr0 := Row.empty wa (.cells #[] 3 (0, 0)) rfl
    have hb0 := (Below.refl wa.heap.size wa).alloc (Nat.le_refl _) (.cells #[] 3 (0, 0))
    go_loopw [6, 7] (fun v i wr => ∃ (j g cap : Nat), 1 ≤ j ∧ j ≤ k ∧ i = .int .i64 j ∧ v = .slice (some ⟨g, 0, none⟩) (j - 1) cap ∧ Row wa.heap.size wr v (firstW (j - 1)) ∧ Below wa.heap.size wa wr) (fun _ i _ => k - (intOf i).toNat)
    case atStart => exact ⟨1, wa.heap.size, 0, Nat.le_refl _, k1, rfl, rfl, hr0, hb0⟩
    case round =>
      obtain ⟨j, g, cap, hj1, hj2, rfl, rfl, hrow, hbw⟩ := hrel
      have hfl : (firstW (j - 1)).length = j - 1 := by unfold firstW; rw [mapK_length]
      have hszw := hbw.size
      obtain ⟨c, hc⟩ : ∃ c, j - 1 = c := ⟨_, rfl⟩
      rw [hc] at hrow hfl ⊢
      by_cases hltj : j < k
      · have hown : wr.ownsRow wa.heap.size 3 1 (.slice (some ⟨g, 0, none⟩) c cap) c (icells (firstW c)) := by
          unfold Row at hrow
          rw [hfl] at hrow
          exact hrow
        have hnx : firstW c ++ [(j : Int)] = firstW (c + 1) := by
          have e : (1 : Int) + (c : Int) = (j : Int) := by omega
          show _ = firstW c ++ [1 + (c : Int)]
          rw [e]
        have HOWN := Lib.hid hown
        have HRW := Lib.hid hrow
        have HBW := Lib.hid hbw
        have HNX := Lib.hid hnx
        have HFL := Lib.hid hfl
        clear hown hrow hbw hnx hfl
        go_wp2_with (at_builtin; refine wpList_append_own _ rfl _ _ 29 rfl wa.heap.size 3 i0 (.int .i64 0) 1 8 Try.underlying29 hi hz0 hz1 hz2 rfl (by decide) _ _ _ rfl (HOWN.out.alloc _) ⟨wr.heap.size, 0, none⟩ 1 1 (icells [(j : Int)]) rfl rfl (cell_num_put _ _ _) (icells_one _) (by unfold maxLen; omega) (by omega) (by simp; omega) ?_; intro v' w3 hown' hgrow _; obtain ⟨g', cap', rfl⟩ := ownsRow_succ hown'; have hput := Row.put8 HRW.out HFL.out hszw _ hown' hgrow; have HP := Lib.hid hput; clear hown' hgrow hput)
        go_wp2_with fail
        go_roundw
        case rel => exact ⟨j + 1, g', cap', by omega, by omega, by go_num, by rw [show j + 1 - 1 = c + 1 by omega], by rw [show j + 1 - 1 = c + 1 by omega, ← HNX.out]; exact HP.out.1, HBW.out.trans HP.out.2⟩
        case measure => simp [intOf]; omega
      · obtain rfl : j = k := by omega
        have hw8 := ways_at k1 km m8
        have hf : firstW c = wayAt m j 0 := by
          have e1 := hw8.first
          rw [wayAt_get k1 km m8 hw8.some, hc] at e1
          exact (Option.some.inj e1).symm
        rw [hf] at hrow hfl
        have hgb := World.ownsRow.lt hrow g rfl
        have hM0 : ListM ownRow 38 w.heap.size wr.heap.size g wr (.slice (some ⟨w.heap.size, 0, none⟩) 0 0) (rowsTo (m : Int) (j : Int) 0) := by
          obtain ⟨us, G, q1, q2, q3, q4, q5⟩ := (HE.out.below hbw (by have := HSA.out; omega)).all
          refine ⟨Nat.le_refl _, hgb.2, us, G, q1, fun b hb => ?_, q3, fun t b o f => ?_, q5⟩
          · have h5 := q2 b hb
            have := HSA.out
            omega
          · have h5 := q4 t b o f
            have := HSA.out
            refine ⟨h5.1, by omega, h5.2.2, by omega⟩
        have HW8 := Lib.hid hw8
        have HR0 := Lib.hid hrow
        have HM0 := Lib.hid hM0
        have HB0 := Lib.hid (HA.out.trans (hbw.mono (by have := HSA.out; omega)))
        have HCC := Lib.hid hc
        have hc7 : c ≤ 7 := by omega
        have hgw : w.heap.size < g := by have := HSA.out; omega
        have hsom := hw8.some
        clear hrow hbw hf hfl hM0 hw8 hgb hszw hr0 hb0
        obtain ⟨wo, rfl⟩ : ∃ y, y = wr := ⟨_, rfl⟩
        go_wp2_with fail
        go_loopw [5] (fun v wr => ∃ (p a' : Nat) (u : Option Addr), p < (ways m j).length ∧ v = .slice u p a' ∧ ListM ownRow 38 w.heap.size wr.heap.size g wr v (rowsTo (m : Int) (j : Int) p) ∧ Row wa.heap.size wr (.slice (some ⟨g, 0, none⟩) c cap) (wayAt m j p) ∧ Below w.heap.size w wr ∧ w.heap.size ≤ wr.heap.size)
          (fun _ wr => leftW g c (.bool true) wr)
        case atStart => exact ⟨0, 0, _, hsom, rfl, HM0.out, HR0.out, HB0.out, HB0.out.size⟩
        case round =>
          obtain ⟨p, a', u, hp, rfl, hM, hrow, hbw, hsw⟩ := hrel
          obtain ⟨q, hq, hqs, hqn, hll, hcc⟩ := way_step k1 km m8 hp
          obtain ⟨L, hL⟩ : ∃ L, wayAt (m : Int) (j : Int) p = L := ⟨_, rfl⟩
          rw [HCC.out] at hq hll
          have hrange := way_range hcc m8
          have hroom := way_room hcc
          rw [hL] at hrow hq hqn hll hrange hroom hcc
          rw [hll] at hrange hroom
          have hgl := World.ownsRow.lt hrow g rfl
          have hin : IntsIn wr.heap.size wr (some ⟨g, 0, none⟩) c L := row_ints8 hrow hll (by omega)
          have hE0 : (wr.alloc (.cells #[] 3 (0, 0))).ownsRow wr.heap.size 3 1 (.slice (some ⟨wr.heap.size, 0, none⟩) 0 0) 0 [] := Row.empty wr _ rfl
          have hfew := (waysI_few (m : Int) (j : Int)).1
          rw [waysI_yes k1 km m8] at hfew
          have hp35 : p < 35 := by omega
          have HM := Lib.hid hM
          have HRW := Lib.hid hrow
          have HBW := Lib.hid hbw
          have HQ := Lib.hid hq
          have HQS := Lib.hid hqs
          have HQN := Lib.hid hqn
          have HLL := Lib.hid hll
          have HRG := Lib.hid hrange
          have HRM := Lib.hid hroom
          have HL := Lib.hid hL
          have HIN := Lib.hid hin
          have HE0 := Lib.hid hE0
          have HPN := Lib.hid hp
          -- what the second append is told
          have HP := Lib.hid fun (w2 : World) (ar : Option Addr) (cr : Nat) (hr : Row wr.heap.size w2 (.slice ar c cr) L) (hb : Below wr.heap.size wr w2) => show ∃ us : List Value, w2.ownsRow w.heap.size 38 1 (.slice u p a') p us ∧ ∀ (w4 : World) (g' cap' : Nat), w4.ownsRow w.heap.size 38 1 (.slice (some ⟨g', 0, none⟩) (p + 1) cap') (p + 1) (us ++ [.slice ar c cr]) → (w2.alloc (.cells #[.slice ar c cr] 38 (0, 0))).grownBy w4 (Value.slice u p a').ownBlock → ((Value.slice u p a').ownBlock = some g' ∨ g' = (w2.alloc (.cells #[.slice ar c cr] 38 (0, 0))).heap.size) →
              ListM ownRow 38 w.heap.size w4.heap.size g w4 (.slice (some ⟨g', 0, none⟩) (p + 1) cap') (rowsTo (m : Int) (j : Int) (p + 1)) ∧ Below w.heap.size w2 w4 ∧ Row wa.heap.size w4 (.slice (some ⟨g, 0, none⟩) c cap) L by
            obtain ⟨-, hgh, us, G, q1, q2, q3, q4, q5⟩ := hM.same (w' := w2) (hi' := wr.heap.size) (fun b hb1 hb2 hb3 => hb.block b hb2) (Nat.le_refl _) hb.size
            rw [rowsTo_length] at q1
            refine ⟨us, q1, fun w4 g' cap' ho hgr hat => ?_⟩
            have hput := ListM.put (S := ownRow) (T := 38) (lo := w.heap.size) (hi := wr.heap.size) (g := g) (w := w2) (w' := w4) (v := .slice u p a') (v' := .slice (some ⟨g', 0, none⟩) (p + 1) cap') (xs := rowsTo (m : Int) (j : Int) p) (o := (.cells #[.slice ar c cr] 38 (0, 0))) (x := L) (F := FromB wr.heap.size w2.heap.size)
              hsw hgl.2 (by rw [rowsTo_length]; exact q1) q2 hb.size q3 q4 q5 hr.ownRow (fun b o f => f) rfl (by rw [rowsTo_length]; exact ho) hgr (by
                rcases hat with e | e
                · exact .inl e.symm
                · exact .inr (congrArg some e))
            rw [rowsTo_succ, hL]
            refine ⟨hput.1, hput.2, ?_⟩
            have hk1 := (hrow.below hb).kept (World.grownBy_alloc w2 (.cells #[.slice ar c cr] 38 (0, 0)) none) (.inr (by simp [Value.ownBlock]))
            refine hk1.kept hgr (.inr fun e => ?_)
            have e1 : (Value.slice u p a').ownBlock = some g := e.symm
            exact (q2 g e1).2 rfl
          clear hM hrow hbw hq hqs hqn hll hrange hroom hL hin hE0 hcc hfew hp
          go_wp2_with (first
            | (at_builtin; refine wpList_append_own _ rfl _ _ 29 rfl wr.heap.size 3 i0 (.int .i64 0) 1 8 Try.underlying29 hi hz0 hz1 hz2 rfl (by decide) _ _ _ rfl HE0.out ⟨g, 0, none⟩ c cap (icells L) rfl (by rw [icells_length, HLL.out, Nat.mul_one]) (ints_news (HIN.out.below ((Below.refl wr.heap.size wr).alloc (Nat.le_refl _) _) (by omega))) (icells_one _) (by unfold maxLen; omega) (by omega) (by simp) ?_; intro v2 w2 hown hgrow _; have hr := row_new hown; have hb := ((Below.refl wr.heap.size wr).alloc (Nat.le_refl _) (.cells #[] 3 (0, 0))).grown hgrow (by simp) (fun k e => by cases e; exact Nat.le_refl _); obtain ⟨ar, cr, rfl, -⟩ := hr.form; rw [HLL.out] at hr ⊢; obtain ⟨us, hous, hP2⟩ := HP.out w2 ar cr hr hb; have HOU := Lib.hid hous; have HP2 := Lib.hid hP2; have HB2 := Lib.hid hb; have hs2 := hb.size; clear hown hgrow hr hb hous hP2)
            | (at_builtin; refine wpList_append_lies _ rfl _ _ 34 rfl w.heap.size 38 j0 (.agg #[.slice none 0 0]) 1 24 Try.underlying34 hj hy0 hy1 hy2 rfl (by decide) _ _ _ rfl (HOU.out.alloc _) ⟨w2.heap.size, 0, none⟩ 1 1 [.slice ar c cr] rfl rfl (cell_one_new _ _ _) (slices_one _ _ _) (by decide) (by unfold maxLen; omega) (by omega) (by simp; omega) _ rfl ?_; intro g4 cap4 w4 ho4 hg4 hat4 hlt4; obtain ⟨hl4, hb4, hr4⟩ := HP2.out w4 g4 cap4 ho4 hg4 hat4; have HL4 := Lib.hid hl4; have HB4 := Lib.hid hb4; have HR4 := Lib.hid hr4; clear ho4 hg4 hat4 hl4 hb4 hr4))
          obtain ⟨w4', rfl⟩ : ∃ y, y = w4 := ⟨_, rfl⟩
          have hs4 := HB4.out.size
          have HBW4 := Lib.hid (HBW.out.trans ((HB2.out.mono hsw).trans HB4.out))
          have hown4 : w4'.ownsRow wa.heap.size 3 1 (.slice (some ⟨g, 0, none⟩) c cap) c (icells L) := by
            have h1 := HR4.out
            unfold Row at h1
            rw [HLL.out] at h1
            exact h1
          have HO4 := Lib.hid hown4
          clear hown4
          go_loopw [8] (fun kk wx => ∃ e : Nat, e ≤ c ∧ kk = .int .i64 ((e : Int) - 1) ∧ wx = w4' ∧ Hid (∀ i, e ≤ i → i < c → stuckB m L i = true)) (fun kk _ => (intOf kk + 1).toNat)
          case atStart => exact ⟨c, Nat.le_refl _, rfl, rfl, Lib.hid fun i h1 h2 => by omega⟩
          case round =>
            obtain ⟨e, hec, rfl, rfl, hst⟩ := hrel
            cases e with
            | zero =>
              have hqn' := next_none HQ.out fun i hi => hst.out i (Nat.zero_le _) hi
              have hend : (ways m j).length = p + 1 := by
                have h1 := HQS.out
                rw [hqn'] at h1
                have h2 : ¬ p + 1 < (ways m j).length := of_decide_eq_false h1.symm
                have := HPN.out
                omega
              have hall : rowsTo (m : Int) (j : Int) (p + 1) = waysI (m : Int) (j : Int) := by
                rw [← hend, ← waysI_yes k1 km m8]
                exact rowsTo_all _ _
              have HALL := Lib.hid hall
              have hz : ((0 : Nat) : Int) - 1 = -1 := rfl
              rw [hz]
              clear hend hall hz hqn'
              go_wp2_with fail
              go_ret
              refine ⟨_, rfl, ?_, HBW4.out⟩
              rw [← HALL.out]
              exact HL4.out.toL
            | succ i =>
              have hii : ((i + 1 : Nat) : Int) - 1 = (i : Int) := by omega
              rw [hii]
              obtain ⟨V, hV⟩ : ∃ V, L.getD i 0 = V := ⟨_, rfl⟩
              have hvr := HRG.out i (by omega)
              have hrm := HRM.out (c - 1 - i) i (by omega)
              rw [hV] at hvr hrm
              have hci : ((c - i : Nat) : Int) = (c : Int) - (i : Int) := by omega
              rw [hci] at hrm
              have hcell : wr.cell? ⟨g, i, none⟩ = some (.int .i64 V) := by
                rw [World.ownsRow.cellAt HO4.out i (by omega), icells_get L i (by rw [HLL.out]; omega), hV]
              obtain ⟨M2, hM2⟩ : ∃ M2, (m : Int) - (c : Int) + (i : Int) = M2 := ⟨_, rfl⟩
              by_cases hs : V = M2
              · have hsd : decide (V = M2) = true := decide_eq_true hs
                have hsb : (V == M2) = true := by simpa using hs
                have HST : Hid (stuckB m L i = true) := Lib.hid (stuck_yes HLL.out hV (by rw [hci]; omega))
                clear hV hvr hrm hs hci
                go_wp2_with fail
                go_roundw
                case rel =>
                  refine ⟨i, by omega, by first | rfl | trivial, by first | rfl | trivial, Lib.hid fun t h1 h2 => ?_⟩
                  by_cases et : t = i
                  · rw [et]; exact HST.out
                  · exact hst.out t (by omega) h2
                case measure => simp [intOf] <;> omega
              · have hsd : decide (V = M2) = false := decide_eq_false hs
                have hsb : (V == M2) = false := by simpa using hs
                have hns : stuckB m L i = false := stuck_no HLL.out hV (by rw [hci]; omega)
                have hqs' := next_some HQ.out (show i < c by omega) hns fun t h1 h2 => hst.out t (by omega) h2
                have hlt1 : p + 1 < (ways m j).length := by
                  have h1 := HQS.out
                  rw [hqs'] at h1
                  exact of_decide_eq_true h1.symm
                have hnext : nextAt L i = wayAt (m : Int) (j : Int) (p + 1) := by
                  have h1 := HQN.out hlt1
                  rw [hqs'] at h1
                  exact h1
                have HNXT := Lib.hid hnext
                have HLT := Lib.hid hlt1
                have HV := Lib.hid hV
                have hfr := World.ownsRow.frozenAt HO4.out i
                have hst1 := World.ownsRow.stored HO4.out i (.int .i64 (V + 1))
                rw [icells_set] at hst1
                have hr1 : RowTurned wa.heap.size g c cap (riseK L i (V + 1) 1) wr (wr.setCell ⟨g, i, none⟩ (.int .i64 (V + 1))) := ⟨by
                  unfold Row
                  rw [riseK_length, HLL.out]
                  have e1 : riseK L i (V + 1) 1 = L.set i (V + 1) := by
                    show L.set (i + 0) (V + 1 + ((0 : Nat) : Int)) = _
                    simp
                  rw [e1]
                  exact hst1.1, hst1.2⟩
                have HR1 := Lib.hid hr1
                clear hst1 hr1 hV hnext hlt1 hqs' hns hrm hs hci hst
                obtain ⟨w6, rfl⟩ : ∃ y, y = wr := ⟨_, rfl⟩
                go_wp2_with fail
                generalize w6.setCell ⟨g, i, none⟩ (.int .i64 (V + 1)) = w7 at HR1 ⊢
                go_loopw [9] (fun kk wx => ∃ t : Nat, i + 1 + t ≤ c ∧ kk = .int .i64 ((i + 1 + t : Nat) : Int) ∧ Hid (RowTurned wa.heap.size g c cap (riseK L i (V + 1) (t + 1)) w6 wx)) (fun kk _ => c - (intOf kk).toNat)
                case atStart => exact ⟨0, by omega, by simp, HR1⟩
                case round =>
                  obtain ⟨t, htc, rfl, hrt⟩ := hrel
                  obtain ⟨w8, rfl⟩ : ∃ y, y = wr := ⟨_, rfl⟩
                  have hrl : (riseK L i (V + 1) (t + 1)).length = c := by rw [riseK_length]; exact HLL.out
                  have hown8 : w8.ownsRow wa.heap.size 3 1 (.slice (some ⟨g, 0, none⟩) c cap) c (icells (riseK L i (V + 1) (t + 1))) := by
                    have h1 := hrt.out.1
                    unfold Row at h1
                    rw [hrl] at h1
                    exact h1
                  obtain ⟨K, hK⟩ : ∃ K, i + 1 + t = K := ⟨_, rfl⟩
                  obtain ⟨J, hJ⟩ : ∃ J, i + t = J := ⟨_, rfl⟩
                  have hKJ : (K : Int) - 1 = (J : Int) := by omega
                  have hJK : K = J + 1 := by omega
                  rw [hK] at htc ⊢
                  by_cases hlt8 : K < c
                  · have hX := riseK_get L i (V + 1) (t + 1) J (by rw [HLL.out]; omega)
                    rw [if_pos (by omega), show J - i = t by omega] at hX
                    obtain ⟨X, hXe⟩ : ∃ X, V + 1 + (t : Int) = X := ⟨_, rfl⟩
                    rw [hXe] at hX
                    have hc8 : w8.cell? ⟨g, J, none⟩ = some (.int .i64 X) := by
                      rw [World.ownsRow.cellAt hown8 J (by omega), icells_get _ J (by rw [hrl]; omega), hX]
                    have hfr8 := World.ownsRow.frozenAt hown8 K
                    obtain ⟨y, hy⟩ : ∃ y, w8.cell? ⟨g, K, none⟩ = some y := by
                      rw [World.ownsRow.cellAt hown8 K (by omega)]
                      exact ⟨_, List.getElem?_eq_getElem (by rw [icells_length, hrl]; omega)⟩
                    have hst8 := World.ownsRow.stored hown8 K (.int .i64 (X + 1))
                    rw [icells_set] at hst8
                    have hnx : RowTurned wa.heap.size g c cap (riseK L i (V + 1) (t + 1 + 1)) w6 (w8.setCell ⟨g, K, none⟩ (.int .i64 (X + 1))) := ⟨by
                      unfold Row
                      rw [riseK_length, HLL.out]
                      have e1 : riseK L i (V + 1) (t + 1 + 1) = (riseK L i (V + 1) (t + 1)).set K (X + 1) := by
                        show (riseK L i (V + 1) (t + 1)).set (i + (t + 1)) (V + 1 + ((t + 1 : Nat) : Int)) = _
                        rw [show i + (t + 1) = K by omega, show V + 1 + ((t + 1 : Nat) : Int) = X + 1 by omega]
                      rw [e1]
                      exact hst8.1, grownBy_trans' hrt.out.2 hst8.2⟩
                    have HNX8 := Lib.hid hnx
                    have hX9 : 0 ≤ X ∧ X ≤ 20 := by omega
                    have HK := Lib.hid hK
                    clear hst8 hnx hX hXe hrl hown8 hrt hK hJ hJK
                    go_wp2_with fail
                    go_roundw
                    case rel => exact ⟨t + 1, by have := HK.out; omega, by have := HK.out; rw [show i + 1 + (t + 1) = K + 1 by omega]; go_num, HNX8⟩
                    case measure => simp [intOf]; omega
                  · have hKc : K = c := by omega
                    have hrn : riseK L i (V + 1) (t + 1) = wayAt (m : Int) (j : Int) (p + 1) := by
                      rw [← HNXT.out, ← rise_next HLL.out (show i < c by omega), HV.out, show c - i = t + 1 by omega]
                    have hrt8 := hrt.out
                    rw [hrn] at hrt8
                    have HRT8 := Lib.hid hrt8
                    clear hown8 hrl hrt hrn hrt8 hK hJ hKJ hJK
                    go_wp2_with fail
                    go_roundw
                    case rel =>
                      have hsz8 := HRT8.out.2.size
                      refine ⟨p + 1, cap4, some ⟨g4, 0, none⟩, HLT.out, rfl, HL4.out.same (fun b h1 h2 h3 => HRT8.out.2.block b (Nat.lt_of_lt_of_le h2 (Nat.le_refl _)) fun e => h3 (by have := Option.some.inj e; exact this)) hsz8 (Nat.le_refl _), HRT8.out.1, ?_, ?_⟩
                      · exact HBW4.out.grown HRT8.out.2 HBW4.out.size fun b e => by cases e; omega
                      · exact Nat.le_trans HBW4.out.size hsz8
                    case measure =>
                      have hrk := ranked_in k1 km m8
                      have hg0 := wayAt_get k1 km m8 HPN.out
                      have hg1 := wayAt_get k1 km m8 HLT.out
                      have ht := ranked_top hrk hg0
                      have ht1 := ranked_top hrk hg1
                      have hst := ranked_step hrk hg0 hg1
                      rw [HL.out] at ht hst
                      have e0 := row_read HRW.out HLL.out
                      have hl1 : (wayAt (m : Int) (j : Int) (p + 1)).length = c := by rw [(HW8.out.len _ _ hg1).1, HCC.out]
                      have e2 := row_read HRT8.out.1 hl1
                      have e3 : ∀ (wy : World), leftW g c (.bool true) wy = 5000001 - rankW (readK wy g c) := fun _ => rfl
                      rw [e3, e3, e0, e2]
                      omega
  · have hN : waysI ops stages = [] := waysI_no hok
    rw [hN]
    have HEX := Lib.hid HE.out
    go_enter Try.func38, Try.ntmps38
    go_upto_region 2 with fail
    generalize w.alloc (.cells #[] 38 (0, 0)) = wa at HA HE HSA HEX ⊢
    have hend : ∃ v : Value, (Ending.returned (.slice (some ⟨w.heap.size, 0, none⟩) 0 0)) = .returned v ∧ ListL ownRow 38 w.heap.size wa.heap.size wa v [] ∧ Below w.heap.size w wa := ⟨_, rfl, by have h1 := HE.out; rw [HSA.out]; exact h1, HA.out⟩
    have HEND := Lib.hid hend
    clear hend
    cases h1 : inB 1 8 ops with
    | false =>
      have hI := HI.out ops 1 8
      rw [h1] at hI
      have HC1 := Lib.hid hI
      clear hI h1
      go_wp2_with fail
      refine (HC1.out _).mono ?_
      rintro e w' ⟨rfl, rfl⟩
      go_wp2_with fail
      go_ret
      exact HEND.out
    | true =>
      have h2 : inB 1 ops stages = false := by
        by_cases h3 : inB 1 ops stages = true
        · have q1 := inB_has h1
          have q2 := inB_has h3
          exact absurd ⟨q2.1, q2.2, q1.2⟩ hok
        · simpa using h3
      have hI := HI.out ops 1 8
      rw [h1] at hI
      have HC1 := Lib.hid hI
      have hI2 := HI.out stages 1 ops
      rw [h2] at hI2
      have HC2 := Lib.hid hI2
      clear hI h1 hI2 h2
      go_wp2_with fail
      refine (HC1.out _).mono ?_
      rintro e w' ⟨rfl, rfl⟩
      go_wp2_with fail
      refine (HC2.out _).mono ?_
      rintro e w' ⟨rfl, rfl⟩
      go_wp2_with fail
      go_ret
      exact HEND.out
end Go.Proofs.Ytkmcfbopilieeaa

end

/-! YtkmcfbopilieeaaCutC -/
section

namespace Go.Proofs.Ytkmcfbopilieeaa
open Go.RowKit Go.Shelf
set_option linter.unusedVariables false
attribute [local go_sem] Oper.semAt_some

/-- The number of the best of the first k ways: the first of several that are as good. -/
def bestI (m : List dOp) (s : Int) : Nat → Nat
  | 0 => 0
  | k + 1 => if maxC m (wayAt m.length s k) < maxC m (wayAt m.length s (bestI m s k)) then k else bestI m s k
def bestRow (m : List dOp) (s : Int) (k : Nat) : List Int := if k = 0 then [] else wayAt m.length s (bestI m s k)
def leastK (m : List dOp) (s : Int) (k : Nat) : Int := if k = 0 then 0 else maxC m (wayAt m.length s (bestI m s k))
def bestB (m : List dOp) (s : Int) : Bool := modelOkB m && inB 1 (m.length : Int) s
def bestC (m : List dOp) (s : Int) : List Int := if bestB m s then wayAt m.length s (bestI m s (waysI m.length s).length) else []
theorem best_up {m : List dOp} {s : Int} {k : Nat} (h : k = 0 ∨ maxC m (wayAt m.length s k) < leastK m s k) : bestRow m s (k + 1) = wayAt m.length s k ∧ leastK m s (k + 1) = maxC m (wayAt m.length s k) := by
  unfold bestRow leastK
  rw [if_neg (by omega), if_neg (by omega)]
  have e : bestI m s (k + 1) = k := by
    unfold bestI
    by_cases hk : k = 0
    · subst hk
      split <;> rfl
    · rcases h with h | h
      · exact absurd h hk
      · unfold leastK at h
        rw [if_neg hk] at h
        rw [if_pos h]
  rw [e]
  exact ⟨rfl, rfl⟩
theorem best_stay {m : List dOp} {s : Int} {k : Nat} (h0 : k ≠ 0) (h : ¬ maxC m (wayAt m.length s k) < leastK m s k) : bestRow m s (k + 1) = bestRow m s k ∧ leastK m s (k + 1) = leastK m s k := by
  unfold leastK at h
  rw [if_neg h0] at h
  have e : bestI m s (k + 1) = bestI m s k := by
    show (if _ then _ else _) = _
    rw [if_neg h]
  unfold bestRow leastK
  simp only [if_neg (show ¬ (k + 1 = 0) by omega), if_neg h0, e, and_self]
theorem best_end {m : List dOp} {s : Int} (h : modelOkB m = true) : bestC m s = bestRow m s (waysI m.length s).length ∧ bestB m s = decide (0 < (waysI m.length s).length) := by
  have hm := (cutsOk_has (m := m) (l := []) (by unfold cutsOkB; rw [h]; rfl))
  unfold bestC bestB bestRow
  rw [h, Bool.true_and]
  by_cases hs : 1 ≤ s ∧ s ≤ (m.length : Int)
  · obtain ⟨k, rfl⟩ : ∃ k : Nat, s = k := ⟨s.toNat, by omega⟩
    have hin : inB 1 (m.length : Int) (k : Int) = true := by
      unfold inB
      simp
      omega
    have hw := waysI_yes (n := m.length) (k := k) (by omega) (by omega) (by omega)
    have hp := (ways_at (n := m.length) (k := k) (by omega) (by omega) (by omega)).some
    rw [hin, if_pos rfl, hw, if_neg (by omega)]
    exact ⟨rfl, (decide_eq_true (by omega)).symm⟩
  · have hin : inB 1 (m.length : Int) s = false := by
      unfold inB
      simp
      omega
    rw [hin, waysI_no (by omega)]
    exact ⟨rfl, rfl⟩
theorem way_short (ops stages : Int) (k : Nat) : (wayAt ops stages k).length ≤ 7 := by
  unfold wayAt
  rw [List.getD_eq_getElem?_getD]
  cases h : (waysI ops stages)[k]? with
  | none => simp
  | some l => exact (waysI_few ops stages).2 l (List.mem_of_getElem? h)

/-- What lies between two rounds of BestCuts. -/
def BestInv (w1 : World) (lo S : Nat) (m : List dOp) (s : Int) (pre : List Value) (W : World) : Prop :=
  (∃ v, Boxed W S 29 v ∧ Row lo W v (bestRow m s pre.length)) ∧ Boxed W (S + 1) 3 (.int .i64 (leastK m s pre.length)) ∧ Boxed W (S + 1 + 1) 4 (.bool (decide (0 < pre.length))) ∧
    Below S w1 W ∧ Boxed W (S + 3) 3 (.int .i64 (m.length : Int)) ∧ Boxed W (S + 3 + 1) 3 (.int .i64 s)
set_option maxHeartbeats 400000 in
theorem bestInv_own {w1 : World} {m : List dOp} {s : Int} {S B : Nat} (hS : S + 5 ≤ B) (hS1 : S ≤ w1.heap.size) : ∀ pre W W' row, BestInv w1 (B + 3) S m s pre W → W.grownBy W' row → (∀ r, row = some r → B ≤ r ∧ r < B + 3) → BestInv w1 (B + 3) S m s pre W' := by
  rintro pre A A' row ⟨⟨v, h1, h2⟩, h3, h4, h5, h6, h7⟩ hg hr
  have hne : ∀ b, b < B → some b ≠ row := fun b hb e => by have := hr b e.symm; omega
  refine ⟨⟨v, h1.kept hg (hne _ (by omega)), h2.kept hg ?_⟩, h3.kept hg (hne _ (by omega)), h4.kept hg (hne _ (by omega)), ?_, h6.kept hg (hne _ (by omega)), h7.kept hg (hne _ (by omega))⟩
  · cases hv : v.ownBlock with
    | none => exact .inl rfl
    | some k =>
      refine .inr fun e => ?_
      · have q1 := (h2.lt _ hv).1
        have q2 := hr k e.symm
        omega
  · exact ⟨hg.os.trans h5.os, hg.tape.trans h5.tape, hg.output.trans h5.output, Nat.le_trans h5.size hg.size, fun b hb => (hg.block b (Nat.lt_of_lt_of_le hb (Nat.le_trans hS1 h5.size)) (hne b (by omega))).trans (h5.block b hb)⟩
theorem row_set8 {base : Nat} {w : World} {v : Value} {xs : List Int} (h : Row base w v xs) (g : Nat) (hg : g < base) (u : Value) : Row base (w.setCell ⟨g, 0, none⟩ u) v xs :=
  h.kept (grownBy_setCell' w g u) (by
    cases hv : v.ownBlock with
    | none => exact .inl rfl
    | some k => exact .inr fun e => by cases e; have := (h.lt _ hv).1; omega)
/-- What a round leaves: three boxes written, behind a call. -/
theorem best_round {S B : Nat} {W wc : World} (hb : Below W.heap.size W wc) (x y z : Value) (hS : S + 5 ≤ B) (hBW : B + 3 ≤ W.heap.size) :
    KeepsFrom B W (((wc.setCell ⟨S, 0, none⟩ x).setCell ⟨S + 1, 0, none⟩ y).setCell ⟨S + 1 + 1, 0, none⟩ z) ∧
      (((wc.setCell ⟨S, 0, none⟩ x).setCell ⟨S + 1, 0, none⟩ y).setCell ⟨S + 1 + 1, 0, none⟩ z).heap[B + 2]? = W.heap[B + 2]? ∧
      KeepB S (S + 3) (S + 3 + 1) W (((wc.setCell ⟨S, 0, none⟩ x).setCell ⟨S + 1, 0, none⟩ y).setCell ⟨S + 1 + 1, 0, none⟩ z) := by
  have hold : ∀ k, k < W.heap.size → k ≠ S → k ≠ S + 1 → k ≠ S + 1 + 1 → (((wc.setCell ⟨S, 0, none⟩ x).setCell ⟨S + 1, 0, none⟩ y).setCell ⟨S + 1 + 1, 0, none⟩ z).heap[k]? = W.heap[k]? := fun k hk e1 e2 e3 => by
    rw [Below.heap_setCell _ _ _ _ e3, Below.heap_setCell _ _ _ _ e2, Below.heap_setCell _ _ _ _ e1]
    exact hb.block k hk
  refine ⟨?_, hold _ (by omega) (by omega) (by omega) (by omega), ?_, hold _ (by omega) (by omega) (by omega) (by omega), hold _ (by omega) (by omega) (by omega) (by omega)⟩
  · have a1 : KeepsOthers wc (((wc.setCell ⟨S, 0, none⟩ x).setCell ⟨S + 1, 0, none⟩ y).setCell ⟨S + 1 + 1, 0, none⟩ z) := ((KeepsOthers.setCell _ _ _).trans (KeepsOthers.setCell _ _ _)).trans (KeepsOthers.setCell _ _ _)
    exact ⟨Nat.le_trans hb.size a1.size, fun k o' _ hk ho => a1.same k o' ((hb.block k (Array.getElem?_eq_some_iff.1 hk).1).trans hk) ho⟩
  · exact (((hb.mono (show S ≤ W.heap.size by omega)).setCell (p := ⟨S, 0, none⟩) (Nat.le_refl _) x).setCell (p := ⟨S + 1, 0, none⟩) (by show S ≤ S + 1; omega) y).setCell (p := ⟨S + 1 + 1, 0, none⟩) (by show S ≤ S + 1 + 1; omega) z
theorem best_still {S B : Nat} {W wc : World} (hb : Below W.heap.size W wc) (hS : S + 5 ≤ B) (hBW : B + 3 ≤ W.heap.size) :
    KeepsFrom B W wc ∧ wc.heap[B + 2]? = W.heap[B + 2]? ∧ KeepB S (S + 3) (S + 3 + 1) W wc :=
  ⟨⟨hb.size, fun k o' _ hk ho => (hb.block k (Array.getElem?_eq_some_iff.1 hk).1).trans hk⟩, hb.block _ (by omega), hb.mono (by omega), hb.block _ (by omega), hb.block _ (by omega)⟩

set_option maxRecDepth 100000 in
set_option maxHeartbeats 3000000 in
theorem implBestCuts_o (w : World) (a : Option Addr) (n c : Nat) (m : List dOp) (h : ListAt shOp (Under w.heap.size) w a n m) (hc1 : n ≤ c) (hc2 : c ≤ 9223372036854775807) (hb : (Shape.list shOp).bulk m ≤ 1048576) (s : Int) :
    Calls Try.prog 14 #[.agg #[.slice a n c], .int .i64 s] w fun e w' => ∃ v, e = .returned (.tuple #[v, .bool (bestB m s)]) ∧ Row w.heap.size w' v (bestC m s) ∧ Below w.heap.size w w' := by
  refine (callsIn_wide (n := 6)).1 ?_
  refine callsIn_of_wp_marks Try.func14 rfl trivial ?_ rfl
  simp only [Try.ntmps14, List.size_toArray, List.length_cons, List.length_nil, Nat.reduceAdd, Nat.reduceSub, Array.replicate_succ, Array.replicate_zero, List.push_toArray, List.append_toArray, List.nil_append, List.cons_append]
  have hal : Below w.heap.size w (w.alloc (.cells #[.slice a n c] 26 (0, 0))) := (Below.refl _ _).alloc (Nat.le_refl _) _
  have hk0 := heap_alloc_new w (.cells #[.slice a n c] 26 (0, 0))
  have hs0 : (w.alloc (.cells #[.slice a n c] 26 (0, 0))).heap.size = w.heap.size + 1 := by simp
  have HN := Lib.hid h.1
  have HL := Lib.hid fun (wx : World) (hx : Below w.heap.size w wx) => (h.below hx (Nat.le_refl _)).le hx.size
  have HMO := Lib.hid fun (wx : World) (hx : Below w.heap.size w wx) => implModelOk_d wx [.slice a n c] m (shModel_reads.2 ⟨a, n, c, rfl, hc1, hc2, HL.out wx hx⟩) hb
  have HMC := Lib.hid fun (wx : World) (hx : Below w.heap.size w wx) => implMaxCost_c wx a n c m (HL.out wx hx) hc1 hc2 hb
  have A0 := Lib.hid hal
  have K0 := Lib.hid hk0
  clear h hal hk0
  obtain ⟨mo, hmo⟩ : ∃ mo, modelOkB m = mo := ⟨_, rfl⟩
  simp only [hmo] at HMO
  have z0 := box1 K0.out
  gi_wp2
  generalize w.alloc (.cells #[.slice a n c] 26 (0, 0)) = wa at A0 K0 z0 hs0 ⊢
  refine ⟨trivial, ?_⟩
  refine (callsIn_wide.2 (HMO.out wa A0.out)).mono ?_
  rintro e w1 ⟨rfl, hb1⟩
  have hs1 := hb1.size
  have K1 := Lib.hid ((hb1.block w.heap.size (by omega)).trans K0.out)
  have A1 := Lib.hid (A0.out.trans (hb1.mono (by omega)))
  clear hb1 z0 HMO
  cases mo
  · have hno : bestB m s = false := by unfold bestB; rw [hmo]; rfl
    have hnc : bestC m s = [] := by unfold bestC; rw [hno]; rfl
    have HNO := Lib.hid hno
    have HNC := Lib.hid hnc
    clear hno hnc hmo
    gi_wp2
    exact marks_ret rfl (results_tmp2 rfl _ _ _) ⟨.slice none 0 0, by rw [HNO.out]; rfl, by rw [HNC.out]; exact Row.nil _ _, A1.out⟩
  · obtain ⟨he1, he2⟩ := best_end (s := s) hmo
    have HE1 := Lib.hid he1
    have HE2 := Lib.hid he2
    clear he1 he2 hmo
    have hA3 := (((Below.refl w1.heap.size w1).alloc (Nat.le_refl _) (.cells #[.slice none 0 0] 29 (0, 0))).alloc (by simp) (.cells #[.int .i64 0] 3 (0, 0))).alloc (by simp; omega) (.cells #[.bool false] 4 (0, 0))
    have b6 := ((Boxed.new w1 29 (.slice none 0 0)).alloc (.cells #[.int .i64 0] 3 (0, 0))).alloc (.cells #[.bool false] 4 (0, 0))
    have b7 : Boxed (((w1.alloc (.cells #[.slice none 0 0] 29 (0, 0))).alloc (.cells #[.int .i64 0] 3 (0, 0))).alloc (.cells #[.bool false] 4 (0, 0))) (w1.heap.size + 1) 3 (.int .i64 0) := by
      have := (Boxed.new (w1.alloc (.cells #[.slice none 0 0] 29 (0, 0))) 3 (.int .i64 0)).alloc (.cells #[.bool false] 4 (0, 0))
      rw [World.size_alloc] at this
      exact this
    have b8 : Boxed (((w1.alloc (.cells #[.slice none 0 0] 29 (0, 0))).alloc (.cells #[.int .i64 0] 3 (0, 0))).alloc (.cells #[.bool false] 4 (0, 0))) (w1.heap.size + 1 + 1) 4 (.bool false) := by
      have := Boxed.new ((w1.alloc (.cells #[.slice none 0 0] 29 (0, 0))).alloc (.cells #[.int .i64 0] 3 (0, 0))) 4 (.bool false)
      rw [World.size_alloc, World.size_alloc] at this
      exact this
    have hs3 : (((w1.alloc (.cells #[.slice none 0 0] 29 (0, 0))).alloc (.cells #[.int .i64 0] 3 (0, 0))).alloc (.cells #[.bool false] 4 (0, 0))).heap.size = w1.heap.size + 3 := by simp
    have B6 := Lib.hid b6
    have B7 := Lib.hid b7
    have B8 := Lib.hid b8
    have A3 := Lib.hid hA3
    have hs3' := Lib.hid hs3
    clear b6 b7 b8 hA3 hs3
    have z1 := box1 K1.out
    gi_upto_region 5 with fail
    generalize ((w1.alloc (.cells #[.slice none 0 0] 29 (0, 0))).alloc (.cells #[.int .i64 0] 3 (0, 0))).alloc (.cells #[.bool false] 4 (0, 0)) = wb at B6 B7 B8 A3 hs3' ⊢
    have hs3 := hs3'.out
    have K3 := Lib.hid ((A3.out.block w.heap.size (by omega)).trans K1.out)
    clear z1 hs3'
    have z3 := box1 K3.out
    gi_wp2
    refine ⟨trivial, ?_⟩
    refine (waysToCut_in _ _ _ _).mono ?_
    rintro e w' ⟨rfl, rfl⟩
    obtain ⟨S, hS⟩ : ∃ S, w1.heap.size = S := ⟨_, rfl⟩
    have hB := ((Below.refl wb.heap.size wb).alloc (Nat.le_refl _) (.cells #[.int .i64 (n : Int)] 3 (0, 0))).alloc (by simp) (.cells #[.int .i64 s] 3 (0, 0))
    have b6 := (B6.out.alloc (.cells #[.int .i64 (n : Int)] 3 (0, 0))).alloc (.cells #[.int .i64 s] 3 (0, 0))
    have b7 := (B7.out.alloc (.cells #[.int .i64 (n : Int)] 3 (0, 0))).alloc (.cells #[.int .i64 s] 3 (0, 0))
    have b8 := (B8.out.alloc (.cells #[.int .i64 (n : Int)] 3 (0, 0))).alloc (.cells #[.int .i64 s] 3 (0, 0))
    have b9 : Boxed ((wb.alloc (.cells #[.int .i64 (n : Int)] 3 (0, 0))).alloc (.cells #[.int .i64 s] 3 (0, 0))) (w1.heap.size + 3) 3 (.int .i64 (n : Int)) := by
      have := (Boxed.new wb 3 (.int .i64 (n : Int))).alloc (.cells #[.int .i64 s] 3 (0, 0))
      rw [hs3] at this
      exact this
    have b10 : Boxed ((wb.alloc (.cells #[.int .i64 (n : Int)] 3 (0, 0))).alloc (.cells #[.int .i64 s] 3 (0, 0))) (w1.heap.size + 3 + 1) 3 (.int .i64 s) := by
      have := Boxed.new (wb.alloc (.cells #[.int .i64 (n : Int)] 3 (0, 0))) 3 (.int .i64 s)
      rw [World.size_alloc, hs3] at this
      exact this
    have hs5 : ((wb.alloc (.cells #[.int .i64 (n : Int)] 3 (0, 0))).alloc (.cells #[.int .i64 s] 3 (0, 0))).heap.size = w1.heap.size + 5 := by simp; omega
    have A5 := A3.out.trans (hB.mono (by omega))
    rw [hs3, hS]
    rw [hS] at b6 b7 b8 b9 b10 hs5 A5 hs1
    clear hB B6 B7 B8 A3 z3 K3
    gi_wp2
    generalize (wb.alloc (.cells #[.int .i64 (n : Int)] 3 (0, 0))).alloc (.cells #[.int .i64 s] 3 (0, 0)) = W0 at b6 b7 b8 b9 b10 hs5 A5 ⊢
    have hI0 : BestInv w1 (W0.heap.size + 3) S m s [] W0 := ⟨⟨_, b6, Row.nil _ _⟩, b7, b8, A5, by rw [HN.out]; exact b9, b10⟩
    clear b6 b7 b8
    refine wpIn_rowsIter rfl (by omega) (gf := 63) (lb := #[.pointer (some ⟨S + 3, 0, none⟩), .pointer (some ⟨S + 3 + 1, 0, none⟩)]) rfl trivial (enters_of Try.func63 (by kernel_rfl) rfl)
      (Kp := KeepB S (S + 3) (S + 3 + 1))
      (ways1_given _ (by omega) (S + 3) (S + 3 + 1) n s (KeepB S (S + 3) (S + 3 + 1)) (fun X Y h => h.2) W0 _ _ b9 b10 _)
      keepB_t (keepB_b (by omega) (by omega) (by omega)) (Below.refl _ _) rfl
      (BestInv w1 (W0.heap.size + 3) S m s) (bestInv_own (by omega) (by omega)) hI0 ?a1 ?assign ?body ?done
    case assign =>
      intro l x W K hK
      gi_wp2
      exact hK
    case body =>
      rintro l pre v U0 U1 ⟨⟨u, h1, h2⟩, h3, h4, h5, h6, h7⟩ hsU hB hrow hlen
      obtain ⟨k, hk⟩ : ∃ k, pre.length = k := ⟨_, rfl⟩
      have hk' : (pre ++ [v]).length = k + 1 := by rw [List.length_append, hk]; rfl
      rw [hk] at h2 h3 h4 hrow
      have hsB := hB.size
      obtain ⟨x, hx⟩ : ∃ x, wayAt (n : Int) s k = x := ⟨_, rfl⟩
      have hx7 := way_short (n : Int) s k
      have hup := best_up (m := m) (s := s) (k := k)
      have hst := best_stay (m := m) (s := s) (k := k)
      rw [HN.out] at hup hst
      rw [hx] at hx7 hrow hup hst
      obtain ⟨M, hM⟩ : ∃ M, maxC m x = M := ⟨_, rfl⟩
      obtain ⟨L, hL⟩ : ∃ L, leastK m s k = L := ⟨_, rfl⟩
      obtain ⟨ar, cr, rfl, -⟩ := hrow.form
      have hin : IntsIn U1.heap.size U1 ar x.length x := hrow.ints rfl (by omega)
      have hA := h5.trans (hB.mono (by omega))
      have hc := HMC.out U1 (A1.out.trans (hA.mono (by omega))) ar x.length cr x hin
      rw [hM] at hc hup hst
      rw [hL] at h3 hup hst
      have HC := Lib.hid hc
      have HUP := Lib.hid hup
      have HST := Lib.hid hst
      have HK' := Lib.hid hk'
      have HA := Lib.hid hA
      have HR := Lib.hid (hrow.le hsU)
      have HQ := Lib.hid (h2.below hB)
      have hk1 := box1 ((hB.block _ (by omega)).trans ((h5.block w.heap.size (by omega)).trans K1.out))
      have g6 : Boxed U1 S 29 u := (hB.block _ h1.lt).trans h1
      have g7 : Boxed U1 (S + 1) 3 (.int .i64 L) := (hB.block _ h3.lt).trans h3
      have g8 : Boxed U1 (S + 1 + 1) 4 (.bool (decide (0 < k))) := (hB.block _ h4.lt).trans h4
      have g9 : Boxed U1 (S + 3) 3 (.int .i64 (m.length : Int)) := (hB.block _ h6.lt).trans h6
      have g10 : Boxed U1 (S + 3 + 1) 3 (.int .i64 s) := (hB.block _ h7.lt).trans h7
      have hsU1 : W0.heap.size + 3 ≤ U1.heap.size := by omega
      have HG6 := Lib.hid g6
      have HG7 := Lib.hid g7
      have HG8 := Lib.hid g8
      have HG9 := Lib.hid g9
      have HG10 := Lib.hid g10
      obtain ⟨d, hd⟩ : ∃ d, decide (0 < k) = d := ⟨_, rfl⟩
      rw [hd] at HG8
      have HD := Lib.hid hd
      obtain ⟨nr, hnr⟩ : ∃ nr, x.length = nr := ⟨_, rfl⟩
      rw [hnr] at HC HR HK' ⊢
      clear h1 h2 h3 h4 h5 h6 h7 hB hrow hin hA hc hup hst hM hL hx hx7 g6 g7 g8 g9 g10 hd hk' hk hlen hsB hnr b9 b10
      gi_wp2
      refine ⟨trivial, ?_⟩
      refine (CallsIn.inRound l (callsIn_wide.2 HC.out)).mono ?_
      rintro e wc ⟨rfl, hb⟩
      have hsc := hb.size
      have e6 : Boxed wc S 29 u := (hb.block _ (by omega)).trans HG6.out
      have e7 : Boxed wc (S + 1) 3 (.int .i64 L) := (hb.block _ (by omega)).trans HG7.out
      have e8 : Boxed wc (S + 1 + 1) 4 (.bool d) := (hb.block _ (by omega)).trans HG8.out
      have e9 : Boxed wc (S + 3) 3 (.int .i64 (m.length : Int)) := (hb.block _ (by omega)).trans HG9.out
      have e10 : Boxed wc (S + 3 + 1) 3 (.int .i64 s) := (hb.block _ (by omega)).trans HG10.out
      have HR' := Lib.hid (HR.out.below hb)
      have HQ' := Lib.hid (HQ.out.below hb)
      have HB := Lib.hid hb
      have E6 := Lib.hid e6
      have E7 := Lib.hid e7
      have E8 := Lib.hid e8
      have E9 := Lib.hid e9
      have E10 := Lib.hid e10
      have c7 := e7.cell
      have c8 := e8.cell
      have c6 := e6.cell
      have f6 := e6.frozen
      have f7 := e7.frozen
      have f8 := e8.frozen
      clear hb hk1 e6 e7 e8 e9 e10
      cases d
      · have hk0 : k = 0 := by have := of_decide_eq_false HD.out; omega
        have HU := Lib.hid (HUP.out (.inl hk0))
        clear hk0
        gi_wp2
        have q := best_round (S := S) (B := W0.heap.size) HB.out (.slice ar nr cr) (.int .i64 M) (.bool true) (by omega) hsU1
        refine ⟨q.1, q.2.1, q.2.2, ⟨⟨_, ((E6.out.set _).other (by omega) _).other (by omega) _, ?_⟩, ?_, ?_, HA.out.trans q.2.2.1, ((E9.out.other (by omega) _).other (by omega) _).other (by omega) _, ((E10.out.other (by omega) _).other (by omega) _).other (by omega) _⟩⟩
        · rw [HK'.out, HU.out.1]
          exact row_set8 (row_set8 (row_set8 HR'.out S (by omega) _) (S + 1) (by omega) _) (S + 1 + 1) (by omega) _
        · rw [HK'.out, HU.out.2]
          exact ((E7.out.other (by omega) _).set _).other (by omega) _
        · rw [HK'.out, show decide (0 < k + 1) = true from decide_eq_true (Nat.succ_pos k)]
          exact ((E8.out.other (by omega) _).other (by omega) _).set _
      · have hk0 : k ≠ 0 := by have := of_decide_eq_true HD.out; omega
        by_cases hML : M < L
        · have HU := Lib.hid (HUP.out (.inr hML))
          have hml : decide (M < L) = true := decide_eq_true hML
          clear hk0
          gi_wp2
          have q := best_round (S := S) (B := W0.heap.size) HB.out (.slice ar nr cr) (.int .i64 M) (.bool true) (by omega) hsU1
          refine ⟨q.1, q.2.1, q.2.2, ⟨⟨_, ((E6.out.set _).other (by omega) _).other (by omega) _, ?_⟩, ?_, ?_, HA.out.trans q.2.2.1, ((E9.out.other (by omega) _).other (by omega) _).other (by omega) _, ((E10.out.other (by omega) _).other (by omega) _).other (by omega) _⟩⟩
          · rw [HK'.out, HU.out.1]
            exact row_set8 (row_set8 (row_set8 HR'.out S (by omega) _) (S + 1) (by omega) _) (S + 1 + 1) (by omega) _
          · rw [HK'.out, HU.out.2]
            exact ((E7.out.other (by omega) _).set _).other (by omega) _
          · rw [HK'.out, show decide (0 < k + 1) = true from decide_eq_true (Nat.succ_pos k)]
            exact ((E8.out.other (by omega) _).other (by omega) _).set _
        · have HU := Lib.hid (HST.out hk0 (by omega))
          have hml : decide (M < L) = false := decide_eq_false hML
          clear hk0
          gi_wp2
          have q := best_still (S := S) (B := W0.heap.size) HB.out (by omega) hsU1
          refine ⟨q.1, q.2.1, q.2.2, ⟨⟨_, E6.out, ?_⟩, ?_, ?_, HA.out.trans q.2.2.1, E9.out, E10.out⟩⟩
          · rw [HK'.out, HU.out.1]
            exact HQ'.out
          · rw [HK'.out, HU.out.2]
            exact E7.out
          · rw [HK'.out, show decide (0 < k + 1) = true from decide_eq_true (Nat.succ_pos k)]
            exact E8.out
    case done =>
      rintro xs W hx ⟨⟨u, h1, h2⟩, h3, h4, h5, h6, h7⟩ hK
      rw [hx] at h2 h4
      have c6 := h1.cell
      have c8 := h4.cell
      have HK := Lib.hid hK
      have H2 := Lib.hid h2
      have H5 := Lib.hid h5
      clear h1 h2 h3 h4 h5 h6 h7 hK hx b9 b10
      gi_wp2
      gi_quiet (fail)
      have hK' : (W.drewN nq).heap[W0.heap.size]? = some (.deferred (some [])) := HK.out
      have hB' : Below w.heap.size w (W.drewN nq) := A1.out.trans ((H5.out.mono (by omega)).trans ⟨rfl, rfl, rfl, Nat.le_refl _, fun _ _ => rfl⟩)
      have hR' : Row (W0.heap.size + 3) (W.drewN nq) u (bestRow m s (waysI (n : Int) s).length) := H2.out
      gi_wp2
      refine marks_ret1 rfl hK' (results_tmp2 rfl _ _ _) ⟨u, ?_, ?_, below_put hB' (by omega) hK' _⟩
      · rw [HE2.out, HN.out]
        rfl
      · rw [HE1.out, HN.out]
        exact ((show Row _ _ _ _ from ownsRow_putObj hR' _ hK' rfl) : Row (W0.heap.size + 3) _ _ _).le (by omega)
end Go.Proofs.Ytkmcfbopilieeaa

end

/-! YtkmcfbopilieeaaCutD -/
section

namespace Go.Proofs.Ytkmcfbopilieeaa
open Go.RowKit Go.Sort
set_option linter.unusedVariables false

theorem ownRow_reads9 {F : Foot} {w : World} {es : List Value} {x : List Int} {B : Nat} (h : ownRow.owns F w es x) (hF : ∀ b o, F b o → b < B) (hb : x.length ≤ 1048576) : ∃ a n c, es = [.slice a n c] ∧ IntsIn B w a n x := by
  obtain ⟨a, n, c, rfl, -, -, hl⟩ := h
  refine ⟨a, n, c, rfl, ?_⟩
  have := (hl.listAt (I := Under B) (fun b o f => hF b o f) (by decide)).ints (by have := hl.1; omega)
  exact this
theorem ListL.at9 {T : TypeId} {lo hi : Nat} {w : World} {a : Option Addr} {n c : Nat} {xs : List dRow} (h : ListL ownRow T lo hi w (.slice a n c) xs) (j : Nat) (x : dRow) (hx : xs[j]? = some x) (hb : x.length ≤ 1048576) :
    ∃ g ax nx cx, a = some ⟨g, 0, none⟩ ∧ j < n ∧ lo ≤ g ∧ g < hi ∧ w.cell? ⟨g, j, none⟩ = some (.slice ax nx cx) ∧ IntsIn hi w ax nx x := by
  obtain ⟨us, G, h1, h2, h3, h4, h5⟩ := h.all
  have hj := (List.getElem?_eq_some_iff.1 hx).1
  obtain ⟨es, q1, q2⟩ := h3 j x hx
  obtain ⟨ax, nx, cx, rfl, hi'⟩ := ownRow_reads9 q2 (fun b o f => (h4 j b o f).2.1) hb
  have h1' := h1
  rcases h1.2 with ⟨e, hn⟩ | ⟨g, cap, cur, e, e1, e2, e3, e4, -⟩
  · omega
  · cases e
    refine ⟨g, ax, nx, cx, rfl, hj, e1, h2 g rfl, ?_, hi'⟩
    rw [World.ownsRow.cellAt h1' j (by show j < xs.length * 1; omega)]
    have := q1 0 _ rfl
    simpa [ownRow_size] using this
theorem bestB_nil {m : List dOp} {s : Int} (h : bestB m s = false) : bestC m s = [] := by
  unfold bestC
  rw [h]
  rfl
theorem best_next (m : List dOp) (s : Int) (k : Nat) : bestI m s (k + 1) = if maxC m (wayAt m.length s k) < maxC m (wayAt m.length s (bestI m s k)) then k else bestI m s k := rfl
theorem best_one (m : List dOp) (s : Int) : bestI m s 1 = 0 := by
  rw [best_next]
  split <;> rfl
theorem ints_news8 {B : Nat} {w : World} {ad : Addr} {n : Nat} {xs : List Int} (h : IntsIn B w (some ad) n xs) : ∀ j u, (icells xs)[j]? = some u → w.cell? (ad.add j) = some u := fun j u hu => by
  have hj : j < xs.length := by
    have := (List.getElem?_eq_some_iff.1 hu).1
    rwa [icells_length] at this
  obtain ⟨b', o', e, _, _⟩ := h.cells j (by rw [← h.len]; exact hj)
  cases e
  exact ints_news h j u hu
set_option maxRecDepth 100000 in
set_option maxHeartbeats 3200000 in
theorem specBestCuts_o (w : World) (a : Option Addr) (n c : Nat) (m : List dOp) (h : ListAt shOp (Under w.heap.size) w a n m) (hc1 : n ≤ c) (hc2 : c ≤ 9223372036854775807) (hb : (Shape.list shOp).bulk m ≤ 1048576) (k : Int) :
    Calls Try.prog 34 #[.agg #[.slice a n c], .int .i64 k] w fun e w' => ∃ v, e = .returned (.tuple #[v, .bool (bestB m k)]) ∧ Row w.heap.size w' v (bestC m k) ∧ Below w.heap.size w w' := by
  obtain ⟨i0, hi, hz0, hz1, hz2⟩ := info_parts Try.infoI64
  have hal : Below w.heap.size w (w.alloc (.cells #[.slice a n c] 26 (0, 0))) := (Below.refl _ _).alloc (Nat.le_refl _) _
  have hk0 := heap_alloc_new w (.cells #[.slice a n c] 26 (0, 0))
  have hs0 : (w.alloc (.cells #[.slice a n c] 26 (0, 0))).heap.size = w.heap.size + 1 := by simp
  have HN := Lib.hid h.1
  have HL := Lib.hid fun (wx : World) (hx : Below w.heap.size w wx) => (h.below hx (Nat.le_refl _)).le hx.size
  have HMO := Lib.hid fun (wx : World) (hx : Below w.heap.size w wx) => specModelOk_c wx a n c m (HL.out wx hx) hc1 hc2 hb
  have HBM := Lib.hid hb
  have A0 := Lib.hid hal
  have K0 := Lib.hid hk0
  clear h hal hk0 hb
  obtain ⟨mo, hmo⟩ : ∃ mo, modelOkB m = mo := ⟨_, rfl⟩
  simp only [hmo] at HMO
  have HIN := Lib.hid fun (wx : World) => l1In_any k 1 (n : Int) wx
  obtain ⟨d, hd⟩ : ∃ d, inB 1 (n : Int) k = d := ⟨_, rfl⟩
  rw [hd] at HIN
  have hbb : bestB m k = (mo && d) := by unfold bestB; rw [hmo, HN.out, hd]
  go_enter Try.func34, Try.ntmps34
  go_upto_region 1 with fail
  generalize w.alloc (.cells #[.slice a n c] 26 (0, 0)) = wa at A0 K0 hs0 ⊢
  have z0 := box1 K0.out
  have HC := Lib.hid (HMO.out wa A0.out)
  cases mo
  · have HBB := Lib.hid hbb
    clear hbb hd hmo HIN
    go_wp2_with fail
    refine HC.out.mono ?_
    rintro e w1 ⟨rfl, hb⟩
    have A1 := Lib.hid (A0.out.trans (hb.mono (by omega)))
    have z1 := box1 ((hb.block w.heap.size (by omega)).trans K0.out)
    clear hb z0 HC
    have hr := Row.empty w1 (.cells #[] 3 (0, 0)) rfl
    have hr2 := Lib.hid hr
    have hs1 := A1.out.size
    go_wp2_with fail
    go_ret2
    refine ⟨_, by rw [HBB.out]; rfl, ?_, A1.out.alloc hs1 _⟩
    rw [bestB_nil HBB.out]
    exact hr2.out.le hs1
  · cases d
    · have HBB := Lib.hid hbb
      clear hbb hd hmo
      go_wp2_with fail
      refine HC.out.mono ?_
      rintro e w1 ⟨rfl, hb⟩
      have A1 := Lib.hid (A0.out.trans (hb.mono (by omega)))
      have z1 := box1 ((hb.block w.heap.size (by omega)).trans K0.out)
      clear hb z0 HC
      have hr := Row.empty w1 (.cells #[] 3 (0, 0)) rfl
      have hr2 := Lib.hid hr
      have hs1 := A1.out.size
      go_wp2_with fail
      refine (HIN.out _).mono ?_
      rintro e w2 ⟨rfl, rfl⟩
      go_wp2_with fail
      go_ret2
      refine ⟨_, by rw [HBB.out]; rfl, ?_, A1.out.alloc hs1 _⟩
      rw [bestB_nil HBB.out]
      exact hr2.out.le hs1
    · have hin := inB_has hd
      obtain ⟨s, rfl⟩ : ∃ s : Nat, k = s := ⟨k.toNat, by omega⟩
      have hm8 := cutsOk_has (m := m) (l := []) (by unfold cutsOkB; rw [hmo]; rfl)
      rw [HN.out] at hm8
      have s1 : 1 ≤ s := by omega
      have sn : s ≤ n := by omega
      have n8 : n ≤ 8 := hm8.2.2.1
      obtain ⟨N, hN⟩ : ∃ N, (ways n s).length = N := ⟨_, rfl⟩
      have hw := ways_at s1 sn n8
      have hwy := waysI_yes s1 sn n8
      have hN1 := hw.some
      have hN35 := hw.few
      rw [hN] at hN1 hN35
      have hlb : bestC m (s : Int) = wayAt n s (bestI m s N) := by
        unfold bestC
        rw [if_pos (by rw [hbb]; rfl), HN.out, hwy, hN]
      obtain ⟨t, ht⟩ : ∃ t, s - 1 = t := ⟨_, rfl⟩
      have HT := Lib.hid ht
      have HW := Lib.hid hw
      have HHN := Lib.hid hN
      have HLB := Lib.hid hlb
      have HBB := Lib.hid hbb
      have HALL := Lib.hid fun (wx : World) => specAllCuts_o wx n s
      simp only [hwy] at HALL
      have t7 : t ≤ 7 := by omega
      clear hbb hd hmo hin hm8 hw hwy hlb hN ht
      go_wp2_with fail
      refine HC.out.mono ?_
      rintro e w1 ⟨rfl, hb⟩
      have A1 := Lib.hid (A0.out.trans (hb.mono (by omega)))
      have z1 := box1 ((hb.block w.heap.size (by omega)).trans K0.out)
      have K1 := Lib.hid ((hb.block w.heap.size (by omega)).trans K0.out)
      have hs1 : w.heap.size < w1.heap.size := by have := hb.size; omega
      clear hb z0 HC
      go_wp2_with fail
      refine (HIN.out _).mono ?_
      rintro e w2 ⟨rfl, rfl⟩
      go_wp2_with fail
      refine (HALL.out _).mono ?_
      rintro e w3 ⟨v, rfl, hlist, hb⟩
      have A3 := Lib.hid (A1.out.trans (hb.mono (by omega)))
      have K3 := Lib.hid ((hb.block w.heap.size hs1).trans K1.out)
      have hs3 : w.heap.size < w3.heap.size := by have := hb.size; omega
      obtain ⟨av, cv, rfl, -, -, -⟩ := hlist.list (by decide)
      rw [HHN.out] at hlist ⊢
      obtain ⟨x0, hx0⟩ : ∃ x, (ways n s)[0]? = some x := ⟨_, List.getElem?_eq_getElem (by rw [HHN.out]; omega)⟩
      have hx0l := HW.out.len 0 x0 hx0
      rw [HT.out] at hx0l
      have hx0w : wayAt n s 0 = x0 := by
        have h1 := wayAt_get s1 sn n8 (show 0 < (ways n s).length by rw [HHN.out]; omega)
        rw [hx0] at h1
        exact (Option.some.inj h1).symm
      obtain ⟨g, ax, nx, cx, rfl, -, -, hg, hce, hxi⟩ := hlist.at9 0 x0 hx0 (by omega)
      have hnx : nx = t := hxi.len.symm.trans hx0l.1
      rw [hnx] at hce hxi
      have HLI := Lib.hid hlist
      have HX0 : Hid (IntsIn w3.heap.size w3 ax t (wayAt n s (bestI m s 1))) := Lib.hid (by rw [best_one, hx0w]; exact hxi)
      have hN0 : (0 : Int) < (N : Int) := by omega
      have hNn : 0 < N := hN1
      clear hb hlist hx0 hx0l hx0w hxi hnx z1 HALL HIN
      go_wp2_with fail
      clear hce
      go_loopw [7, 8] (fun u i wr => ∃ (q : Nat) (ab : Option Addr) (cb : Nat), 1 ≤ q ∧ q ≤ N ∧ i = .int .i64 q ∧ u = .slice ab t cb ∧ IntsIn w3.heap.size w3 ab t (wayAt n s (bestI m s q)) ∧ Below w3.heap.size w3 wr) (fun _ i _ => N - (intOf i).toNat)
      case atStart => exact ⟨1, ax, cx, Nat.le_refl _, hN1, rfl, rfl, HX0.out, Below.refl _ _⟩
      case round =>
        obtain ⟨q, ab, cb, hq1, hq, rfl, rfl, hbest, hbq⟩ := hrel
        have hsq := hbq.size
        have BQ := Lib.hid hbq
        have KQ := Lib.hid ((hbq.block w.heap.size hs3).trans K3.out)
        have hswr : w.heap.size < wr.heap.size := by omega
        clear hbq
        by_cases hqn : q < N
        · have hqd : decide ((q : Int) < (N : Int)) = true := decide_eq_true (by omega)
          obtain ⟨x, hx⟩ : ∃ x, (ways n s)[q]? = some x := ⟨_, List.getElem?_eq_getElem (by rw [HHN.out]; exact hqn)⟩
          have hxl := HW.out.len q x hx
          rw [HT.out] at hxl
          have hxw : wayAt n s q = x := by
            have h1 := wayAt_get s1 sn n8 (show q < (ways n s).length by rw [HHN.out]; exact hqn)
            rw [hx] at h1
            exact (Option.some.inj h1).symm
          obtain ⟨g', ax', nx', cx', eg, -, -, hg', hce', hxi'⟩ := HLI.out.at9 q x hx (by omega)
          cases eg
          have hnx' : nx' = t := hxi'.len.symm.trans hxl.1
          rw [hnx'] at hce' hxi'
          obtain ⟨L, hL⟩ : ∃ L, wayAt n s (bestI m s q) = L := ⟨_, rfl⟩
          obtain ⟨C, hC⟩ : ∃ C, maxC m x = C := ⟨_, rfl⟩
          obtain ⟨U, hU⟩ : ∃ U, maxC m L = U := ⟨_, rfl⟩
          have hnext := best_next m s q
          rw [HN.out, hxw, hL, hC, hU] at hnext
          rw [hL] at hbest
          have HMX := Lib.hid fun (wx : World) (hh : Below w3.heap.size w3 wx) => specMaxCost_c wx a n c m (HL.out wx (A3.out.trans (hh.mono (by omega)))) hc1 hc2 HBM.out ax' t cx' x ((hxi'.below hh (Nat.le_refl _)).le hh.size)
          have HMB := Lib.hid fun (wx : World) (hh : Below w3.heap.size w3 wx) => specMaxCost_c wx a n c m (HL.out wx (A3.out.trans (hh.mono (by omega)))) hc1 hc2 HBM.out ab t cb L ((hbest.below hh (Nat.le_refl _)).le hh.size)
          simp only [hC] at HMX
          simp only [hU] at HMB
          have HCE := Lib.hid fun (wx : World) (hh : Below w3.heap.size w3 wx) => (hh.cell (p := ⟨g, q, none⟩) hg').trans hce'
          have kx := HCE.out wr BQ.out
          have HNX := Lib.hid hnext
          have HXI := Lib.hid hxi'
          have HBE := Lib.hid hbest
          have HXW := Lib.hid hxw
          have HLL := Lib.hid hL
          clear hx hxl hxw hce' hxi' hnx' hL hC hU hnext hbest
          go_upto_region 8 with fail
          have kb := cell_regrown (box1 KQ.out)
          have kc := cell_regrown kx
          have cC1 := fun q os => Calls.regrown_of (w := wr) (d := q) (os := os) (HMX.out _ (BQ.out.trans ((below_regrown wr q os).mono BQ.out.size)))
          have cC2 := fun q os => Calls.regrown_of (w := wr) (d := q) (os := os) (HMB.out _ (BQ.out.trans ((below_regrown wr q os).mono BQ.out.size)))
          have CC1 := Lib.hid cC1
          have CC2 := Lib.hid cC2
          clear cC1 cC2
          refine wp_region_quiet_below (by kernel_rfl) (by kernel_rfl) ?_
          repeat (go_big_quiet_step (with_reducible first | exact CC1.out _ _ | exact CC2.out _ _))
          refine wpQuiet_nil ?_
          intro _ hw'
          obtain ⟨⟨dq, osq⟩, hw''⟩ := hw'
          subst hw''
          have hwq := below_regrown wr dq osq
          generalize grow (redrawn wr dq) osq = wa' at hwq ⊢
          have BA := Lib.hid (BQ.out.trans (hwq.mono hsq))
          clear hwq CC1 CC2 kb kc kx
          have kx := HCE.out wa' BA.out
          by_cases hcu : C < U
          · have hcd : decide (C < U) = true := decide_eq_true hcu
            have HN1 := Lib.hid (HNX.out.trans (if_pos hcu))
            go_wp2_with fail
            go_roundw
            case rel => exact ⟨q + 1, ax', cx', by omega, by omega, by go_num, rfl, by rw [HN1.out, HXW.out]; exact HXI.out, BA.out⟩
            case measure => simp [intOf]; omega
          · have hcd : decide (C < U) = false := decide_eq_false hcu
            have HN1 := Lib.hid (HNX.out.trans (if_neg hcu))
            go_wp2_with fail
            go_roundw
            case rel => exact ⟨q + 1, ab, cb, by omega, by omega, by go_num, rfl, by rw [HN1.out, HLL.out]; exact HBE.out, BA.out⟩
            case measure => simp [intOf]; omega
        · obtain rfl : q = N := by omega
          have hqd : decide ((q : Int) < (q : Int)) = false := decide_eq_false (by omega)
          rw [← HLB.out] at hbest
          obtain ⟨L, hL⟩ : ∃ L, bestC m (s : Int) = L := ⟨_, rfl⟩
          rw [hL] at hbest
          have hE0 : (wr.alloc (.cells #[] 3 (0, 0))).ownsRow wr.heap.size 3 1 (.slice (some ⟨wr.heap.size, 0, none⟩) 0 0) 0 [] := Row.empty wr _ rfl
          have HE0 := Lib.hid hE0
          have HBE := Lib.hid hbest
          have HLL := Lib.hid hL
          have HIW := Lib.hid ((hbest.below BQ.out (Nat.le_refl _)).below ((Below.refl wr.heap.size wr).alloc (Nat.le_refl _) (.cells #[] 3 (0, 0))) (by omega))
          have AR := Lib.hid (A3.out.trans (BQ.out.mono (by omega)))
          have hsw0 := AR.out.size
          cases ab with
          | none =>
            obtain rfl : t = 0 := by
              rcases Nat.eq_zero_or_pos t with h | h
              · exact h
              · obtain ⟨b, o, e, -⟩ := hbest.cells 0 h
                cases e
            have hL0 : L = [] := List.eq_nil_of_length_eq_zero hbest.len
            have HL0 := Lib.hid hL0
            clear hE0 hbest hL hL0
            go_wp2_with fail
            go_ret2
            refine ⟨_, by rw [HBB.out]; rfl, ?_, AR.out.alloc hsw0 _⟩
            rw [HLL.out, HL0.out]
            exact (show Row wr.heap.size _ _ [] from HE0.out).le hsw0
          | some ad =>
            clear hE0 hbest hL
            go_wp2_with (at_builtin; refine wpList_append_own _ rfl _ _ 29 rfl wr.heap.size 3 i0 (.int .i64 0) 1 8 Try.underlying29 hi hz0 hz1 hz2 rfl (by decide) _ _ _ rfl HE0.out ad t cb (icells L) rfl (by rw [icells_length, HBE.out.len, Nat.mul_one]) (ints_news8 HIW.out) (icells_one _) (by unfold maxLen; omega) (by omega) (by simp) ?_; intro v2 w2 hown hgrow _; have hr := row_new hown; have hb := ((Below.refl wr.heap.size wr).alloc (Nat.le_refl _) (.cells #[] 3 (0, 0))).grown hgrow (by simp) (fun k e => by cases e; exact Nat.le_refl _); have HR2 := Lib.hid hr; have HB2 := Lib.hid hb; clear hown hgrow hr hb)
            go_ret2
            refine ⟨v2, by rw [HBB.out]; rfl, ?_, AR.out.trans (HB2.out.mono hsw0)⟩
            rw [HLL.out]
            exact HR2.out.le hsw0
end Go.Proofs.Ytkmcfbopilieeaa

end

/-! YtkmcfbopilieeaaBestX -/
section

namespace Go.Proofs.Ytkmcfbopilieeaa
open Go.RowKit Go.Sort
set_option linter.unusedVariables false

theorem best_len (m : List dOp) (s : Int) : (bestC m s).length ≤ 7 := by
  unfold bestC
  split
  · exact way_short _ _ _
  · simp
theorem ints_bulk7 {xs : List Int} (h : xs.length ≤ 7) : (Shape.list Shape.int).bulk xs ≤ 1048576 := by
  rw [bulk_ints]
  omega
set_option maxRecDepth 100000 in
set_option maxHeartbeats 6400000 in
theorem lawBestCuts_any (w : World) (es0 : List Value) (x0 : dModel) (h0 : shModel.reads (Under w.heap.size) w es0 x0) (a1 : Int) :
    Calls Try.prog 10 #[(.agg es0.toArray), .int .i64 a1] w fun e w' => e = .returned (.bool true) ∧ Below w.heap.size w w' := by
  obtain ⟨a0, n0, c0, rfl, -⟩ := shModel_reads.1 h0
  obtain ⟨u0, hu0⟩ : ∃ u, shModel.bulk x0 = u := ⟨_, rfl⟩
  have U0 := Lib.hid hu0
  have F0 := Lib.hid fun (wx : World) (hx : Below w.heap.size w wx) => shModel.le (shModel.below h0 hx (Nat.le_refl _)) hx.size
  clear hu0 h0
  have hal : Below w.heap.size w (w.alloc (.cells #[.slice a0 n0 c0] 51 (0, 0))) := (Below.refl _ _).alloc (Nat.le_refl _) _
  have hk0 := heap_alloc_new w (.cells #[.slice a0 n0 c0] 51 (0, 0))
  have hs0 : (w.alloc (.cells #[.slice a0 n0 c0] 51 (0, 0))).heap.size = w.heap.size + 1 := by simp
  by_cases f0 : ((u0 : Nat) : Int) ≤ 1048576
  · go_enter Try.func10, Try.ntmps10
    go_upto_region 2 with fail
    generalize w.alloc (.cells #[.slice a0 n0 c0] 51 (0, 0)) = wa at hal hk0 hs0 ⊢
    have hu : u0 ≤ 1048576 := by omega
    have hc := szModel_c _ _ _ x0 (1048576) (F0.out wa hal) (Nat.le_refl _) (by omega) (by omega)
    rw [U0.out, szN_yes (by omega)] at hc
    obtain ⟨l0, hl0⟩ : ∃ l, 1048576 - (u0 : Int) = l := ⟨_, rfl⟩
    rw [hl0] at hc
    have t0 : decide (l0 < 0) = false := decide_eq_false (by omega)
    have HC := Lib.hid hc
    have A0 := Lib.hid hal
    have K0 := Lib.hid hk0
    have z0 := box1 K0.out
    clear hc hal hk0 hl0
    go_wp2_with fail
    refine HC.out.mono ?_
    rintro e w1 ⟨rfl, hb⟩
    have T1 := Lib.hid (A0.out.trans (hb.mono (by omega)))
    have K1 := Lib.hid ((hb.block w.heap.size (by omega)).trans K0.out)
    have hs1 : w.heap.size < w1.heap.size := by have := hb.size; omega
    clear hb z0 HC
    have z1 := box1 K1.out
    have HC := Lib.hid (toModel_c w1 _ _ x0 (F0.out w1 T1.out) (Nat.le_refl _) (by rw [U0.out]; omega))
    go_wp2_with fail
    refine HC.out.mono ?_
    rintro e w2 ⟨ey, rfl, hr, hb⟩
    obtain ⟨ay, ny, cy, rfl, gy1, gy2, hly⟩ := shModel_reads.1 (shModel.under hr)
    have hs2 := hb.size
    have T2 := Lib.hid (T1.out.trans (hb.mono T1.out.size))
    have K2 := Lib.hid ((hb.block w.heap.size hs1).trans K1.out)
    have HC2 := Lib.hid (specBestCuts_o w2 ay ny cy x0 hly gy1 gy2 (by rw [← shModel_bulk, U0.out]; omega) a1)
    obtain ⟨d, hd⟩ : ∃ d, bestB x0 a1 = d := ⟨_, rfl⟩
    obtain ⟨xs, hxs⟩ : ∃ xs, bestC x0 a1 = xs := ⟨_, rfl⟩
    have hx7 := best_len x0 a1
    rw [hxs] at hx7
    rw [hd, hxs] at HC2
    have HD := Lib.hid hd
    have HXS := Lib.hid hxs
    clear hb hr hly z1 HC hd hxs
    go_wp2_with fail
    refine HC2.out.mono ?_
    rintro e w3 ⟨v, rfl, hrow, hb⟩
    obtain ⟨aw, cw, rfl, hiw⟩ := hrow.form
    have W3 := Lib.hid (hiw (by omega))
    obtain ⟨nx, hnx⟩ : ∃ nx, xs.length = nx := ⟨_, rfl⟩
    rw [hnx] at W3 ⊢
    have hs3 := hb.size
    have T3 := Lib.hid (T2.out.trans (hb.mono T2.out.size))
    have K3 := Lib.hid ((hb.block w.heap.size (by omega)).trans K2.out)
    clear hb hrow hiw HC2
    have z3 := box1 K3.out
    have HC := Lib.hid (toModel_o w3 _ _ x0 (F0.out w3 T3.out) (Nat.le_refl _) (by rw [U0.out]; omega))
    go_wp2_with fail
    refine HC.out.mono ?_
    rintro e w4 ⟨ex, rfl, ho, hb⟩
    obtain ⟨ax, nxx, cx, rfl, -⟩ := ownModel_owns.1 ho
    have hs4 := hb.size
    have B4 := Lib.hid hb
    have X4 := Lib.hid ho
    clear hb ho z3 HC
    have ha5 : Below w4.heap.size w4 (w4.alloc (.cells #[.slice ax nxx cx] 26 (0, 0))) := (Below.refl _ _).alloc (Nat.le_refl _) _
    have hk5 := heap_alloc_new w4 (.cells #[.slice ax nxx cx] 26 (0, 0))
    have hs5 : (w4.alloc (.cells #[.slice ax nxx cx] 26 (0, 0))).heap.size = w4.heap.size + 1 := by simp
    have A5 := Lib.hid ha5
    have K5 := Lib.hid hk5
    clear ha5 hk5
    go_upto_region 7 with fail
    generalize w4.alloc (.cells #[.slice ax nxx cx] 26 (0, 0)) = w5 at A5 K5 hs5 ⊢
    have T5 := Lib.hid (B4.out.trans (A5.out.mono hs4))
    have HX := Lib.hid fun (wx : World) (hx : Below w4.heap.size w4 wx) => ownModel.owns_reads (I := Under wx.heap.size) (ownModel.owns_keep X4.out (.of_below hx fun b o f => f.2)) (fun b o f => Nat.lt_of_lt_of_le f.2 hx.size)
    obtain ⟨a', n', c', e', gx1, gx2, hlx⟩ := shModel_reads.1 (HX.out w5 A5.out)
    cases e'
    have HI := Lib.hid fun (wx : World) (a' : Option Addr) (n' c' : Nat) (hl : ListAt shOp (Under wx.heap.size) wx a' n' x0) (q1 : n' ≤ c') (q2 : c' ≤ 9223372036854775807) => implBestCuts_o wx a' n' c' x0 hl q1 q2 (by rw [← shModel_bulk, U0.out]; omega) a1
    rw [HD.out, HXS.out] at HI
    have HC := Lib.hid (HI.out w5 _ _ _ hlx gx1 gx2)
    have z5 := box1 K5.out
    clear hlx gx1 gx2
    go_wp2_with fail
    refine HC.out.mono ?_
    rintro e w6 ⟨v, rfl, hrow, hb⟩
    obtain ⟨ag, ng, cg, e', -, -, hown⟩ := hrow.own
    obtain rfl : v = .slice ag ng cg := by simpa using e'
    obtain rfl : ng = nx := hown.1.symm.trans hnx
    have G6 := Lib.hid hown
    have hs6 := hb.size
    have B6 := Lib.hid (A5.out.trans (hb.mono (by omega)))
    have L6 := Lib.hid (T5.out.trans (hb.mono (by omega)))
    have K6 := Lib.hid ((hb.block w4.heap.size (by omega)).trans K5.out)
    clear hb hrow z5 HC hown
    have HGI := Lib.hid fun (wx : World) (ys : List Int) (hl : OwnList Owned.int (FromB w5.heap.size w6.heap.size) wx ag ng ys) (hz : w6.heap.size ≤ wx.heap.size) => (hl.listAt (I := Under wx.heap.size) (fun b o f => Nat.lt_of_lt_of_le f.2 hz) (by decide)).ints (by omega)
    have HWI := Lib.hid fun (wx : World) (hx : Below w3.heap.size w3 wx) => (W3.out.below hx (Nat.le_refl _)).le hx.size
    have HC := Lib.hid (eqIntS_same w6 ag ng cg xs aw cw (HGI.out w6 xs G6.out (Nat.le_refl _)) (HWI.out w6 L6.out))
    have hdd : (d != d) = false := by simp
    go_wp2_with fail
    refine HC.out.mono ?_
    rintro e w7 ⟨rfl, hb⟩
    have hs7 := hb.size
    have B7 := Lib.hid (B6.out.trans (hb.mono (by omega)))
    have L7 := Lib.hid (L6.out.trans (hb.mono (by omega)))
    have N7 := Lib.hid hb
    have K7 := Lib.hid ((hb.block w4.heap.size (by omega)).trans K6.out)
    have KA7 := Lib.hid ((L7.out.block w.heap.size (by omega)).trans K3.out)
    clear hb HC
    have zx := box1 K7.out
    have za := box1 KA7.out
    go_upto_region 10 with fail
    go_cut [49] (fun t wx => t = .bool false ∧ Below w7.heap.size w7 wx)
    case first =>
      have hdr : Below w7.heap.size w7 w7.drew := (Below.refl _ _).drew
      have FD := Lib.hid (F0.out w7.drew (T3.out.trans ((L7.out.trans (hdr.mono L7.out.size)).mono T3.out.size)))
      have XD := Lib.hid (HX.out w7.drew (B7.out.trans (hdr.mono B7.out.size)))
      have DR := Lib.hid hdr
      have szd : w7.heap.size ≤ w7.drew.heap.size := hdr.size
      have XBD : Hid (w7.drew.heap[w4.heap.size]? = some (.cells #[.slice ax nxx cx] 26 (0, 0))) := Lib.hid K7.out
      clear hdr
      have HC1 := Lib.hid (toModel_c w7.drew _ _ x0 FD.out (Nat.le_refl _) (by rw [U0.out]; omega))
      have HC2 := Lib.hid fun (w1 : World) (es : List Value) (hb : Below w7.drew.heap.size w7.drew w1) (hr : shModel.reads (From w7.drew.heap.size w1.heap.size) w1 es x0) => eqModel_c w1 _ _ _ es x0 (shModel.below XD.out hb (Nat.le_refl _)) (shModel.under hr) (by have := hb.size; omega) (Nat.le_refl _) (by rw [U0.out]; omega)
      go_region_law (first
        | (go_simp; go_at_call 28; (with_reducible refine HC1.out.mono ?_); rintro e wt ⟨eg, rfl, hr, hb⟩; have hq := HC2.out wt eg hb hr; have zz := box1 ((hb.block w4.heap.size (by omega)).trans XBD.out); obtain ⟨ag_0, ng_0, cg_0, rfl, -⟩ := shModel_reads.1 hr; have HQ := Lib.hid hq; have HBT := Lib.hid hb; have szt := hb.size; clear hb hr hq)
        | (go_simp; go_at_call 30; (with_reducible refine HQ.out.mono ?_); rintro e wq ⟨rfl, hb⟩; have BQ := Lib.hid (DR.out.trans ((HBT.out.mono szd).trans (hb.mono (by omega)))); clear hb))
      all_goals
        go_wp2_with fail
        go_meet
        case rel => exact ⟨rfl, BQ.out⟩
    case rest =>
      obtain ⟨rfl, hb⟩ := hcut
      clear zx za
      obtain ⟨w8, rfl⟩ : ∃ x, x = wc := ⟨_, rfl⟩
      have hs8 := hb.size
      have N8 := Lib.hid (N7.out.trans (hb.mono hs7))
      have L8 := Lib.hid (L7.out.trans (hb.mono (by omega)))
      have B8 := Lib.hid (B7.out.trans (hb.mono (by omega)))
      have K8 := Lib.hid ((hb.block w4.heap.size (by omega)).trans K7.out)
      clear hb
      have hct := ownModel_few x0
      rw [U0.out] at hct
      obtain ⟨Mk, hMk⟩ : ∃ Mk : Int, 1 + (ownModel.ctT x0 : Nat) = Mk := ⟨_, rfl⟩
      have hc := markModel_o w8 _ [.slice ax nxx cx] x0 1 (ownModel.owns_keep X4.out (.of_below B8.out fun b o f => f.2)) (fun b o f => Nat.lt_of_lt_of_le f.2 (by omega)) (by rw [U0.out]; omega) (by omega) (by omega)
      rw [hMk] at hc
      have hmk : decide (Mk < 0) = false := decide_eq_false (by omega)
      have HC := Lib.hid hc
      have z8 := box1 K8.out
      clear hc hct hMk
      go_wp2_with fail
      refine HC.out.mono ?_
      rintro e w9 ⟨rfl, -, wz, hbz, ht⟩
      have hsz := hbz.size
      have hs9 : w9.heap.size = wz.heap.size := ht.size
      have L9 := Lib.hid (L8.out.trans ((hbz.mono (by omega)).trans (ht.below (B := w3.heap.size) fun b o f => f.1)))
      have hap : Apart (FromB w3.heap.size w4.heap.size) (FromB w5.heap.size w6.heap.size) := fromB_apart (by omega)
      have G9 := Lib.hid ((OwnList.keep G6.out (.of_below (N8.out.trans (hbz.mono (by omega))) fun b o f => f.2)).keep (ht.same hap))
      clear hbz ht z8 HC hap
      have HC := Lib.hid (eqIntS_same w9 ag ng cg xs aw cw (HGI.out w9 xs G9.out (by omega)) (HWI.out w9 L9.out))
      go_wp2_with fail
      refine HC.out.mono ?_
      rintro e w10 ⟨rfl, hb⟩
      have hs10 := hb.size
      have L10 := Lib.hid (L9.out.trans (hb.mono (by omega)))
      have G10 := Lib.hid (OwnList.keep G9.out (.of_below hb fun b o f => by have := f.2; omega))
      clear hb HC
      have hc := markIntS_o w10 _ ag ng cg xs 1 G10.out (ints_bulk7 hx7) (by omega) (by rw [sum_ones]; omega)
      rw [sum_ones, hnx] at hc
      obtain ⟨M, hM⟩ : ∃ M : Int, 1 + (ng : Int) = M := ⟨_, rfl⟩
      rw [hM] at hc
      have hm0 : decide (M < 0) = false := decide_eq_false (by omega)
      have hmm : (M != M) = false := by simp
      have HC := Lib.hid hc
      clear hc
      go_wp2_with fail
      refine HC.out.mono ?_
      rintro e w11 ⟨rfl, ho, ht⟩
      have hs11 : w11.heap.size = w10.heap.size := ht.size
      have L11 := Lib.hid (L10.out.trans (ht.below (B := w3.heap.size) fun b o f => by have := f.1; omega))
      have G11 := Lib.hid ho
      clear ho ht HC
      have HH := Lib.hid fun (wx : World) (hx : Below w11.heap.size w11 wx) => heldIntS_o wx wx.heap.size ag ng cg xs 1 ((OwnList.keep G11.out (.of_below hx fun b o f => by have := f.2; omega)).listAt (I := Under wx.heap.size) (fun b o f => by have := f.2; have := hx.size; show b < _; omega) (by decide)) (ints_bulk7 hx7) (by omega) (by rw [sum_ones]; omega)
      simp only [sum_ones, hnx, hM] at HH
      have HC := Lib.hid (HH.out w11 (Below.refl _ _))
      go_wp2_with fail
      refine HC.out.mono ?_
      rintro e w' ⟨rfl, rfl⟩
      clear HC
      have KA11 := Lib.hid ((L11.out.block w.heap.size (by omega)).trans K3.out)
      have z11 := box1 KA11.out
      have T11 := Lib.hid (T3.out.trans (L11.out.mono T3.out.size))
      have HC := Lib.hid (toModel_c w11 _ _ x0 (F0.out w11 T11.out) (Nat.le_refl _) (by rw [U0.out]; omega))
      go_wp2_with fail
      refine HC.out.mono ?_
      rintro e w12 ⟨ep, rfl, hr, hb⟩
      obtain ⟨ap, np, cp, rfl, gp1, gp2, hlp⟩ := shModel_reads.1 (shModel.under hr)
      have hs12 := hb.size
      have N12 := Lib.hid hb
      have HC2 := Lib.hid (HI.out w12 _ _ _ hlp gp1 gp2)
      clear hb hr hlp z11 HC
      go_wp2_with fail
      refine HC2.out.mono ?_
      rintro e w13 ⟨v, rfl, hrow, hb⟩
      obtain ⟨aq, cq, rfl, hiq⟩ := hrow.form
      have Q13 := Lib.hid (hiq (by omega))
      rw [hnx] at Q13 ⊢
      have hs13 := hb.size
      have N13 := Lib.hid (N12.out.trans (hb.mono (by omega)))
      clear hb hrow hiq HC2
      have HC := Lib.hid (eqIntS_same w13 aq ng cq xs aw cw Q13.out (HWI.out w13 (L11.out.trans (N13.out.mono (by omega)))))
      go_wp2_with fail
      refine HC.out.mono ?_
      rintro e w14 ⟨rfl, hb⟩
      have hs14 := hb.size
      have N14 := Lib.hid (N13.out.trans (hb.mono (by omega)))
      clear hb HC
      have HC := Lib.hid (HH.out w14 N14.out)
      go_wp2_with fail
      refine HC.out.mono ?_
      rintro e w' ⟨rfl, rfl⟩
      have TE := Lib.hid (T11.out.trans (N14.out.mono T11.out.size))
      clear HC
      go_wp2_with fail
      go_ret
      exact ⟨rfl, TE.out⟩
  · go_enter Try.func10, Try.ntmps10
    go_upto_region 2 with fail
    generalize w.alloc (.cells #[.slice a0 n0 c0] 51 (0, 0)) = wa at hal hk0 hs0 ⊢
    have hc := szModel_c _ _ _ x0 (1048576) (F0.out wa hal) (Nat.le_refl _) (by omega) (by omega)
    rw [U0.out, szN_no (by omega)] at hc
    have HC := Lib.hid hc
    have A0 := Lib.hid hal
    have z0 := box1 hk0
    clear hc hal hk0
    go_wp2_with fail
    refine HC.out.mono ?_
    rintro e w1 ⟨rfl, hb⟩
    have T1 := Lib.hid (A0.out.trans (hb.mono (by omega)))
    clear hb z0 HC
    go_wp2_with fail
    go_ret
    exact ⟨rfl, T1.out⟩
end Go.Proofs.Ytkmcfbopilieeaa

end
