import Derived.Test.YtkflinobmagiiaaJoin30
import Derived.Test.YtkflinobmagiiaaJoin20
/-! YtkflinobmagiiaaDrawMd -/
section

namespace Go.Proofs.Ytkflinobmagiiaa
open Go.RowKit Go.Sort
set_option linter.unusedVariables false

section
variable {α : Type} {S : Shape α} {T : TypeId} {lo hi : Nat} {w : World} {xs : List α}
/-- One cell of one element is written anew. -/
theorem ListQ.poke {n cap g j q : Nat} {u : Value} {x : α} (h : ListQ S T lo hi w (.slice (some ⟨g, 0, none⟩) n cap) xs) (hj : j < xs.length) (hn : n = xs.length) (hq : q < S.size)
    (hs : ∀ y es, xs[j]? = some y → es.length = S.size → S.reads (fun b => lo ≤ b ∧ b < hi ∧ some g ≠ some b) w es y → S.reads (fun b => lo ≤ b ∧ b < w.heap.size ∧ some g ≠ some b) w (es.set q u) x) :
    ListQ S T lo w.heap.size (w.setCell ⟨g, j * S.size + q, none⟩ u) (.slice (some ⟨g, 0, none⟩) n cap) (xs.set j x) := by
  subst hn
  obtain ⟨us, h1, h2, h3⟩ := h.all
  have hlg := World.ownsRow.lt h1 g rfl
  have hus : us.length = xs.length * S.size := h1.1
  obtain ⟨us', k1, k2, k3, k4⟩ := owns_setCells [u] (j * S.size + q) w us h1
  have hpj := place_le (s := S.size) hj
  have hkeep : ∀ b, some g ≠ some b → (w.setCell ⟨g, j * S.size + q, none⟩ u).heap[b]? = w.heap[b]? := fun b hb => heap_setCell_other _ _ _ _ (by show b ≠ g; intro e; exact hb (by rw [e]))
  refine ⟨by simp, us', by rw [List.length_set]; exact k1, fun g' e => Nat.lt_of_lt_of_le (h2 g' e) h.top, fun i y hy => ?_⟩
  by_cases e : i = j
  · subst e
    rw [List.getElem?_set_self hj] at hy
    cases hy
    obtain ⟨es, q1, q2, q3⟩ := h3 i _ (List.getElem?_eq_getElem hj)
    refine ⟨es.set q u, fun p v hv => ?_, by rw [List.length_set]; exact q2, S.keep (hs _ es (List.getElem?_eq_getElem hj) q2 q3) fun b hb => hkeep b hb.2.2⟩
    by_cases ep : p = q
    · subst ep
      rw [List.getElem?_set_self (by omega)] at hv
      cases hv
      exact k3 0 u rfl (by rw [hus]; omega)
    · rw [List.getElem?_set_ne (fun e' => ep e'.symm)] at hv
      rw [k4 _ (by simp; omega)]
      exact q1 p v hv
  · rw [List.getElem?_set_ne (fun e' => e e'.symm)] at hy
    obtain ⟨es', q1, q2, q3⟩ := h3 i y hy
    have hi : i < xs.length := (List.getElem?_eq_some_iff.1 hy).1
    refine ⟨es', fun p v hv => ?_, q2, S.sub (S.keep q3 fun b hb => hkeep b hb.2.2) fun b hb => ⟨hb.1, Nat.lt_of_lt_of_le hb.2.1 h.top, hb.2.2⟩⟩
    have hp := (List.getElem?_eq_some_iff.1 hv).1
    rw [k4 _ ?_]
    · exact q1 p v hv
    · simp only [List.length_singleton]
      rcases Nat.lt_or_gt_of_ne e with a | a
      · have := place_le (s := S.size) a; omega
      · have := place_le (s := S.size) a; omega
theorem ListQ.first {n cap : Nat} {a : Option Addr} (h : ListQ S T lo hi w (.slice a n cap) xs) (hn : xs.length = n) (h0 : 0 < n) (hS : 0 < S.size) : ∃ g, a = some ⟨g, 0, none⟩ ∧ lo ≤ g ∧ g < hi ∧ ∃ x es, xs[0]? = some x ∧ es.length = S.size ∧ w.rangeAt g 0 es ∧ S.reads (fun b => lo ≤ b ∧ b < hi ∧ some g ≠ some b) w es x ∧ ∀ i, w.frozen? ⟨g, i, none⟩ = false := by
  obtain ⟨us, h1, h2, h3⟩ := h.all
  have hx : xs[0]? = some (xs[0]'(by omega)) := List.getElem?_eq_getElem _
  obtain ⟨es, q1, q2, q3⟩ := h3 0 _ hx
  have h1' := h1
  rcases h1.2 with ⟨-, hn'⟩ | ⟨g, cap', cur, e, e1, e2, e3, e4, -⟩
  · omega
  · simp only [Value.slice.injEq] at e
    obtain ⟨rfl, rfl, rfl⟩ := e
    have hp := place_le (s := S.size) (by omega : 0 < xs.length)
    refine ⟨g, rfl, e1, h2 g rfl, _, es, hx, q2, fun i u hu => ?_, q3, fun i => World.ownsRow.frozenAt h1' i⟩
    have hi := (List.getElem?_eq_some_iff.1 hu).1
    have hl1 : w.cell? ⟨g, 0 + i, none⟩ = us[0 + i]? := World.ownsRow.cellAt h1' (0 + i) (by omega)
    rw [hl1]
    have := q1 i u hu
    rw [Nat.zero_mul] at this
    exact this
end
theorem SmallB.set {b : List dPair} {x : dPair} {j : Nat} (h : SmallB b) (h1 : x.1.length ≤ 8) (h2 : x.2.length ≤ 8) : SmallB (b.set j x) := fun i y hy => by
  by_cases e : j = i
  · subst e
    by_cases hj : j < b.length
    · rw [List.getElem?_set_self hj] at hy
      cases hy
      exact ⟨h1, h2⟩
    · rw [List.getElem?_eq_none (by simp; omega)] at hy
      cases hy
  · rw [List.getElem?_set_ne e] at hy
    exact h i y hy
def leftB : Value → Nat
  | .slice _ n _ => 6 - n
  | _ => 0
set_option maxRecDepth 100000 in
set_option maxHeartbeats 1600000 in
theorem l6AnyBatch_e (B : Nat) (w : World) (C : Nat) (hc : Cu B w C) (a : Option Addr) (n c : Nat) (m : List dOp) (hm : ModIn w.heap.size C w a n m) (hc1 : n ≤ c) (hc2 : c ≤ 9223372036854775807) (hb : shModel.bulk m ≤ 1048576) :
    Calls Try.prog 63 #[.pointer (some ⟨C, 0, none⟩), .agg #[.slice a n c]] w (DrewBt (fun k => k ≤ 6) B w C) := by
  obtain ⟨j0, hj, hy0, hy1, hy2⟩ := info_parts infoPair1
  have hlt := hc.lt
  have h0 := (Turned.refl hc).alloc (.cells #[.slice a n c] 26 (0, 0))
  have hb0 := heap_alloc_new w (.cells #[.slice a n c] 26 (0, 0))
  have hs0 : (w.alloc (.cells #[.slice a n c] 26 (0, 0))).heap.size = w.heap.size + 1 := by simp
  have hm0 := hm.below ((Below.refl w.heap.size w).alloc (Nat.le_refl _) (.cells #[.slice a n c] 26 (0, 0))) (Nat.le_refl _)
  clear hc hm
  go_enter Try.func63, Try.ntmps63
  go_upto_region 1 with fail
  generalize w.alloc (.cells #[.slice a n c] 26 (0, 0)) = wa at h0 hb0 hs0 hm0 ⊢
  have yb := box1 hb0
  go_wp2_with fail
  refine (l6Batch_e B wa C h0.cu a n c m (ListAt.sub hm0 fun b hb' => ⟨by have := hb'.1; omega, hb'.2⟩) hc1 hc2 hb).mono ?_
  rintro e w1 ⟨av, k, cv, b, rfl, ⟨⟨k1, k4⟩, hk, hcv1, hcv2, hsm⟩, hli, ht1⟩
  have hs1 := ht1.size
  have T1 := Lib.hid (h0.trans ht1)
  have L1 := Lib.hid (hli.wide (lo' := w.heap.size) (hi' := w1.heap.size) (by omega) (Nat.le_refl _) (Nat.le_refl _))
  have HN := Lib.hid hk
  have HSM := Lib.hid hsm
  clear h0 hb0 hm0 ht1 hli yb hk hsm hb
  go_wp2_with fail
  refine (l1Below_e B _ C 16 (by omega) T1.out.cu).mono ?_
  rintro e w2 ⟨z, rfl, ⟨z0, z1⟩, ht2⟩
  have hs2 := ht2.size
  have T2 := Lib.hid (T1.out.trans ht2)
  have L2 := Lib.hid ((L1.out.turned ht2 (by omega)).wide (hi' := w2.heap.size) (Nat.le_refl _) (by omega) (Nat.le_refl _))
  clear ht2 T1 L1
  by_cases e0 : z = 0
  · subst e0
    go_wp2_with fail
    go_ret
    exact ⟨_, 0, 0, [], rfl, ⟨by omega, rfl, by omega, by omega, fun j x hx => by simp at hx⟩, by
      have h := ListQ.empty shPair 88 (lo := w.heap.size) w2 (by omega)
      exact h.wide (Nat.le_refl _) (by simp) (Nat.le_refl _), T2.out.alloc _⟩
  · have t0 : (z == 0) = false := by simpa using e0
    obtain ⟨g, rfl, hg1, hg2, x0, es0, hx0, hes, hrng, hrd0, hfz⟩ := L2.out.first HN.out (by omega) (by decide)
    by_cases e1 : z = 1
    · subst e1
      go_wp2_with fail
      refine (l3Any_e B _ C T2.out.cu).mono ?_
      rintro e w3 ⟨ux, xs, rfl, hxl, hrx, ht3⟩
      obtain ⟨ax, cx, rfl, -⟩ := hrx.form
      have hs3 := ht3.size
      have T3 := Lib.hid (T2.out.trans ht3)
      have hl3 := L2.out.turned ht3 (by omega)
      clear hx0 hes hrng hrd0 hfz x0 es0
      obtain ⟨g', e', -, -, x0, es0, hx0, hes, hrng, hrd0, hfz⟩ := hl3.first HN.out (by omega) (by decide)
      cases e'
      obtain ⟨ea, eb, rfl⟩ : ∃ ea eb, es0 = [ea, eb] := by
        match es0, hes with
        | [ea, eb], _ => exact ⟨ea, eb, rfl⟩
      have y0 : w3.cell? ⟨g, 0, none⟩ = some ea := hrng 0 ea rfl
      have y1 := hfz 0
      have hset := (hl3.wide (hi' := w3.heap.size) (Nat.le_refl _) (by omega) (Nat.le_refl _)).poke (j := 0) (q := 0) (u := .slice ax xs.length cx) (x := (xs, x0.2)) (by rw [HN.out]; omega) HN.out.symm (by decide) (by
        intro y es hy hl hr
        rw [hx0] at hy
        cases hy
        obtain ⟨a0, n0, c0, a1, n1, c1, rfl, g1, g2⟩ := shPair_reads.1 hr
        obtain ⟨a2, n2, c2, e2, g4, g5, g6⟩ := Row.listAt hrx
        simp only [List.cons.injEq, Value.slice.injEq, and_true] at e2
        obtain ⟨rfl, rfl, rfl⟩ := e2
        exact shPair_reads.2 ⟨ax, _, cx, a1, n1, c1, rfl, ⟨g4, g5, g6.sub fun b hb => ⟨by have := hb.1; omega, hb.2, fun e' => by have := hb.1; cases e'; omega⟩⟩, g2⟩)
      have hx8 := hrd0
      have HSET : Hid (ListQ shPair 88 w.heap.size w3.heap.size (w3.setCell ⟨g, 0, none⟩ (.slice ax xs.length cx)) (.slice (some ⟨g, 0, none⟩) k cv) (b.set 0 (xs, x0.2))) := Lib.hid hset
      have HS8 := Lib.hid (HSM.out.set (j := 0) (x := (xs, x0.2)) (by show xs.length ≤ 8; omega) (HSM.out 0 x0 hx0).2)
      clear hset hl3 hrx ht3 hx0 hes hrng hrd0 hfz hx8
      go_wp2_with fail
      go_ret
      exact ⟨_, k, cv, _, rfl, ⟨by omega, by rw [List.length_set]; exact HN.out, hcv1, hcv2, HS8.out⟩, HSET.out.wide (Nat.le_refl _) (by simp) (Nat.le_refl _), T3.out.setCell hlt ⟨g, 0, none⟩ _ (by show w.heap.size ≤ g; omega)⟩
    · have t1 : (z == 1) = false := by simpa using e1
      clear hx0 hes hrng hrd0 hfz x0 es0
      by_cases e2 : z = 2
      · subst e2
        go_wp2_with fail
        go_loopw [5] (fun v wr => ∃ (p g' cp : Nat) (b' : List dPair), p ≤ 5 ∧ v = .slice (some ⟨g', 0, none⟩) (p + 1) cp ∧ b'.length = p + 1 ∧ SmallB b' ∧ ListQ shPair 88 w.heap.size wr.heap.size wr v b' ∧ Turned B w wr C) (fun v _ => leftB v)
        case atStart =>
          obtain ⟨p, rfl⟩ : ∃ p, k = p + 1 := ⟨k - 1, by omega⟩
          exact ⟨p, g, cv, b, by omega, rfl, HN.out, HSM.out, L2.out, T2.out⟩
        case round =>
          obtain ⟨p, g', cp, b', hp5, rfl, hb', hsm', hli, ht⟩ := hrel
          have HL := Lib.hid hli
          have HT := Lib.hid ht
          have HB' := Lib.hid hb'
          have HSM' := Lib.hid hsm'
          have hsz : w.heap.size ≤ wr.heap.size := ht.size
          clear hli ht hb' hsm'
          go_wp2_with fail
          refine (l1Below_e B _ C 2 (by omega) HT.out.cu).mono ?_
          rintro e w6 ⟨u, rfl, ⟨u0, u1⟩, ht6⟩
          have hs6 := ht6.size
          have HL6 := Lib.hid (HL.out.turned ht6 (by omega))
          have HT6 := Lib.hid (HT.out.trans ht6)
          clear ht6
          by_cases hgo : ((p + 1 : Nat) : Int) < 5 + u
          · have hgo' : (p : Int) + 1 < 5 + u := by omega
            have hw8 : IntKind.i64.wrap (5 + u) = 5 + u := by
              rcases (by omega : u = 0 ∨ u = 1) with rfl | rfl <;> decide
            obtain ⟨gq, e', hq1, hq2, x0, es0, hx0, hes, hrng, hrd0, hfz⟩ := HL6.out.first HB'.out (by omega) (by decide)
            cases e'
            obtain ⟨ea, eb, rfl⟩ : ∃ ea eb, es0 = [ea, eb] := by
              match es0, hes with
              | [ea, eb], _ => exact ⟨ea, eb, rfl⟩
            obtain ⟨a0, n0, c0, a1, n1, c1, e', hr0, hr1⟩ := shPair_reads.1 hrd0
            simp only [List.cons.injEq, and_true] at e'
            obtain ⟨rfl, rfl⟩ := e'
            have y0 : w6.cell? ⟨g', 0, none⟩ = some (.slice a0 n0 c0) := hrng 0 _ rfl
            have y1 : w6.cell? ⟨g', 1, none⟩ = some (.slice a1 n1 c1) := hrng 1 _ rfl
            obtain ⟨us, q1, q2, q3⟩ := HL6.out.all
            have HRR : Hid (shPair.reads (fun b => w.heap.size ≤ b ∧ b < w6.heap.size ∧ (Value.slice (some ⟨g', 0, none⟩) (p + 1) cp).ownBlock ≠ some b) w6 [.slice a0 n0 c0, .slice a1 n1 c1] x0) := Lib.hid (shPair.sub hrd0 fun b hb => ⟨hb.1, by have := hb.2.1; omega, hb.2.2⟩)
            have q1' := q1
            rw [HB'.out] at q1'
            have HOW : Hid ((w6.alloc (.cells #[.slice a0 n0 c0, .slice a1 n1 c1] 88 (0, 0))).ownsRow w.heap.size 88 2 (.slice (some ⟨g', 0, none⟩) (p + 1) cp) (p + 1) us) := Lib.hid (World.ownsRow.alloc q1' _)
            have HND : Hid (∀ j u, ([.slice a0 n0 c0, .slice a1 n1 c1] : List Value)[j]? = some u → (w6.alloc (.cells #[.slice a0 n0 c0, .slice a1 n1 c1] 88 (0, 0))).cell? ((⟨w6.heap.size, 0, none⟩ : Addr).add j) = some u) := Lib.hid (World.news_of_block (heap_alloc_new w6 (.cells #[.slice a0 n0 c0, .slice a1 n1 c1] 88 (0, 0))))
            have HBS : Hid (w.heap.size ≤ (w6.alloc (.cells #[.slice a0 n0 c0, .slice a1 n1 c1] 88 (0, 0))).heap.size) := Lib.hid (by rw [size_one']; omega)
            have hP : Hid (∀ (w9 : World) (g9 cap : Nat), w9.ownsRow w.heap.size 88 2 (.slice (some ⟨g9, 0, none⟩) (p + 1 + 1) cap) (p + 1 + 1) (us ++ [.slice a0 n0 c0, .slice a1 n1 c1]) → (w6.alloc (.cells #[.slice a0 n0 c0, .slice a1 n1 c1] 88 (0, 0))).grownBy w9 (Value.slice (some ⟨g', 0, none⟩) (p + 1) cp).ownBlock →
                ((Value.slice (some ⟨g', 0, none⟩) (p + 1) cp).ownBlock = some g9 ∨ g9 = (w6.alloc (.cells #[.slice a0 n0 c0, .slice a1 n1 c1] 88 (0, 0))).heap.size) → ListQ shPair 88 w.heap.size w9.heap.size w9 (.slice (some ⟨g9, 0, none⟩) (p + 1 + 1) cap) (b' ++ [x0]) ∧ Turned B w w9 C) := Lib.hid fun w9 g9 cap ho hgr hat => by
              have hp := ListQ.put (S := shPair) (T := 88) (lo := w.heap.size) (hi := wr.heap.size) (w := w6) (w' := w9) (v := .slice (some ⟨g', 0, none⟩) (p + 1) cp) (v' := .slice (some ⟨g9, 0, none⟩) (p + 1 + 1) cap) (xs := b') (o := (.cells #[.slice a0 n0 c0, .slice a1 n1 c1] 88 (0, 0))) (x := x0)
                hsz q1 q2 HL6.out.top q3 HRR.out rfl (by rw [HB'.out]; exact ho) hgr (by
                  rcases hat with e | e
                  · exact .inl e.symm
                  · exact .inr (congrArg some e))
              exact ⟨hp.1, (HT6.out.alloc (.cells #[.slice a0 n0 c0, .slice a1 n1 c1] 88 (0, 0))).grow hlt hgr fun r hr => (World.ownsRow.lt q1 r hr).1⟩
            have HS9 := Lib.hid (HSM'.out.snoc (x := x0) (HSM'.out 0 x0 hx0).1 (HSM'.out 0 x0 hx0).2)
            have hp4 : p ≤ 4 := by omega
            have hpq : 0 < p + 1 := by omega
            clear hx0 hes hrng hrd0 hfz hr0 hr1 q1 q1' q2 q3
            go_wp2_with (at_builtin; refine wpList_append_lies _ rfl _ _ 31 rfl w.heap.size 88 j0 (.agg #[.slice none 0 0, .slice none 0 0]) 2 48 Try.underlying31 hj hy0 hy1 hy2 rfl (by decide) _ _ _ rfl HOW.out ⟨w6.heap.size, 0, none⟩ 1 1 [.slice a0 n0 c0, .slice a1 n1 c1] rfl rfl HND.out (slices_two _ _ _ _ _ _) (by omega) (by unfold maxLen; omega) (by omega) HBS.out _ rfl ?_; intro g9 cap9 w9 hown9 hgrow9 hat9 _; obtain ⟨hl9, ht9⟩ := hP.out w9 g9 cap9 hown9 hgrow9 hat9; have HL9 := Lib.hid hl9; have HT9 := Lib.hid ht9; clear hown9 hgrow9 hat9 hl9 ht9)
            go_roundw
            case rel => exact ⟨p + 1, g9, cap9, b' ++ [x0], by omega, rfl, by rw [List.length_append, HB'.out]; rfl, HS9.out, HL9.out, HT9.out⟩
            case measure => simp [leftB]; omega
          · have hgo' : ¬ ((p : Int) + 1 < 5 + u) := by omega
            have hw8 : IntKind.i64.wrap (5 + u) = 5 + u := by
              rcases (by omega : u = 0 ∨ u = 1) with rfl | rfl <;> decide
            go_wp2_with fail
            go_ret
            exact ⟨_, p + 1, cp, b', rfl, ⟨by omega, HB'.out, by
              obtain ⟨a9, c9, e9, h9, -⟩ := HL6.out.form
              simp only [Value.slice.injEq] at e9
              obtain ⟨-, -, rfl⟩ := e9
              have := HB'.out
              omega, by
              obtain ⟨a9, c9, e9, -, h9⟩ := HL6.out.form
              simp only [Value.slice.injEq] at e9
              obtain ⟨-, -, rfl⟩ := e9
              exact h9, HSM'.out⟩, HL6.out.wide (Nat.le_refl _) (by omega) (Nat.le_refl _), HT6.out⟩
      · have t2 : (z == 2) = false := by simpa using e2
        go_wp2_with fail
        go_ret
        exact ⟨_, k, cv, b, rfl, ⟨by omega, HN.out, hcv1, hcv2, HSM.out⟩, L2.out, T2.out⟩
end Go.Proofs.Ytkflinobmagiiaa

end

/-! YtkflinobmagiiaaBools -/
section

namespace Go.Proofs.Ytkflinobmagiiaa
open Go.RowKit Go.Sort
set_option linter.unusedVariables false
set_option linter.unusedSimpArgs false

theorem szBoolS_c (w : World) (B : Nat) (a : Option Addr) (n c : Nat) (xs : List Bool) (L : Int) (h : ListAt Shape.bool (Under B) w a n xs) (hB : B ≤ w.heap.size) (hn : n ≤ 9223372036854775807) (h0 : 0 ≤ L) (h1 : L ≤ 1048576) :
    Calls Try.prog 44 #[.slice a n c, .int .i64 L] w fun e w' => e = .returned (.int .i64 (szN ((Shape.list Shape.bool).bulk xs) L)) ∧ Below w.heap.size w w' := by
  rw [bulk_bools, h.1]
  clear h
  by_cases hL : (n : Int) ≤ L
  · rw [szN_yes hL]
    have hd : decide (L - (n : Int) < 0) = false := decide_eq_false (by omega)
    go_enter Try.func44, Try.ntmps44
    go_wp2_with fail
    go_ret
    exact ⟨rfl, Below.refl _ _⟩
  · rw [szN_no hL]
    have hd : decide (L - (n : Int) < 0) = true := decide_eq_true (by omega)
    go_enter Try.func44, Try.ntmps44
    go_wp2_with fail
    go_ret
    exact ⟨rfl, Below.refl _ _⟩
theorem bool_reads {I : Nat → Prop} {w : World} {es : List Value} {x : Bool} : Shape.bool.reads I w es x ↔ es = [.bool x] := Iff.rfl
/-- The mark at a place of a list of marks. -/
theorem ListAt.mark {I : Nat → Prop} {w : World} {a : Option Addr} {n : Nat} {xs : List Bool} (h : ListAt Shape.bool I w a n xs) (j : Nat) (hj : j < n) : ∃ b o, a = some ⟨b, o, none⟩ ∧ I b ∧ w.cell? ⟨b, o + j, none⟩ = some (.bool (xs.getD j false)) := by
  have hx : xs[j]? = some (xs.getD j false) := by
    rw [List.getElem?_eq_getElem (by rw [h.1]; exact hj)]
    simp [List.getD, h.1, hj]
  obtain ⟨b, o, es, e, hb, hr, hs⟩ := h.2 j _ hx
  have hs' : es = [.bool (xs.getD j false)] := hs
  subst hs'
  refine ⟨b, o, e, hb, ?_⟩
  have := hr 0 _ rfl
  simpa [Shape.bool] using this
theorem infoAll_bool : (Try.prog.info? 4).map (fun i => (i.zero, i.size, i.bytes)) = some (some (.bool false), 1, 1) := by kernel_rfl
set_option maxRecDepth 100000 in
set_option maxHeartbeats 1600000 in
theorem toBoolS_c (w : World) (B : Nat) (a : Option Addr) (n c : Nat) (xs : List Bool) (h : ListAt Shape.bool (Under B) w a n xs) (hB : B ≤ w.heap.size) (hb : (Shape.list Shape.bool).bulk xs ≤ 1048576) :
    Calls Try.prog 48 #[.slice a n c] w fun e w' => e = .returned (.slice (some ⟨w.heap.size, 0, none⟩) n n) ∧ ListAt Shape.bool (From w.heap.size w'.heap.size) w' (some ⟨w.heap.size, 0, none⟩) n xs ∧ Below w.heap.size w w' := by
  rw [bulk_bools, h.1] at hb
  have hmk := run_make_many (P := Try.prog) 28 4 _ 1 1 Try.underlying28 infoAll_bool n (by omega) (by omega)
  have hst := Filled.start Shape.bool w n xs (Value.bool false).cells 4
  rw [show Shape.bool.size = 1 from rfl, Nat.mul_one] at hst
  rw [Nat.mul_one] at hmk
  replace hst := Lib.hid hst
  have HL := Lib.hid h
  have hn1 : n ≤ 1048576 := by omega
  clear h hb
  go_enter Try.func48, Try.ntmps48
  go_wp2_with fail
  go_loopw [4] (fun i wr => ∃ k : Nat, k ≤ n ∧ i = .int .i64 k ∧ Filled Shape.bool w wr n k xs) (fun i _ => n - (intOf i).toNat)
  case atStart => exact ⟨0, Nat.zero_le _, rfl, hst.out⟩
  case round =>
    obtain ⟨k, hk, rfl, hf⟩ := hrel
    by_cases hlt : k < n
    · obtain ⟨b, o, rfl, hbB, hc0⟩ := HL.out.mark k hlt
      have hx : xs[k]? = some (xs.getD k false) := by
        rw [List.getElem?_eq_getElem (by rw [HL.out.1]; exact hlt)]
        simp [List.getD, HL.out.1, hlt]
      have hfb := hf.below
      have hfl := hf.lt
      have hth0 := hf.rest
      have hN := hf.step hlt (Below.refl _ _) hx rfl
      obtain ⟨X, hX⟩ : ∃ X, xs.getD k false = X := ⟨_, rfl⟩
      rw [hX] at hN hc0
      have c0 := (hfb.cell (p := ⟨b, o + k, none⟩) (Nat.lt_of_lt_of_le hbB hB)).trans hc0
      rw [show Shape.bool.size = 1 from rfl, Nat.mul_one] at hth0 hN
      obtain ⟨⟨v0, d0⟩, f0⟩ := there_cell hth0 0 (by omega)
      simp only [Nat.add_zero] at d0 f0
      have HN := Lib.hid hN
      clear hX hx hc0 hfb hfl hth0 hN hf
      go_wp2_with fail
      go_round
      case rel => exact ⟨k + 1, by omega, by go_num, HN.out⟩
      case measure => simp [intOf]; omega
    · obtain rfl : k = n := by omega
      have hz := hf.below
      have HF := Lib.hid hf
      clear hf hz
      go_wp2_with fail
      go_ret
      exact ⟨rfl, HF.out.list HL.out.1, HF.out.below⟩
set_option maxRecDepth 100000 in
set_option maxHeartbeats 1600000 in
theorem eqBoolS_c (w : World) (B B' : Nat) (a a' : Option Addr) (n c c' : Nat) (xs : List Bool) (h : ListAt Shape.bool (Under B) w a n xs) (h' : ListAt Shape.bool (Under B') w a' n xs) (hB : B ≤ w.heap.size) (hB' : B' ≤ w.heap.size) (hb : (Shape.list Shape.bool).bulk xs ≤ 1048576) :
    Calls Try.prog 52 #[.slice a n c, .slice a' n c'] w fun e w' => e = .returned (.bool true) ∧ Below w.heap.size w w' := by
  rw [bulk_bools, h.1] at hb
  have HL := Lib.hid (h.le hB)
  have HL' := Lib.hid (h'.le hB')
  clear h h'
  go_enter Try.func52, Try.ntmps52
  go_wp2_with fail
  go_loopw [5] (fun i wr => ∃ k : Nat, k ≤ n ∧ i = .int .i64 k ∧ Below w.heap.size w wr) (fun i _ => n - (intOf i).toNat)
  case atStart => exact ⟨0, Nat.zero_le _, rfl, Below.refl _ _⟩
  case round =>
    obtain ⟨k, hk, rfl, hbw⟩ := hrel
    by_cases hlt : k < n
    · obtain ⟨b, o, rfl, hbB, hc0⟩ := HL.out.mark k hlt
      obtain ⟨b', o', rfl, hbB', hc0'⟩ := HL'.out.mark k hlt
      obtain ⟨X, hX⟩ : ∃ X, xs.getD k false = X := ⟨_, rfl⟩
      rw [hX] at hc0 hc0'
      have c0 := (hbw.cell (p := ⟨b, o + k, none⟩) hbB).trans hc0
      have d0 := (hbw.cell (p := ⟨b', o' + k, none⟩) hbB').trans hc0'
      have HBW := Lib.hid hbw
      clear hX hc0 hc0' hbw
      have hxx : (X != X) = false := by cases X <;> rfl
      go_wp2_with fail
      go_quiet (fail)
      go_wp2_with fail
      go_roundw
      case rel => exact ⟨k + 1, by omega, by go_num, HBW.out.trans ⟨rfl, rfl, rfl, Nat.le_refl _, fun _ _ => rfl⟩⟩
      case measure => simp [intOf]; omega
    · obtain rfl : k = n := by omega
      have HBW := Lib.hid hbw
      clear hbw
      go_wp2_with fail
      go_ret
      exact ⟨rfl, HBW.out⟩
end Go.Proofs.Ytkflinobmagiiaa

end
