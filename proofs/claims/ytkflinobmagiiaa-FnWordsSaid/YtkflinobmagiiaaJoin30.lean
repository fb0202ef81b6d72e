/-
  Batches, drawn.
-/
import Derived.Test.YtkflinobmagiiaaJoin27
import Derived.Test.YtkflinobmagiiaaJoin29
import Derived.Deep.AppendLies
import Derived.Deep.RegionHeld3
namespace Go.Proofs.Ytkflinobmagiiaa
open Go.RowKit Go.Sort
set_option linter.unusedVariables false

theorem inOf_in (m : List dOp) : 0 ≤ inOfN m ∧ inOfN m ≤ 8 := by
  unfold inOfN
  cases h : modelOkB m with
  | false => simp
  | true =>
    obtain ⟨h1, h2, -⟩ := modelOk_has h
    have := (dOpOk_dims (okAt_has (h1 0 (by omega))).1).1
    simp only [if_true]
    omega
theorem outOf_in (m : List dOp) : 0 ≤ outOfN m ∧ outOfN m ≤ 8 := by
  unfold outOfN
  cases h : modelOkB m with
  | false => simp
  | true =>
    obtain ⟨h1, h2, -⟩ := modelOk_has h
    have := (dOpOk_dims (okAt_has (h1 (m.length - 1) (by omega))).1).2.1
    simp only [if_true]
    omega
theorem infoPair1 : (Try.prog.info? 88).map (fun i => (i.zero, i.size, i.bytes)) = some (some (.agg #[.slice none 0 0, .slice none 0 0]), 2, 48) := by kernel_rfl
theorem slices_two (a b : Option Addr) (n m c d : Nat) : ∀ u ∈ [Value.slice a n c, .slice b m d], u.oneCell' = true := by
  intro u hu
  simp only [List.mem_cons, List.not_mem_nil, or_false] at hu
  rcases hu with rfl | rfl <;> rfl
/-- Pairs none of whose lists is long. -/
def SmallB (b : List dPair) : Prop := ∀ (j : Nat) (x : dPair), b[j]? = some x → x.1.length ≤ 8 ∧ x.2.length ≤ 8
theorem SmallB.snoc {b : List dPair} {x : dPair} (h : SmallB b) (h1 : x.1.length ≤ 8) (h2 : x.2.length ≤ 8) : SmallB (b ++ [x]) := fun j y hy => by
  by_cases hj : j < b.length
  · rw [List.getElem?_append_left hj] at hy
    exact h j y hy
  · rw [List.getElem?_append_right (by omega)] at hy
    cases hk : j - b.length with
    | zero => rw [hk] at hy; simp at hy; rw [← hy]; exact ⟨h1, h2⟩
    | succ i => rw [hk] at hy; simp at hy
/-- A model that lies in blocks below H, but not in the cursor's. -/
def ModIn (H C : Nat) (w : World) (a : Option Addr) (n : Nat) (m : List dOp) : Prop := ListAt shOp (fun b => b < H ∧ b ≠ C) w a n m
theorem ModIn.turned {H C B : Nat} {w w' : World} {a : Option Addr} {n : Nat} {m : List dOp} (h : ModIn H C w a n m) (ht : Turned B w w' C) (hH : H ≤ w.heap.size) : ModIn H C w' a n m :=
  ListAt.keep h fun b hb => ht.block (Nat.lt_of_lt_of_le hb.1 hH) hb.2
theorem ModIn.below {H C B : Nat} {w w' : World} {a : Option Addr} {n : Nat} {m : List dOp} (h : ModIn H C w a n m) (hw : Below B w w') (hH : H ≤ B) : ModIn H C w' a n m :=
  ListAt.keep h fun b hb => hw.block b (Nat.lt_of_lt_of_le hb.1 hH)
theorem ModIn.reads {H C : Nat} {w : World} {a : Option Addr} {n c : Nat} {m : List dOp} (h : ModIn H C w a n m) (hc1 : n ≤ c) (hc2 : c ≤ 9223372036854775807) (hH : H ≤ w.heap.size) : shModel.reads (Under w.heap.size) w [.slice a n c] m :=
  shModel_reads.2 ⟨a, n, c, rfl, hc1, hc2, ListAt.sub h fun b hb => Nat.lt_of_lt_of_le hb.1 hH⟩
/-- A batch was drawn. -/
def DrewBt (P : Nat → Prop) (B : Nat) (w : World) (C : Nat) (e : Ending) (w' : World) : Prop := ∃ a n c b, e = .returned (.slice a n c) ∧ (P n ∧ b.length = n ∧ n ≤ c ∧ c ≤ 9223372036854775807 ∧ SmallB b) ∧ ListQ shPair 88 w.heap.size w'.heap.size w' (.slice a n c) b ∧ Turned B w w' C
set_option maxRecDepth 100000 in
set_option maxHeartbeats 1600000 in
theorem l6Batch_e (B : Nat) (w : World) (C : Nat) (hc : Cu B w C) (a : Option Addr) (n c : Nat) (m : List dOp) (hm : ModIn w.heap.size C w a n m) (hc1 : n ≤ c) (hc2 : c ≤ 9223372036854775807) (hb : shModel.bulk m ≤ 1048576) :
    Calls Try.prog 86 #[.pointer (some ⟨C, 0, none⟩), .agg #[.slice a n c]] w (DrewBt (fun k => 1 ≤ k ∧ k ≤ 4) B w C) := by
  obtain ⟨j0, hj, hy0, hy1, hy2⟩ := info_parts infoPair1
  have hlt := hc.lt
  obtain ⟨II, hII⟩ : ∃ I, inOfN m = I := ⟨_, rfl⟩
  obtain ⟨OO, hOO⟩ : ∃ I, outOfN m = I := ⟨_, rfl⟩
  have hi8 := inOf_in m
  have ho8 := outOf_in m
  rw [hII] at hi8
  rw [hOO] at ho8
  obtain ⟨hi0, hi1⟩ := hi8
  obtain ⟨ho0, ho1⟩ := ho8
  have CI : Hid (∀ (H : Nat) (w' : World), H ≤ w'.heap.size → ModIn H C w' a n m → Calls Try.prog 72 #[.agg #[.slice a n c]] w' fun e w2 => e = .returned (.int .i64 II) ∧ Below w'.heap.size w' w2) := Lib.hid fun H w' hH h => by
    have := specInOf_d w' [.slice a n c] m (h.reads hc1 hc2 hH) hb
    rw [hII] at this
    exact this
  have CO : Hid (∀ (H : Nat) (w' : World), H ≤ w'.heap.size → ModIn H C w' a n m → Calls Try.prog 73 #[.agg #[.slice a n c]] w' fun e w2 => e = .returned (.int .i64 OO) ∧ Below w'.heap.size w' w2) := Lib.hid fun H w' hH h => by
    have := specOutOf_d w' [.slice a n c] m (h.reads hc1 hc2 hH) hb
    rw [hOO] at this
    exact this
  clear hII hOO
  have h0 := (Turned.refl hc).alloc (.cells #[.slice a n c] 26 (0, 0))
  have hb0 := heap_alloc_new w (.cells #[.slice a n c] 26 (0, 0))
  have hs0 : (w.alloc (.cells #[.slice a n c] 26 (0, 0))).heap.size = w.heap.size + 1 := by simp
  have hm0 := hm.below ((Below.refl w.heap.size w).alloc (Nat.le_refl _) (.cells #[.slice a n c] 26 (0, 0))) (Nat.le_refl _)
  clear hc hm
  go_enter Try.func86, Try.ntmps86
  go_upto_region 1 with fail
  generalize w.alloc (.cells #[.slice a n c] 26 (0, 0)) = wa at h0 hb0 hs0 hm0 ⊢
  have hal : Below wa.heap.size wa (wa.alloc (.cells #[] 88 (0, 0))) := (Below.refl _ _).alloc (Nat.le_refl _) _
  have hli := ListQ.empty shPair 88 (lo := w.heap.size + 1) wa (by omega)
  have hs1 : (wa.alloc (.cells #[] 88 (0, 0))).heap.size = wa.heap.size + 1 := by simp
  have T1 := Lib.hid (h0.then hal)
  have B1 := Lib.hid ((hal.block w.heap.size (by omega)).trans hb0)
  have M1 := Lib.hid (hm0.below hal (by omega))
  have L1 := Lib.hid hli
  clear hli hal h0 hb0 hm0
  go_wp2_with fail
  generalize wa.alloc (.cells #[] 88 (0, 0)) = wb at T1 B1 M1 L1 hs1 ⊢
  refine (l1Below_e B _ C 4 (by omega) T1.out.cu).mono ?_
  rintro e w2 ⟨y, rfl, ⟨y0, y1⟩, ht2⟩
  have hs2 := ht2.size
  have T2 := Lib.hid (T1.out.trans ht2)
  have B2 := Lib.hid ((ht2.block (by omega) (by omega)).trans B1.out)
  have M2 := Lib.hid (M1.out.turned ht2 (by omega))
  have L2 := Lib.hid ((L1.out.turned ht2 (by omega)).wide (hi' := w2.heap.size) (Nat.le_refl _) (by omega) (Nat.le_refl _))
  obtain ⟨N, hN⟩ : ∃ N : Nat, 1 + y = (N : Int) := ⟨(1 + y).toNat, by omega⟩
  have hN0 : 1 ≤ N := by omega
  have hN4 : N ≤ 4 := by omega
  clear ht2 T1 B1 M1 L1
  go_wp2_with fail
  clear hN y0 y1
  go_loopw [5, 6] (fun v nn wr => ∃ (r : Nat) (b : List dPair), nn = .int .i64 r ∧ r + b.length = N ∧ SmallB b ∧ wr.heap[w.heap.size]? = some (.cells #[.slice a n c] 26 (0, 0)) ∧ ModIn w.heap.size C wr a n m ∧ ListQ shPair 88 (w.heap.size + 1) wr.heap.size wr v b ∧ Turned B w wr C) (fun _ nn _ => (intOf nn).toNat)
  case atStart => exact ⟨N, [], rfl, by simp, fun j x hx => by simp at hx, B2.out, M2.out, by have h := L2.out; rw [hs0] at h; exact h, T2.out⟩
  case round =>
    obtain ⟨r, b, rfl, hrb, hsm, hbx, hmi, hli, ht⟩ := hrel
    obtain ⟨k, hk⟩ : ∃ k, b.length = k := ⟨_, rfl⟩
    obtain ⟨av, cv, rfl, hcv1, hcv2⟩ := hli.form
    have hsz2 : w.heap.size + 1 ≤ wr.heap.size := by have := (Array.getElem?_eq_some_iff.1 hbx).1; omega
    rw [hk] at hrb hcv1 hli ⊢
    have HN := Lib.hid hk
    have HSM := Lib.hid hsm
    by_cases hr0 : 0 < r
    · have hr1 : (0 : Int) < (r : Int) := by omega
      have hdr : Below wr.heap.size wr wr.drew := (Below.refl _ _).drew
      have hsd : wr.heap.size ≤ wr.drew.heap.size := hdr.size
      have HB : Hid (wr.drew.heap[w.heap.size]? = some (.cells #[.slice a n c] 26 (0, 0))) := Lib.hid hbx
      have HM := Lib.hid (hmi.below hdr (by omega))
      have HL := Lib.hid (hli.below hdr (Nat.le_refl _))
      have HT := Lib.hid (ht.then hdr)
      have yb := box1 hbx
      clear hbx hmi hli ht hsm hk hdr
      go_wp2_with fail
      go_region_held3 (fun w' => w'.cell? ⟨w.heap.size, 0, none⟩ = some (.slice a n c)) (first | assumption | go_keep)
        (first
          | (refine step_append_lies _ (by rfl) _ _ _ (by rfl) (w.heap.size + 1) 88 j0 (.agg #[.slice none 0 0, .slice none 0 0]) 2 48 Try.underlying31 hj hy0 hy1 hy2 rfl (by decide) (.slice av k cv) k us (by rfl) HOW.out ⟨w8.heap.size, 0, none⟩ 1 1 [.slice ax xs.length cx, .slice ay ys.length cy] (by rfl) (by rfl) HND.out (slices_two _ _ _ _ _ _) (by omega) (by unfold maxLen; omega) (by omega) HBS.out _ (by rfl) ?_
             intro g' cap w9 hown9 hgrow9 hat9 hlt9
             have hp := ListQ.put (S := shPair) (T := 88) (lo := w.heap.size + 1) (hi := wr.heap.size) (w := w8) (w' := w9) (v := .slice av k cv) (v' := .slice (some ⟨g', 0, none⟩) (k + 1) cap) (xs := b) (o := (.cells #[.slice ax xs.length cx, .slice ay ys.length cy] 88 (0, 0))) (x := (xs, ys))
               (by omega) Q1.out Q2.out (by omega) Q3.out HRD.out rfl (by rw [HN.out]; exact hown9) hgrow9 (by
                 rcases hat9 with e | e
                 · exact .inl e.symm
                 · exact .inr (congrArg some e))
             have HT := Lib.hid ((HT.out.alloc (.cells #[.slice ax xs.length cx, .slice ay ys.length cy] 88 (0, 0))).grow hlt hgrow9 fun r hr => by have := (World.ownsRow.lt Q1.out r hr).1; omega)
             have HB := Lib.hid ((hp.2.block w.heap.size (by omega)).trans HB.out)
             have HM := Lib.hid (HM.out.below hp.2 (by omega))
             have HL := Lib.hid hp.1
             have yb9 := box1 HB.out
             have HSM := Lib.hid (HSM.out.snoc (x := (xs, ys)) (by show xs.length ≤ 8; omega) (by show ys.length ≤ 8; omega))
             clear hp hown9 hgrow9 hat9)
          | (go_at_call 72; (with_reducible refine (CI.out w.heap.size _ (by omega) HM.out).mono ?_); rintro e w5 ⟨rfl, hb5⟩; have hs5 := hb5.size; have HB := Lib.hid ((hb5.block w.heap.size (by omega)).trans HB.out); have HM := Lib.hid (HM.out.below hb5 (by omega)); have HL := Lib.hid (HL.out.below hb5 (by omega)); have HT := Lib.hid (HT.out.then hb5); have yb5 := box1 HB.out; clear hb5)
          | (go_at_call 73; (with_reducible refine (CO.out w.heap.size _ (by omega) HM.out).mono ?_); rintro e w7 ⟨rfl, hb7⟩; have hs7 := hb7.size; have HB := Lib.hid ((hb7.block w.heap.size (by omega)).trans HB.out); have HM := Lib.hid (HM.out.below hb7 (by omega)); have HL := Lib.hid (HL.out.below hb7 (by omega)); have HT := Lib.hid (HT.out.then hb7); have HX := Lib.hid (HX.out.below hb7); have yb7 := box1 HB.out; clear hb7)
          | (go_at_call 100; (with_reducible refine (l3Vec_j B _ C II hi0 hi1 HT.out.cu).mono ?_); rintro e w6 ⟨ux, xs, rfl, hxl, hrx, ht6⟩; obtain ⟨ax, cx, rfl, -⟩ := hrx.form; have hs6 := ht6.size; have HB := Lib.hid ((ht6.block (by omega) (by omega)).trans HB.out); have HM := Lib.hid (HM.out.turned ht6 (by omega)); have HL := Lib.hid (HL.out.turned ht6 (by omega)); have HT := Lib.hid (HT.out.trans ht6); have HX := Lib.hid hrx; have yb6 := box1 HB.out; clear ht6 hrx)
          | (go_at_call 100; (with_reducible refine (l3Vec_j B _ C OO ho0 ho1 HT.out.cu).mono ?_); rintro e w8 ⟨uy, ys, rfl, hyl, hry, ht8⟩; obtain ⟨ay, cy, rfl, -⟩ := hry.form; have hs8 := ht8.size; have HB := Lib.hid ((ht8.block (by omega) (by omega)).trans HB.out); have HM := Lib.hid (HM.out.turned ht8 (by omega)); have HL := Lib.hid (HL.out.turned ht8 (by omega)); have HT := Lib.hid (HT.out.trans ht8); have HX := Lib.hid (HX.out.turned (by omega) ht8); have HY := Lib.hid hry; clear hry; have yb8 := box1 HB.out; obtain ⟨us, q1, q2, q3⟩ := HL.out.all; have hw8 : w.heap.size + 1 ≤ w8.heap.size := (by omega); have hrx := Row.listAt HX.out; have hry := Row.listAt HY.out; have HRD : Hid (shPair.reads (fun b => w.heap.size + 1 ≤ b ∧ b < w8.heap.size ∧ (Value.slice av k cv).ownBlock ≠ some b) w8 [.slice ax xs.length cx, .slice ay ys.length cy] (xs, ys)) := Lib.hid (by
               obtain ⟨a1, n1, c1, e1, g1, g2, g3⟩ := hrx
               obtain ⟨a2, n2, c2, e2, g4, g5, g6⟩ := hry
               simp only [List.cons.injEq, Value.slice.injEq, and_true] at e1 e2
               obtain ⟨rfl, rfl, rfl⟩ := e1
               obtain ⟨rfl, rfl, rfl⟩ := e2
               exact shPair_reads.2 ⟨ax, _, cx, ay, _, cy, rfl, ⟨g1, g2, g3.sub fun b hb => ⟨by have := hb.1; omega, hb.2, fun e' => by have := q2 b e'; have := hb.1; omega⟩⟩, ⟨g4, g5, g6.sub fun b hb => ⟨by have := hb.1; omega, hb.2, fun e' => by have := q2 b e'; have := hb.1; omega⟩⟩⟩); have q1' := q1; rw [HN.out] at q1'; have HOW : Hid ((w8.alloc (.cells #[.slice ax xs.length cx, .slice ay ys.length cy] 88 (0, 0))).ownsRow (w.heap.size + 1) 88 2 (.slice av k cv) k us) := Lib.hid (World.ownsRow.alloc q1' _); have HND : Hid (∀ j u, ([.slice ax xs.length cx, .slice ay ys.length cy] : List Value)[j]? = some u → (w8.alloc (.cells #[.slice ax xs.length cx, .slice ay ys.length cy] 88 (0, 0))).cell? ((⟨w8.heap.size, 0, none⟩ : Addr).add j) = some u) := Lib.hid (World.news_of_block (heap_alloc_new w8 (.cells #[.slice ax xs.length cx, .slice ay ys.length cy] 88 (0, 0)))); have HBS : Hid (w.heap.size + 1 ≤ (w8.alloc (.cells #[.slice ax xs.length cx, .slice ay ys.length cy] 88 (0, 0))).heap.size) := Lib.hid (by rw [size_one']; omega); have Q1 := Lib.hid q1; have Q2 := Lib.hid q2; have Q3 := Lib.hid q3; clear ht8 hry hrx q1 q2 q3 q1'))
      go_wp2_with fail
      go_roundw
      case rel =>
        refine ⟨r - 1, b ++ [(xs, ys)], ?_, ?_, HSM.out, HB.out, HM.out, HL.out, HT.out⟩
        · congr 1
          omega
        · rw [List.length_append, HN.out]
          show r - 1 + (k + 1) = N
          omega
      case measure => simp [intOf]; omega
    · obtain rfl : r = 0 := by omega
      obtain ⟨rfl, hn4⟩ : N = k ∧ k ≤ 4 := by omega
      have HB := Lib.hid hbx
      have HL := Lib.hid hli
      have HT := Lib.hid ht
      clear hbx hmi hli ht hsm hk
      go_wp2_with fail
      go_ret
      exact ⟨av, N, cv, b, rfl, ⟨⟨hN0, hn4⟩, HN.out, hcv1, hcv2, HSM.out⟩, HL.out.wide (by omega) (Nat.le_refl _) (Nat.le_refl _), HT.out⟩
end Go.Proofs.Ytkflinobmagiiaa
