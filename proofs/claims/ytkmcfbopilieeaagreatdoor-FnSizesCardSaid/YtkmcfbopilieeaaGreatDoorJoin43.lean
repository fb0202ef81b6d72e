import Derived.Test.YtkmcfbopilieeaaGreatDoorJoin41
import Derived.Test.YtkmcfbopilieeaaGreatDoorJoin18
import Derived.Deep.AppendLies
import Derived.Deep.RegionHeld3
import Derived.Test.YtkmcfbopilieeaaGreatDoorJoin35
/-! YtkmcfbopilieeaaGreatDoorDrawMc -/
section

namespace Go.Proofs.YtkmcfbopilieeaaGreatDoor
open Go.RowKit Go.Sort
set_option linter.unusedVariables false

theorem inOf_in (m : List dOp) : 0 ≤ inOfN m ∧ inOfN m ≤ 8 := by
  unfold inOfN
  cases h : modelOkB m with
  | false => simp
  | true =>
    obtain ⟨h1, h2, -⟩ := modelOk_has h
    have := (dOpOk_dims (okAt_has (h1 0 (by omega))).1).1
    simp only [if_true]
    omega
theorem outOf_in (m : List dOp) : 0 ≤ outOfN m ∧ outOfN m ≤ 8 := by
  unfold outOfN
  cases h : modelOkB m with
  | false => simp
  | true =>
    obtain ⟨h1, h2, -⟩ := modelOk_has h
    have := (dOpOk_dims (okAt_has (h1 (m.length - 1) (by omega))).1).2.1
    simp only [if_true]
    omega
theorem infoPair1 : (Tryz.prog.info? 47).map (fun i => (i.zero, i.size, i.bytes)) = some (some (.agg #[.slice none 0 0, .slice none 0 0]), 2, 48) := by kernel_rfl
theorem slices_two (a b : Option Addr) (n m c d : Nat) : ∀ u ∈ [Value.slice a n c, .slice b m d], u.oneCell' = true := by
  intro u hu
  simp only [List.mem_cons, List.not_mem_nil, or_false] at hu
  rcases hu with rfl | rfl <;> rfl
/-- Pairs none of whose lists is long. -/
def SmallB (b : List dPair) : Prop := ∀ (j : Nat) (x : dPair), b[j]? = some x → x.1.length ≤ 8 ∧ x.2.length ≤ 8
theorem SmallB.snoc {b : List dPair} {x : dPair} (h : SmallB b) (h1 : x.1.length ≤ 8) (h2 : x.2.length ≤ 8) : SmallB (b ++ [x]) := fun j y hy => by
  by_cases hj : j < b.length
  · rw [List.getElem?_append_left hj] at hy
    exact h j y hy
  · rw [List.getElem?_append_right (by omega)] at hy
    cases hk : j - b.length with
    | zero => rw [hk] at hy; simp at hy; rw [← hy]; exact ⟨h1, h2⟩
    | succ i => rw [hk] at hy; simp at hy
/-- A model that lies in blocks below H, but not in the cursor's. -/
def ModIn (H C : Nat) (w : World) (a : Option Addr) (n : Nat) (m : List dOp) : Prop := ListAt shOp (fun b => b < H ∧ b ≠ C) w a n m
theorem ModIn.turned {H C B : Nat} {w w' : World} {a : Option Addr} {n : Nat} {m : List dOp} (h : ModIn H C w a n m) (ht : Turned B w w' C) (hH : H ≤ w.heap.size) : ModIn H C w' a n m :=
  ListAt.keep h fun b hb => ht.block (Nat.lt_of_lt_of_le hb.1 hH) hb.2
theorem ModIn.below {H C B : Nat} {w w' : World} {a : Option Addr} {n : Nat} {m : List dOp} (h : ModIn H C w a n m) (hw : Below B w w') (hH : H ≤ B) : ModIn H C w' a n m :=
  ListAt.keep h fun b hb => hw.block b (Nat.lt_of_lt_of_le hb.1 hH)
theorem ModIn.reads {H C : Nat} {w : World} {a : Option Addr} {n c : Nat} {m : List dOp} (h : ModIn H C w a n m) (hc1 : n ≤ c) (hc2 : c ≤ 9223372036854775807) (hH : H ≤ w.heap.size) : shModel.reads (Under w.heap.size) w [.slice a n c] m :=
  shModel_reads.2 ⟨a, n, c, rfl, hc1, hc2, ListAt.sub h fun b hb => Nat.lt_of_lt_of_le hb.1 hH⟩
/-- A batch was drawn. -/
def DrewBt (P : Nat → Prop) (B : Nat) (w : World) (C : Nat) (e : Ending) (w' : World) : Prop := ∃ a n c b, e = .returned (.slice a n c) ∧ (P n ∧ b.length = n ∧ n ≤ c ∧ c ≤ 9223372036854775807 ∧ SmallB b) ∧ ListQ shPair 47 w.heap.size w'.heap.size w' (.slice a n c) b ∧ Turned B w w' C
set_option maxRecDepth 100000 in
set_option maxHeartbeats 1600000 in
theorem l6Batch_e (B : Nat) (w : World) (C : Nat) (hc : Cu B w C) (a : Option Addr) (n c : Nat) (m : List dOp) (hm : ModIn w.heap.size C w a n m) (hc1 : n ≤ c) (hc2 : c ≤ 9223372036854775807) (hb : shModel.bulk m ≤ 1048576) :
    Calls Tryz.prog 36 #[.pointer (some ⟨C, 0, none⟩), .agg #[.slice a n c]] w (DrewBt (fun k => 1 ≤ k ∧ k ≤ 4) B w C) := by
  obtain ⟨j0, hj, hy0, hy1, hy2⟩ := info_parts infoPair1
  have hlt := hc.lt
  obtain ⟨II, hII⟩ : ∃ I, inOfN m = I := ⟨_, rfl⟩
  obtain ⟨OO, hOO⟩ : ∃ I, outOfN m = I := ⟨_, rfl⟩
  have hi8 := inOf_in m
  have ho8 := outOf_in m
  rw [hII] at hi8
  rw [hOO] at ho8
  obtain ⟨hi0, hi1⟩ := hi8
  obtain ⟨ho0, ho1⟩ := ho8
  have CI : Hid (∀ (H : Nat) (w' : World), H ≤ w'.heap.size → ModIn H C w' a n m → Calls Tryz.prog 28 #[.agg #[.slice a n c]] w' fun e w2 => e = .returned (.int .i64 II) ∧ Below w'.heap.size w' w2) := Lib.hid fun H w' hH h => by
    have := specInOf_d w' [.slice a n c] m (h.reads hc1 hc2 hH) hb
    rw [hII] at this
    exact this
  have CO : Hid (∀ (H : Nat) (w' : World), H ≤ w'.heap.size → ModIn H C w' a n m → Calls Tryz.prog 29 #[.agg #[.slice a n c]] w' fun e w2 => e = .returned (.int .i64 OO) ∧ Below w'.heap.size w' w2) := Lib.hid fun H w' hH h => by
    have := specOutOf_d w' [.slice a n c] m (h.reads hc1 hc2 hH) hb
    rw [hOO] at this
    exact this
  clear hII hOO
  have h0 := (Turned.refl hc).alloc (.cells #[.slice a n c] 26 (0, 0))
  have hb0 := heap_alloc_new w (.cells #[.slice a n c] 26 (0, 0))
  have hs0 : (w.alloc (.cells #[.slice a n c] 26 (0, 0))).heap.size = w.heap.size + 1 := by simp
  have hm0 := hm.below ((Below.refl w.heap.size w).alloc (Nat.le_refl _) (.cells #[.slice a n c] 26 (0, 0))) (Nat.le_refl _)
  clear hc hm
  go_enter Tryz.func36, Tryz.ntmps36
  go_upto_region 1 with fail
  generalize w.alloc (.cells #[.slice a n c] 26 (0, 0)) = wa at h0 hb0 hs0 hm0 ⊢
  have hal : Below wa.heap.size wa (wa.alloc (.cells #[] 47 (0, 0))) := (Below.refl _ _).alloc (Nat.le_refl _) _
  have hli := ListQ.empty shPair 47 (lo := w.heap.size + 1) wa (by omega)
  have hs1 : (wa.alloc (.cells #[] 47 (0, 0))).heap.size = wa.heap.size + 1 := by simp
  have T1 := Lib.hid (h0.then hal)
  have B1 := Lib.hid ((hal.block w.heap.size (by omega)).trans hb0)
  have M1 := Lib.hid (hm0.below hal (by omega))
  have L1 := Lib.hid hli
  clear hli hal h0 hb0 hm0
  go_wp2_with fail
  generalize wa.alloc (.cells #[] 47 (0, 0)) = wb at T1 B1 M1 L1 hs1 ⊢
  refine (l1Below_e B _ C 4 (by omega) T1.out.cu).mono ?_
  rintro e w2 ⟨y, rfl, ⟨y0, y1⟩, ht2⟩
  have hs2 := ht2.size
  have T2 := Lib.hid (T1.out.trans ht2)
  have B2 := Lib.hid ((ht2.block (by omega) (by omega)).trans B1.out)
  have M2 := Lib.hid (M1.out.turned ht2 (by omega))
  have L2 := Lib.hid ((L1.out.turned ht2 (by omega)).wide (hi' := w2.heap.size) (Nat.le_refl _) (by omega) (Nat.le_refl _))
  obtain ⟨N, hN⟩ : ∃ N : Nat, 1 + y = (N : Int) := ⟨(1 + y).toNat, by omega⟩
  have hN0 : 1 ≤ N := by omega
  have hN4 : N ≤ 4 := by omega
  clear ht2 T1 B1 M1 L1
  go_wp2_with fail
  clear hN y0 y1
  go_loopw [5, 6] (fun v nn wr => ∃ (r : Nat) (b : List dPair), nn = .int .i64 r ∧ r + b.length = N ∧ SmallB b ∧ wr.heap[w.heap.size]? = some (.cells #[.slice a n c] 26 (0, 0)) ∧ ModIn w.heap.size C wr a n m ∧ ListQ shPair 47 (w.heap.size + 1) wr.heap.size wr v b ∧ Turned B w wr C) (fun _ nn _ => (intOf nn).toNat)
  case atStart => exact ⟨N, [], rfl, by simp, fun j x hx => by simp at hx, B2.out, M2.out, by have h := L2.out; rw [hs0] at h; exact h, T2.out⟩
  case round =>
    obtain ⟨r, b, rfl, hrb, hsm, hbx, hmi, hli, ht⟩ := hrel
    obtain ⟨k, hk⟩ : ∃ k, b.length = k := ⟨_, rfl⟩
    obtain ⟨av, cv, rfl, hcv1, hcv2⟩ := hli.form
    have hsz2 : w.heap.size + 1 ≤ wr.heap.size := by have := (Array.getElem?_eq_some_iff.1 hbx).1; omega
    rw [hk] at hrb hcv1 hli ⊢
    have HN := Lib.hid hk
    have HSM := Lib.hid hsm
    by_cases hr0 : 0 < r
    · have hr1 : (0 : Int) < (r : Int) := by omega
      have hdr : Below wr.heap.size wr wr.drew := (Below.refl _ _).drew
      have hsd : wr.heap.size ≤ wr.drew.heap.size := hdr.size
      have HB : Hid (wr.drew.heap[w.heap.size]? = some (.cells #[.slice a n c] 26 (0, 0))) := Lib.hid hbx
      have HM := Lib.hid (hmi.below hdr (by omega))
      have HL := Lib.hid (hli.below hdr (Nat.le_refl _))
      have HT := Lib.hid (ht.then hdr)
      have yb := box1 hbx
      clear hbx hmi hli ht hsm hk hdr
      go_wp2_with fail
      go_region_held3 (fun w' => w'.cell? ⟨w.heap.size, 0, none⟩ = some (.slice a n c)) (first | assumption | go_keep)
        (first
          | (refine step_append_lies _ (by rfl) _ _ _ (by rfl) (w.heap.size + 1) 47 j0 (.agg #[.slice none 0 0, .slice none 0 0]) 2 48 Tryz.underlying27 hj hy0 hy1 hy2 rfl (by decide) (.slice av k cv) k us (by rfl) HOW.out ⟨w8.heap.size, 0, none⟩ 1 1 [.slice ax xs.length cx, .slice ay ys.length cy] (by rfl) (by rfl) HND.out (slices_two _ _ _ _ _ _) (by omega) (by unfold maxLen; omega) (by omega) HBS.out _ (by rfl) ?_
             intro g' cap w9 hown9 hgrow9 hat9 hlt9
             have hp := ListQ.put (S := shPair) (T := 47) (lo := w.heap.size + 1) (hi := wr.heap.size) (w := w8) (w' := w9) (v := .slice av k cv) (v' := .slice (some ⟨g', 0, none⟩) (k + 1) cap) (xs := b) (o := (.cells #[.slice ax xs.length cx, .slice ay ys.length cy] 47 (0, 0))) (x := (xs, ys))
               (by omega) Q1.out Q2.out (by omega) Q3.out HRD.out rfl (by rw [HN.out]; exact hown9) hgrow9 (by
                 rcases hat9 with e | e
                 · exact .inl e.symm
                 · exact .inr (congrArg some e))
             have HT := Lib.hid ((HT.out.alloc (.cells #[.slice ax xs.length cx, .slice ay ys.length cy] 47 (0, 0))).grow hlt hgrow9 fun r hr => by have := (World.ownsRow.lt Q1.out r hr).1; omega)
             have HB := Lib.hid ((hp.2.block w.heap.size (by omega)).trans HB.out)
             have HM := Lib.hid (HM.out.below hp.2 (by omega))
             have HL := Lib.hid hp.1
             have yb9 := box1 HB.out
             have HSM := Lib.hid (HSM.out.snoc (x := (xs, ys)) (by show xs.length ≤ 8; omega) (by show ys.length ≤ 8; omega))
             clear hp hown9 hgrow9 hat9)
          | (go_at_call 28; (with_reducible refine (CI.out w.heap.size _ (by omega) HM.out).mono ?_); rintro e w5 ⟨rfl, hb5⟩; have hs5 := hb5.size; have HB := Lib.hid ((hb5.block w.heap.size (by omega)).trans HB.out); have HM := Lib.hid (HM.out.below hb5 (by omega)); have HL := Lib.hid (HL.out.below hb5 (by omega)); have HT := Lib.hid (HT.out.then hb5); have yb5 := box1 HB.out; clear hb5)
          | (go_at_call 29; (with_reducible refine (CO.out w.heap.size _ (by omega) HM.out).mono ?_); rintro e w7 ⟨rfl, hb7⟩; have hs7 := hb7.size; have HB := Lib.hid ((hb7.block w.heap.size (by omega)).trans HB.out); have HM := Lib.hid (HM.out.below hb7 (by omega)); have HL := Lib.hid (HL.out.below hb7 (by omega)); have HT := Lib.hid (HT.out.then hb7); have HX := Lib.hid (HX.out.below hb7); have yb7 := box1 HB.out; clear hb7)
          | (go_at_call 54; (with_reducible refine (l3Vec_j B _ C II hi0 hi1 HT.out.cu).mono ?_); rintro e w6 ⟨ux, xs, rfl, hxl, hrx, ht6⟩; obtain ⟨ax, cx, rfl, -⟩ := hrx.form; have hs6 := ht6.size; have HB := Lib.hid ((ht6.block (by omega) (by omega)).trans HB.out); have HM := Lib.hid (HM.out.turned ht6 (by omega)); have HL := Lib.hid (HL.out.turned ht6 (by omega)); have HT := Lib.hid (HT.out.trans ht6); have HX := Lib.hid hrx; have yb6 := box1 HB.out; clear ht6 hrx)
          | (go_at_call 54; (with_reducible refine (l3Vec_j B _ C OO ho0 ho1 HT.out.cu).mono ?_); rintro e w8 ⟨uy, ys, rfl, hyl, hry, ht8⟩; obtain ⟨ay, cy, rfl, -⟩ := hry.form; have hs8 := ht8.size; have HB := Lib.hid ((ht8.block (by omega) (by omega)).trans HB.out); have HM := Lib.hid (HM.out.turned ht8 (by omega)); have HL := Lib.hid (HL.out.turned ht8 (by omega)); have HT := Lib.hid (HT.out.trans ht8); have HX := Lib.hid (HX.out.turned (by omega) ht8); have HY := Lib.hid hry; clear hry; have yb8 := box1 HB.out; obtain ⟨us, q1, q2, q3⟩ := HL.out.all; have hw8 : w.heap.size + 1 ≤ w8.heap.size := (by omega); have hrx := Row.listAt HX.out; have hry := Row.listAt HY.out; have HRD : Hid (shPair.reads (fun b => w.heap.size + 1 ≤ b ∧ b < w8.heap.size ∧ (Value.slice av k cv).ownBlock ≠ some b) w8 [.slice ax xs.length cx, .slice ay ys.length cy] (xs, ys)) := Lib.hid (by
               obtain ⟨a1, n1, c1, e1, g1, g2, g3⟩ := hrx
               obtain ⟨a2, n2, c2, e2, g4, g5, g6⟩ := hry
               simp only [List.cons.injEq, Value.slice.injEq, and_true] at e1 e2
               obtain ⟨rfl, rfl, rfl⟩ := e1
               obtain ⟨rfl, rfl, rfl⟩ := e2
               exact shPair_reads.2 ⟨ax, _, cx, ay, _, cy, rfl, ⟨g1, g2, g3.sub fun b hb => ⟨by have := hb.1; omega, hb.2, fun e' => by have := q2 b e'; have := hb.1; omega⟩⟩, ⟨g4, g5, g6.sub fun b hb => ⟨by have := hb.1; omega, hb.2, fun e' => by have := q2 b e'; have := hb.1; omega⟩⟩⟩); have q1' := q1; rw [HN.out] at q1'; have HOW : Hid ((w8.alloc (.cells #[.slice ax xs.length cx, .slice ay ys.length cy] 47 (0, 0))).ownsRow (w.heap.size + 1) 47 2 (.slice av k cv) k us) := Lib.hid (World.ownsRow.alloc q1' _); have HND : Hid (∀ j u, ([.slice ax xs.length cx, .slice ay ys.length cy] : List Value)[j]? = some u → (w8.alloc (.cells #[.slice ax xs.length cx, .slice ay ys.length cy] 47 (0, 0))).cell? ((⟨w8.heap.size, 0, none⟩ : Addr).add j) = some u) := Lib.hid (World.news_of_block (heap_alloc_new w8 (.cells #[.slice ax xs.length cx, .slice ay ys.length cy] 47 (0, 0)))); have HBS : Hid (w.heap.size + 1 ≤ (w8.alloc (.cells #[.slice ax xs.length cx, .slice ay ys.length cy] 47 (0, 0))).heap.size) := Lib.hid (by rw [size_one']; omega); have Q1 := Lib.hid q1; have Q2 := Lib.hid q2; have Q3 := Lib.hid q3; clear ht8 hry hrx q1 q2 q3 q1'))
      go_wp2_with fail
      go_roundw
      case rel =>
        refine ⟨r - 1, b ++ [(xs, ys)], ?_, ?_, HSM.out, HB.out, HM.out, HL.out, HT.out⟩
        · congr 1
          omega
        · rw [List.length_append, HN.out]
          show r - 1 + (k + 1) = N
          omega
      case measure => simp [intOf]; omega
    · obtain rfl : r = 0 := by omega
      obtain ⟨rfl, hn4⟩ : N = k ∧ k ≤ 4 := by omega
      have HB := Lib.hid hbx
      have HL := Lib.hid hli
      have HT := Lib.hid ht
      clear hbx hmi hli ht hsm hk
      go_wp2_with fail
      go_ret
      exact ⟨av, N, cv, b, rfl, ⟨⟨hN0, hn4⟩, HN.out, hcv1, hcv2, HSM.out⟩, HL.out.wide (by omega) (Nat.le_refl _) (Nat.le_refl _), HT.out⟩
end Go.Proofs.YtkmcfbopilieeaaGreatDoor

end

/-! YtkmcfbopilieeaaGreatDoorDrawMd -/
section

namespace Go.Proofs.YtkmcfbopilieeaaGreatDoor
open Go.RowKit Go.Sort
set_option linter.unusedVariables false

section
variable {α : Type} {S : Shape α} {T : TypeId} {lo hi : Nat} {w : World} {xs : List α}
/-- One cell of one element is written anew. -/
theorem ListQ.poke {n cap g j q : Nat} {u : Value} {x : α} (h : ListQ S T lo hi w (.slice (some ⟨g, 0, none⟩) n cap) xs) (hj : j < xs.length) (hn : n = xs.length) (hq : q < S.size)
    (hs : ∀ y es, xs[j]? = some y → es.length = S.size → S.reads (fun b => lo ≤ b ∧ b < hi ∧ some g ≠ some b) w es y → S.reads (fun b => lo ≤ b ∧ b < w.heap.size ∧ some g ≠ some b) w (es.set q u) x) :
    ListQ S T lo w.heap.size (w.setCell ⟨g, j * S.size + q, none⟩ u) (.slice (some ⟨g, 0, none⟩) n cap) (xs.set j x) := by
  subst hn
  obtain ⟨us, h1, h2, h3⟩ := h.all
  have hlg := World.ownsRow.lt h1 g rfl
  have hus : us.length = xs.length * S.size := h1.1
  obtain ⟨us', k1, k2, k3, k4⟩ := owns_setCells [u] (j * S.size + q) w us h1
  have hpj := place_le (s := S.size) hj
  have hkeep : ∀ b, some g ≠ some b → (w.setCell ⟨g, j * S.size + q, none⟩ u).heap[b]? = w.heap[b]? := fun b hb => heap_setCell_other _ _ _ _ (by show b ≠ g; intro e; exact hb (by rw [e]))
  refine ⟨by simp, us', by rw [List.length_set]; exact k1, fun g' e => Nat.lt_of_lt_of_le (h2 g' e) h.top, fun i y hy => ?_⟩
  by_cases e : i = j
  · subst e
    rw [List.getElem?_set_self hj] at hy
    cases hy
    obtain ⟨es, q1, q2, q3⟩ := h3 i _ (List.getElem?_eq_getElem hj)
    refine ⟨es.set q u, fun p v hv => ?_, by rw [List.length_set]; exact q2, S.keep (hs _ es (List.getElem?_eq_getElem hj) q2 q3) fun b hb => hkeep b hb.2.2⟩
    by_cases ep : p = q
    · subst ep
      rw [List.getElem?_set_self (by omega)] at hv
      cases hv
      exact k3 0 u rfl (by rw [hus]; omega)
    · rw [List.getElem?_set_ne (fun e' => ep e'.symm)] at hv
      rw [k4 _ (by simp; omega)]
      exact q1 p v hv
  · rw [List.getElem?_set_ne (fun e' => e e'.symm)] at hy
    obtain ⟨es', q1, q2, q3⟩ := h3 i y hy
    have hi : i < xs.length := (List.getElem?_eq_some_iff.1 hy).1
    refine ⟨es', fun p v hv => ?_, q2, S.sub (S.keep q3 fun b hb => hkeep b hb.2.2) fun b hb => ⟨hb.1, Nat.lt_of_lt_of_le hb.2.1 h.top, hb.2.2⟩⟩
    have hp := (List.getElem?_eq_some_iff.1 hv).1
    rw [k4 _ ?_]
    · exact q1 p v hv
    · simp only [List.length_singleton]
      rcases Nat.lt_or_gt_of_ne e with a | a
      · have := place_le (s := S.size) a; omega
      · have := place_le (s := S.size) a; omega
theorem ListQ.first {n cap : Nat} {a : Option Addr} (h : ListQ S T lo hi w (.slice a n cap) xs) (hn : xs.length = n) (h0 : 0 < n) (hS : 0 < S.size) : ∃ g, a = some ⟨g, 0, none⟩ ∧ lo ≤ g ∧ g < hi ∧ ∃ x es, xs[0]? = some x ∧ es.length = S.size ∧ w.rangeAt g 0 es ∧ S.reads (fun b => lo ≤ b ∧ b < hi ∧ some g ≠ some b) w es x ∧ ∀ i, w.frozen? ⟨g, i, none⟩ = false := by
  obtain ⟨us, h1, h2, h3⟩ := h.all
  have hx : xs[0]? = some (xs[0]'(by omega)) := List.getElem?_eq_getElem _
  obtain ⟨es, q1, q2, q3⟩ := h3 0 _ hx
  have h1' := h1
  rcases h1.2 with ⟨-, hn'⟩ | ⟨g, cap', cur, e, e1, e2, e3, e4, -⟩
  · omega
  · simp only [Value.slice.injEq] at e
    obtain ⟨rfl, rfl, rfl⟩ := e
    have hp := place_le (s := S.size) (by omega : 0 < xs.length)
    refine ⟨g, rfl, e1, h2 g rfl, _, es, hx, q2, fun i u hu => ?_, q3, fun i => World.ownsRow.frozenAt h1' i⟩
    have hi := (List.getElem?_eq_some_iff.1 hu).1
    have hl1 : w.cell? ⟨g, 0 + i, none⟩ = us[0 + i]? := World.ownsRow.cellAt h1' (0 + i) (by omega)
    rw [hl1]
    have := q1 i u hu
    rw [Nat.zero_mul] at this
    exact this
end
theorem SmallB.set {b : List dPair} {x : dPair} {j : Nat} (h : SmallB b) (h1 : x.1.length ≤ 8) (h2 : x.2.length ≤ 8) : SmallB (b.set j x) := fun i y hy => by
  by_cases e : j = i
  · subst e
    by_cases hj : j < b.length
    · rw [List.getElem?_set_self hj] at hy
      cases hy
      exact ⟨h1, h2⟩
    · rw [List.getElem?_eq_none (by simp; omega)] at hy
      cases hy
  · rw [List.getElem?_set_ne e] at hy
    exact h i y hy
def leftB : Value → Nat
  | .slice _ n _ => 6 - n
  | _ => 0
set_option maxRecDepth 100000 in
set_option maxHeartbeats 1600000 in
theorem l6AnyBatch_e (B : Nat) (w : World) (C : Nat) (hc : Cu B w C) (a : Option Addr) (n c : Nat) (m : List dOp) (hm : ModIn w.heap.size C w a n m) (hc1 : n ≤ c) (hc2 : c ≤ 9223372036854775807) (hb : shModel.bulk m ≤ 1048576) :
    Calls Tryz.prog 23 #[.pointer (some ⟨C, 0, none⟩), .agg #[.slice a n c]] w (DrewBt (fun k => k ≤ 6) B w C) := by
  obtain ⟨j0, hj, hy0, hy1, hy2⟩ := info_parts infoPair1
  have hlt := hc.lt
  have h0 := (Turned.refl hc).alloc (.cells #[.slice a n c] 26 (0, 0))
  have hb0 := heap_alloc_new w (.cells #[.slice a n c] 26 (0, 0))
  have hs0 : (w.alloc (.cells #[.slice a n c] 26 (0, 0))).heap.size = w.heap.size + 1 := by simp
  have hm0 := hm.below ((Below.refl w.heap.size w).alloc (Nat.le_refl _) (.cells #[.slice a n c] 26 (0, 0))) (Nat.le_refl _)
  clear hc hm
  go_enter Tryz.func23, Tryz.ntmps23
  go_upto_region 1 with fail
  generalize w.alloc (.cells #[.slice a n c] 26 (0, 0)) = wa at h0 hb0 hs0 hm0 ⊢
  have yb := box1 hb0
  go_wp2_with fail
  refine (l6Batch_e B wa C h0.cu a n c m (ListAt.sub hm0 fun b hb' => ⟨by have := hb'.1; omega, hb'.2⟩) hc1 hc2 hb).mono ?_
  rintro e w1 ⟨av, k, cv, b, rfl, ⟨⟨k1, k4⟩, hk, hcv1, hcv2, hsm⟩, hli, ht1⟩
  have hs1 := ht1.size
  have T1 := Lib.hid (h0.trans ht1)
  have L1 := Lib.hid (hli.wide (lo' := w.heap.size) (hi' := w1.heap.size) (by omega) (Nat.le_refl _) (Nat.le_refl _))
  have HN := Lib.hid hk
  have HSM := Lib.hid hsm
  clear h0 hb0 hm0 ht1 hli yb hk hsm hb
  go_wp2_with fail
  refine (l1Below_e B _ C 16 (by omega) T1.out.cu).mono ?_
  rintro e w2 ⟨z, rfl, ⟨z0, z1⟩, ht2⟩
  have hs2 := ht2.size
  have T2 := Lib.hid (T1.out.trans ht2)
  have L2 := Lib.hid ((L1.out.turned ht2 (by omega)).wide (hi' := w2.heap.size) (Nat.le_refl _) (by omega) (Nat.le_refl _))
  clear ht2 T1 L1
  by_cases e0 : z = 0
  · subst e0
    go_wp2_with fail
    go_ret
    exact ⟨_, 0, 0, [], rfl, ⟨by omega, rfl, by omega, by omega, fun j x hx => by simp at hx⟩, by
      have h := ListQ.empty shPair 47 (lo := w.heap.size) w2 (by omega)
      exact h.wide (Nat.le_refl _) (by simp) (Nat.le_refl _), T2.out.alloc _⟩
  · have t0 : (z == 0) = false := by simpa using e0
    obtain ⟨g, rfl, hg1, hg2, x0, es0, hx0, hes, hrng, hrd0, hfz⟩ := L2.out.first HN.out (by omega) (by decide)
    by_cases e1 : z = 1
    · subst e1
      go_wp2_with fail
      refine (l3Any_e B _ C T2.out.cu).mono ?_
      rintro e w3 ⟨ux, xs, rfl, hxl, hrx, ht3⟩
      obtain ⟨ax, cx, rfl, -⟩ := hrx.form
      have hs3 := ht3.size
      have T3 := Lib.hid (T2.out.trans ht3)
      have hl3 := L2.out.turned ht3 (by omega)
      clear hx0 hes hrng hrd0 hfz x0 es0
      obtain ⟨g', e', -, -, x0, es0, hx0, hes, hrng, hrd0, hfz⟩ := hl3.first HN.out (by omega) (by decide)
      cases e'
      obtain ⟨ea, eb, rfl⟩ : ∃ ea eb, es0 = [ea, eb] := by
        match es0, hes with
        | [ea, eb], _ => exact ⟨ea, eb, rfl⟩
      have y0 : w3.cell? ⟨g, 0, none⟩ = some ea := hrng 0 ea rfl
      have y1 := hfz 0
      have hset := (hl3.wide (hi' := w3.heap.size) (Nat.le_refl _) (by omega) (Nat.le_refl _)).poke (j := 0) (q := 0) (u := .slice ax xs.length cx) (x := (xs, x0.2)) (by rw [HN.out]; omega) HN.out.symm (by decide) (by
        intro y es hy hl hr
        rw [hx0] at hy
        cases hy
        obtain ⟨a0, n0, c0, a1, n1, c1, rfl, g1, g2⟩ := shPair_reads.1 hr
        obtain ⟨a2, n2, c2, e2, g4, g5, g6⟩ := Row.listAt hrx
        simp only [List.cons.injEq, Value.slice.injEq, and_true] at e2
        obtain ⟨rfl, rfl, rfl⟩ := e2
        exact shPair_reads.2 ⟨ax, _, cx, a1, n1, c1, rfl, ⟨g4, g5, g6.sub fun b hb => ⟨by have := hb.1; omega, hb.2, fun e' => by have := hb.1; cases e'; omega⟩⟩, g2⟩)
      have hx8 := hrd0
      have HSET : Hid (ListQ shPair 47 w.heap.size w3.heap.size (w3.setCell ⟨g, 0, none⟩ (.slice ax xs.length cx)) (.slice (some ⟨g, 0, none⟩) k cv) (b.set 0 (xs, x0.2))) := Lib.hid hset
      have HS8 := Lib.hid (HSM.out.set (j := 0) (x := (xs, x0.2)) (by show xs.length ≤ 8; omega) (HSM.out 0 x0 hx0).2)
      clear hset hl3 hrx ht3 hx0 hes hrng hrd0 hfz hx8
      go_wp2_with fail
      go_ret
      exact ⟨_, k, cv, _, rfl, ⟨by omega, by rw [List.length_set]; exact HN.out, hcv1, hcv2, HS8.out⟩, HSET.out.wide (Nat.le_refl _) (by simp) (Nat.le_refl _), T3.out.setCell hlt ⟨g, 0, none⟩ _ (by show w.heap.size ≤ g; omega)⟩
    · have t1 : (z == 1) = false := by simpa using e1
      clear hx0 hes hrng hrd0 hfz x0 es0
      by_cases e2 : z = 2
      · subst e2
        go_wp2_with fail
        go_loopw [5] (fun v wr => ∃ (p g' cp : Nat) (b' : List dPair), p ≤ 5 ∧ v = .slice (some ⟨g', 0, none⟩) (p + 1) cp ∧ b'.length = p + 1 ∧ SmallB b' ∧ ListQ shPair 47 w.heap.size wr.heap.size wr v b' ∧ Turned B w wr C) (fun v _ => leftB v)
        case atStart =>
          obtain ⟨p, rfl⟩ : ∃ p, k = p + 1 := ⟨k - 1, by omega⟩
          exact ⟨p, g, cv, b, by omega, rfl, HN.out, HSM.out, L2.out, T2.out⟩
        case round =>
          obtain ⟨p, g', cp, b', hp5, rfl, hb', hsm', hli, ht⟩ := hrel
          have HL := Lib.hid hli
          have HT := Lib.hid ht
          have HB' := Lib.hid hb'
          have HSM' := Lib.hid hsm'
          have hsz : w.heap.size ≤ wr.heap.size := ht.size
          clear hli ht hb' hsm'
          go_wp2_with fail
          refine (l1Below_e B _ C 2 (by omega) HT.out.cu).mono ?_
          rintro e w6 ⟨u, rfl, ⟨u0, u1⟩, ht6⟩
          have hs6 := ht6.size
          have HL6 := Lib.hid (HL.out.turned ht6 (by omega))
          have HT6 := Lib.hid (HT.out.trans ht6)
          clear ht6
          by_cases hgo : ((p + 1 : Nat) : Int) < 5 + u
          · have hgo' : (p : Int) + 1 < 5 + u := by omega
            have hw8 : IntKind.i64.wrap (5 + u) = 5 + u := by
              rcases (by omega : u = 0 ∨ u = 1) with rfl | rfl <;> decide
            obtain ⟨gq, e', hq1, hq2, x0, es0, hx0, hes, hrng, hrd0, hfz⟩ := HL6.out.first HB'.out (by omega) (by decide)
            cases e'
            obtain ⟨ea, eb, rfl⟩ : ∃ ea eb, es0 = [ea, eb] := by
              match es0, hes with
              | [ea, eb], _ => exact ⟨ea, eb, rfl⟩
            obtain ⟨a0, n0, c0, a1, n1, c1, e', hr0, hr1⟩ := shPair_reads.1 hrd0
            simp only [List.cons.injEq, and_true] at e'
            obtain ⟨rfl, rfl⟩ := e'
            have y0 : w6.cell? ⟨g', 0, none⟩ = some (.slice a0 n0 c0) := hrng 0 _ rfl
            have y1 : w6.cell? ⟨g', 1, none⟩ = some (.slice a1 n1 c1) := hrng 1 _ rfl
            obtain ⟨us, q1, q2, q3⟩ := HL6.out.all
            have HRR : Hid (shPair.reads (fun b => w.heap.size ≤ b ∧ b < w6.heap.size ∧ (Value.slice (some ⟨g', 0, none⟩) (p + 1) cp).ownBlock ≠ some b) w6 [.slice a0 n0 c0, .slice a1 n1 c1] x0) := Lib.hid (shPair.sub hrd0 fun b hb => ⟨hb.1, by have := hb.2.1; omega, hb.2.2⟩)
            have q1' := q1
            rw [HB'.out] at q1'
            have HOW : Hid ((w6.alloc (.cells #[.slice a0 n0 c0, .slice a1 n1 c1] 47 (0, 0))).ownsRow w.heap.size 47 2 (.slice (some ⟨g', 0, none⟩) (p + 1) cp) (p + 1) us) := Lib.hid (World.ownsRow.alloc q1' _)
            have HND : Hid (∀ j u, ([.slice a0 n0 c0, .slice a1 n1 c1] : List Value)[j]? = some u → (w6.alloc (.cells #[.slice a0 n0 c0, .slice a1 n1 c1] 47 (0, 0))).cell? ((⟨w6.heap.size, 0, none⟩ : Addr).add j) = some u) := Lib.hid (World.news_of_block (heap_alloc_new w6 (.cells #[.slice a0 n0 c0, .slice a1 n1 c1] 47 (0, 0))))
            have HBS : Hid (w.heap.size ≤ (w6.alloc (.cells #[.slice a0 n0 c0, .slice a1 n1 c1] 47 (0, 0))).heap.size) := Lib.hid (by rw [size_one']; omega)
            have hP : Hid (∀ (w9 : World) (g9 cap : Nat), w9.ownsRow w.heap.size 47 2 (.slice (some ⟨g9, 0, none⟩) (p + 1 + 1) cap) (p + 1 + 1) (us ++ [.slice a0 n0 c0, .slice a1 n1 c1]) → (w6.alloc (.cells #[.slice a0 n0 c0, .slice a1 n1 c1] 47 (0, 0))).grownBy w9 (Value.slice (some ⟨g', 0, none⟩) (p + 1) cp).ownBlock →
                ((Value.slice (some ⟨g', 0, none⟩) (p + 1) cp).ownBlock = some g9 ∨ g9 = (w6.alloc (.cells #[.slice a0 n0 c0, .slice a1 n1 c1] 47 (0, 0))).heap.size) → ListQ shPair 47 w.heap.size w9.heap.size w9 (.slice (some ⟨g9, 0, none⟩) (p + 1 + 1) cap) (b' ++ [x0]) ∧ Turned B w w9 C) := Lib.hid fun w9 g9 cap ho hgr hat => by
              have hp := ListQ.put (S := shPair) (T := 47) (lo := w.heap.size) (hi := wr.heap.size) (w := w6) (w' := w9) (v := .slice (some ⟨g', 0, none⟩) (p + 1) cp) (v' := .slice (some ⟨g9, 0, none⟩) (p + 1 + 1) cap) (xs := b') (o := (.cells #[.slice a0 n0 c0, .slice a1 n1 c1] 47 (0, 0))) (x := x0)
                hsz q1 q2 HL6.out.top q3 HRR.out rfl (by rw [HB'.out]; exact ho) hgr (by
                  rcases hat with e | e
                  · exact .inl e.symm
                  · exact .inr (congrArg some e))
              exact ⟨hp.1, (HT6.out.alloc (.cells #[.slice a0 n0 c0, .slice a1 n1 c1] 47 (0, 0))).grow hlt hgr fun r hr => (World.ownsRow.lt q1 r hr).1⟩
            have HS9 := Lib.hid (HSM'.out.snoc (x := x0) (HSM'.out 0 x0 hx0).1 (HSM'.out 0 x0 hx0).2)
            have hp4 : p ≤ 4 := by omega
            have hpq : 0 < p + 1 := by omega
            clear hx0 hes hrng hrd0 hfz hr0 hr1 q1 q1' q2 q3
            go_wp2_with (at_builtin; refine wpList_append_lies _ rfl _ _ 27 rfl w.heap.size 47 j0 (.agg #[.slice none 0 0, .slice none 0 0]) 2 48 Tryz.underlying27 hj hy0 hy1 hy2 rfl (by decide) _ _ _ rfl HOW.out ⟨w6.heap.size, 0, none⟩ 1 1 [.slice a0 n0 c0, .slice a1 n1 c1] rfl rfl HND.out (slices_two _ _ _ _ _ _) (by omega) (by unfold maxLen; omega) (by omega) HBS.out _ rfl ?_; intro g9 cap9 w9 hown9 hgrow9 hat9 _; obtain ⟨hl9, ht9⟩ := hP.out w9 g9 cap9 hown9 hgrow9 hat9; have HL9 := Lib.hid hl9; have HT9 := Lib.hid ht9; clear hown9 hgrow9 hat9 hl9 ht9)
            go_roundw
            case rel => exact ⟨p + 1, g9, cap9, b' ++ [x0], by omega, rfl, by rw [List.length_append, HB'.out]; rfl, HS9.out, HL9.out, HT9.out⟩
            case measure => simp [leftB]; omega
          · have hgo' : ¬ ((p : Int) + 1 < 5 + u) := by omega
            have hw8 : IntKind.i64.wrap (5 + u) = 5 + u := by
              rcases (by omega : u = 0 ∨ u = 1) with rfl | rfl <;> decide
            go_wp2_with fail
            go_ret
            exact ⟨_, p + 1, cp, b', rfl, ⟨by omega, HB'.out, by
              obtain ⟨a9, c9, e9, h9, -⟩ := HL6.out.form
              simp only [Value.slice.injEq] at e9
              obtain ⟨-, -, rfl⟩ := e9
              have := HB'.out
              omega, by
              obtain ⟨a9, c9, e9, -, h9⟩ := HL6.out.form
              simp only [Value.slice.injEq] at e9
              obtain ⟨-, -, rfl⟩ := e9
              exact h9, HSM'.out⟩, HL6.out.wide (Nat.le_refl _) (by omega) (Nat.le_refl _), HT6.out⟩
      · have t2 : (z == 2) = false := by simpa using e2
        go_wp2_with fail
        go_ret
        exact ⟨_, k, cv, b, rfl, ⟨by omega, HN.out, hcv1, hcv2, HSM.out⟩, L2.out, T2.out⟩
end Go.Proofs.YtkmcfbopilieeaaGreatDoor

end

/-! YtkmcfbopilieeaaGreatDoorDrawMg -/
section

namespace Go.Proofs.YtkmcfbopilieeaaGreatDoor
open Go.RowKit Go.Sort
set_option linter.unusedVariables false

theorem small_wrap {p : Nat} (h : p ≤ 9) : IntKind.i64.wrap (p : Int) = (p : Int) := by
  rcases (by omega : p = 0 ∨ p = 1 ∨ p = 2 ∨ p = 3 ∨ p = 4 ∨ p = 5 ∨ p = 6 ∨ p = 7 ∨ p = 8 ∨ p = 9) with rfl | rfl | rfl | rfl | rfl | rfl | rfl | rfl | rfl | rfl <;> decide
theorem results_two {P : Program} {fn : Func} {p q : Tmp} {ty ty' : TypeId} (h : fn.results = #[.cell p ty, .cell q ty']) (tmps : Array Value) (w : World) (g g' : Nat) (t t' : TypeId) (cs cs' : Array Value) (fr fr' : Nat × Nat) (d d' : TypeDesc)
    (hp : tmps.getD p undef = .pointer (some ⟨g, 0, none⟩)) (hq : tmps.getD q undef = .pointer (some ⟨g', 0, none⟩)) (hg : w.heap[g]? = some (.cells cs t fr)) (hg' : w.heap[g']? = some (.cells cs' t' fr'))
    (hu : P.underlying ty = some d) (hd : (match d with | .struct _ | .array _ _ => true | _ => false) = true) (hi : (P.info? ty).map (·.size) = some cs.size)
    (hu' : P.underlying ty' = some d') (hd' : (match d' with | .struct _ | .array _ _ => true | _ => false) = true) (hi' : (P.info? ty').map (·.size) = some cs'.size) :
    (results fn tmps).run P w = .ok (.tuple #[.agg cs, .agg cs']) w := by
  have e : (results fn tmps).run P w = ((asAddr (tmps.getD p undef)).run P w).andThen fun a w₁ => ((loadVar ty a).run P w₁).andThen fun v w₂ => ((asAddr (tmps.getD q undef)).run P w₂).andThen fun a' w₃ => ((loadVar ty' a').run P w₃).andThen fun v' w₄ => .ok (.tuple #[v, v']) w₄ := by
    simp only [results, h]
    simp [Sem.run_bind, Result.andThen]
  rw [e, hp, hq]
  simp [asAddr, run_loadVar_row w g t ty cs fr d hg hu hd hi, run_loadVar_row w g' t' ty' cs' fr' d' hg' hu' hd' hi', Result.andThen]
/-- A list is read, off its own blocks. -/
theorem ListQ.listFrom {α : Type} {S : Shape α} {T : TypeId} {lo hi : Nat} {w : World} {v : Value} {xs : List α} (h : ListQ S T lo hi w v xs) : ∃ a cap, v = .slice a xs.length cap ∧ xs.length ≤ cap ∧ cap ≤ 9223372036854775807 ∧ ListAt S (fun b => lo ≤ b ∧ b < hi) w a xs.length xs := by
  obtain ⟨us, h1, h2, h3⟩ := h.all
  have h1' := h1
  rcases h1.2 with ⟨rfl, hn⟩ | ⟨g, cap, cur, rfl, e1, e2, e3, e4, -⟩
  · refine ⟨none, 0, by rw [hn], by omega, by omega, rfl, fun j x hx => ?_⟩
    have := (List.getElem?_eq_some_iff.1 hx).1
    omega
  · unfold maxLen at e4
    refine ⟨_, cap, rfl, e3, by omega, rfl, fun j x hx => ?_⟩
    obtain ⟨es, q1, q2, q3⟩ := h3 j x hx
    have hj : j < xs.length := (List.getElem?_eq_some_iff.1 hx).1
    have hp := place_le (s := S.size) hj
    refine ⟨g, 0, es, rfl, ⟨e1, h2 g rfl⟩, fun i u hu => ?_, S.sub q3 fun b hb => ⟨hb.1, hb.2.1⟩⟩
    have hi := (List.getElem?_eq_some_iff.1 hu).1
    rw [Nat.zero_add, World.ownsRow.cellAt h1' _ (by omega)]
    exact q1 i u hu
/-- One element of a list of one's own. -/
theorem ListQ.nth {α : Type} {S : Shape α} {T : TypeId} {lo hi n cap : Nat} {w : World} {a : Option Addr} {xs : List α} (h : ListQ S T lo hi w (.slice a n cap) xs) {j : Nat} (hj : j < xs.length) : ∃ g x es, a = some ⟨g, 0, none⟩ ∧ lo ≤ g ∧ g < hi ∧ xs[j]? = some x ∧ es.length = S.size ∧ w.rangeAt g (j * S.size) es ∧ S.reads (fun b => lo ≤ b ∧ b < hi) w es x := by
  obtain ⟨us, h1, h2, h3⟩ := h.all
  have hx : xs[j]? = some (xs[j]'hj) := List.getElem?_eq_getElem _
  obtain ⟨es, q1, q2, q3⟩ := h3 j _ hx
  have h1' := h1
  rcases h1.2 with ⟨-, hn'⟩ | ⟨g, cap', cur, e, e1, e2, e3, e4, -⟩
  · omega
  · simp only [Value.slice.injEq] at e
    obtain ⟨rfl, rfl, rfl⟩ := e
    have hp := place_le (s := S.size) hj
    refine ⟨g, _, es, rfl, e1, h2 g rfl, hx, q2, fun i u hu => ?_, S.sub q3 fun b hb => ⟨hb.1, hb.2.1⟩⟩
    have hi := (List.getElem?_eq_some_iff.1 hu).1
    rw [World.ownsRow.cellAt h1' _ (by omega)]
    exact q1 i u hu
theorem smallB_bulk {b : List dPair} {j : Nat} {x : dPair} (h : SmallB b) (hx : b[j]? = some x) : shPair.bulk x ≤ 1048576 := by
  rw [shPair_bulk, bulk_ints, bulk_ints]
  have := h j x hx
  omega
theorem smallM_bulk {m : List dOp} (h : SmallM m) (hl : m.length ≤ 9) : shModel.bulk m ≤ 1048576 := by
  have h1 := h.sum
  show (Shape.list shOp).bulk m ≤ 1048576
  have : (Shape.list shOp).bulk m = m.length + Shape.sum shOp.bulk m := rfl
  rw [this]
  have : m.length * 37 ≤ 9 * 37 := Nat.mul_le_mul_right _ hl
  omega
theorem setG_other {w : World} {g b : Nat} (x y z : Value) (h : b ≠ g) : (((w.setCell ⟨g, 0, none⟩ x).setCell ⟨g, 1, none⟩ y).setCell ⟨g, 2, none⟩ z).heap[b]? = w.heap[b]? :=
  (heap_setCell_other _ _ _ _ h).trans ((heap_setCell_other _ _ _ _ h).trans (heap_setCell_other _ _ _ _ h))
theorem setG_below {B g : Nat} {w w' : World} (h : Below B w w') (hg : B ≤ g) (x y z : Value) : Below B w (((w'.setCell ⟨g, 0, none⟩ x).setCell ⟨g, 1, none⟩ y).setCell ⟨g, 2, none⟩ z) :=
  ((h.setCell (p := ⟨g, 0, none⟩) hg x).setCell (p := ⟨g, 1, none⟩) hg y).setCell (p := ⟨g, 2, none⟩) hg z
theorem set3_size' {w : World} {g g' : Nat} (x y z x' y' z' : Value) : ((((((w.setCell ⟨g, 0, none⟩ x).setCell ⟨g, 1, none⟩ y).setCell ⟨g, 2, none⟩ z).setCell ⟨g', 0, none⟩ x').setCell ⟨g', 1, none⟩ y').setCell ⟨g', 2, none⟩ z').heap.size = w.heap.size := by simp
/-- Two gradients were drawn. -/
def DrewGG (w : World) (e : Ending) (w' : World) : Prop := ∃ cs1 cs2 g1 g2, e = .returned (.tuple #[.agg (cs1 : List Value).toArray, .agg (cs2 : List Value).toArray]) ∧ (shGrads.bulk g1 ≤ 1048576 ∧ shGrads.bulk g2 ≤ 1048576) ∧ shGrads.reads (Under w'.heap.size) w' cs1 g1 ∧ shGrads.reads (Under w'.heap.size) w' cs2 g2 ∧ Below w.heap.size w w'
set_option maxRecDepth 100000 in
set_option maxHeartbeats 1600000 in
theorem drawAddGrads_e (w : World) (a : Option Addr) (cap : Nat) (bs : List UInt8) (hc : CodeIn w.heap.size w a bs) :
    Calls Tryz.prog 15 #[.slice a bs.length cap] w (DrewGG w) := by
  have hal : Below w.heap.size w ((w.alloc (.cells #[.slice none 0 0, .int .i64 0, .bool false] 32 (0, 0))).alloc (.cells #[.slice none 0 0, .int .i64 0, .bool false] 32 (0, 0))) := ((Below.refl _ _).alloc (Nat.le_refl _) _).alloc (by simp) _
  have HC := Lib.hid ((hc.below hal).le hal.size)
  have hb1 := heap_alloc_new (w.alloc (.cells #[.slice none 0 0, .int .i64 0, .bool false] 32 (0, 0))) (.cells #[.slice none 0 0, .int .i64 0, .bool false] 32 (0, 0))
  rw [size_one'] at hb1
  have hb0 := (Below.heap_alloc (w.alloc (.cells #[.slice none 0 0, .int .i64 0, .bool false] 32 (0, 0))) (.cells #[.slice none 0 0, .int .i64 0, .bool false] 32 (0, 0)) w.heap.size (by simp)).trans (heap_alloc_new w (.cells #[.slice none 0 0, .int .i64 0, .bool false] 32 (0, 0)))
  have hs0 : ((w.alloc (.cells #[.slice none 0 0, .int .i64 0, .bool false] 32 (0, 0))).alloc (.cells #[.slice none 0 0, .int .i64 0, .bool false] 32 (0, 0))).heap.size = w.heap.size + 2 := by simp
  have HA := Lib.hid hal
  have HB0 := Lib.hid hb0
  have HB1 := Lib.hid hb1
  clear hc hal hb0 hb1
  go_enter Tryz.func15, Tryz.ntmps15
  go_wp2_with fail
  generalize (w.alloc (.cells #[.slice none 0 0, .int .i64 0, .bool false] 32 (0, 0))).alloc (.cells #[.slice none 0 0, .int .i64 0, .bool false] 32 (0, 0)) = wa at HC HA HB0 HB1 hs0 ⊢
  refine (l1New_e _ a cap bs HC.out).mono ?_
  rintro e w1 ⟨rfl, hcu, hg1⟩
  have hs1 := hg1.size
  rw [hs0] at hcu
  have hlt := hcu.lt
  have R0 := Lib.hid ((hg1.block w.heap.size (by omega) (fun e => by cases e)).trans HB0.out)
  have R1 := Lib.hid ((hg1.block (w.heap.size + 1) (by omega) (fun e => by cases e)).trans HB1.out)
  have HT1 := Lib.hid (HA.out.trans (((Below.refl wa.heap.size wa).grown hg1 (Nat.le_refl _) (fun k h => by cases h)).mono (by omega : w.heap.size ≤ wa.heap.size)))
  clear hg1 HA HB0 HB1 HC
  go_wp2_with fail
  refine (l6Model_e _ _ _ hcu).mono ?_
  rintro e w2 ⟨av, n, cv, m, rfl, ⟨⟨n1, n6⟩, hn, hcv1, hcv2, hsm⟩, hli, ht2⟩
  have hs2 := ht2.size
  have hbm := smallM_bulk hsm (by omega)
  obtain ⟨a', c', e', -, -, hla⟩ := hli.listFrom
  simp only [Value.slice.injEq] at e'
  obtain ⟨rfl, -, rfl⟩ := e'
  rw [hn] at hla
  have R02 := Lib.hid ((ht2.block (by omega) (by omega)).trans R0.out)
  have R12 := Lib.hid ((ht2.block (by omega) (by omega)).trans R1.out)
  have HT2 := Lib.hid (HT1.out.trans (ht2.below (by omega) (by omega)))
  have M2 : Hid (ModIn w2.heap.size (w.heap.size + 2) w2 av n m) := Lib.hid (ListAt.sub hla fun b hb => ⟨hb.2, by omega⟩)
  have C2 := Lib.hid ht2.cu
  clear R0 R1 HT1 hli hla ht2 hsm
  go_upto_region 3 with fail
  have hal : Below w2.heap.size w2 (w2.alloc (.cells #[.slice av n cv] 26 (0, 0))) := (Below.refl _ _).alloc (Nat.le_refl _) _
  have hbn := heap_alloc_new w2 (.cells #[.slice av n cv] 26 (0, 0))
  have hbs : (w2.alloc (.cells #[.slice av n cv] 26 (0, 0))).heap.size = w2.heap.size + 1 := by simp
  have R03 := Lib.hid ((hal.block _ (by omega)).trans R02.out)
  have R13 := Lib.hid ((hal.block _ (by omega)).trans R12.out)
  have HT3 := Lib.hid (HT2.out.trans (hal.mono (by omega)))
  have M3 := Lib.hid (M2.out.below hal (Nat.le_refl _))
  have C3 := Lib.hid (C2.out.below hal)
  clear R02 R12 HT2 M2 C2 hal
  generalize w2.alloc (.cells #[.slice av n cv] 26 (0, 0)) = w3 at hbn hbs R03 R13 HT3 M3 C3 ⊢
  have yb := box1 hbn
  go_wp2_with fail
  refine (l6Batch_e _ w3 _ C3.out av n cv m (ListAt.sub M3.out fun b hb' => ⟨by have := hb'.1; omega, hb'.2⟩) hcv1 hcv2 hbm).mono ?_
  rintro e w4 ⟨ab, k, cb, b, rfl, ⟨⟨k1, k4⟩, hk, -, -, hsb⟩, hlb, ht4⟩
  have hs4 := ht4.size
  obtain ⟨p, rfl⟩ : ∃ p, k = p + 1 := ⟨k - 1, by omega⟩
  obtain ⟨gb, x0, es0, rfl, hg1, hg2, hx0, hl0, hr0, hd0⟩ := hlb.nth (j := 0) (by omega)
  obtain ⟨gb', x1, es1, e', -, -, hx1, hl1, hr1, hd1⟩ := hlb.nth (j := p) (by omega)
  cases e'
  obtain ⟨u0, v0, rfl⟩ : ∃ ea eb, es0 = [ea, eb] := by
    match es0, hl0 with
    | [ea, eb], _ => exact ⟨ea, eb, rfl⟩
  obtain ⟨u1, v1, rfl⟩ : ∃ ea eb, es1 = [ea, eb] := by
    match es1, hl1 with
    | [ea, eb], _ => exact ⟨ea, eb, rfl⟩
  have y0 : w4.cell? ⟨gb, 0, none⟩ = some u0 := hr0 0 _ rfl
  have y1 : w4.cell? ⟨gb, 1, none⟩ = some v0 := hr0 1 _ rfl
  have z0 : w4.cell? ⟨gb, p * 2, none⟩ = some u1 := hr1 0 _ rfl
  have z1 : w4.cell? ⟨gb, p * 2 + 1, none⟩ = some v1 := hr1 1 _ rfl
  have yb4 := box1 ((ht4.block (by omega) (by omega)).trans hbn)
  have M4 := Lib.hid (M3.out.turned ht4 (by omega))
  have R04 := Lib.hid ((ht4.block (by omega) (by omega)).trans R03.out)
  have R14 := Lib.hid ((ht4.block (by omega) (by omega)).trans R13.out)
  have HT4 := Lib.hid (HT3.out.trans (ht4.below (by omega) (by omega)))
  have CM : Hid (∀ (w' : World), Below w4.heap.size w4 w' → Calls Tryz.prog 37 #[.agg #[.slice av n cv], .agg #[u0, v0]] w' fun e w'' => ∃ a0 n0 c0, e = .returned (.agg #[.slice a0 n0 c0, .int .i64 (microG m x0).2.1, .bool (microG m x0).2.2]) ∧ shGrads.reads (From w'.heap.size w''.heap.size) w'' [.slice a0 n0 c0, .int .i64 (microG m x0).2.1, .bool (microG m x0).2.2] (microG m x0) ∧ Below w'.heap.size w' w'') := Lib.hid fun w' hb => by
    have hsz := hb.size
    have hmr := (M4.out.below hb (by omega)).reads hcv1 hcv2 (by omega)
    have hpr : shPair.reads (Under w'.heap.size) w' [u0, v0] x0 := shPair.sub (shPair.keep hd0 fun b hb' => hb.block b hb'.2) fun b hb' => Nat.lt_of_lt_of_le hb'.2 hsz
    refine (specMicroGrads_o w' [.slice av n cv] m hmr hbm [u0, v0] x0 hpr (smallB_bulk hsb hx0)).mono ?_
    rintro e w'' ⟨es', rfl, hrd, hbl⟩
    have hrd' := hrd
    obtain ⟨a0, n0, c0, rfl, -⟩ := shGrads_reads.1 hrd
    exact ⟨a0, n0, c0, rfl, hrd', hbl⟩
  have CN : Hid (∀ (w' : World), Below w4.heap.size w4 w' → Calls Tryz.prog 37 #[.agg #[.slice av n cv], .agg #[u1, v1]] w' fun e w'' => ∃ a0 n0 c0, e = .returned (.agg #[.slice a0 n0 c0, .int .i64 (microG m x1).2.1, .bool (microG m x1).2.2]) ∧ shGrads.reads (From w'.heap.size w''.heap.size) w'' [.slice a0 n0 c0, .int .i64 (microG m x1).2.1, .bool (microG m x1).2.2] (microG m x1) ∧ Below w'.heap.size w' w'') := Lib.hid fun w' hb => by
    have hsz := hb.size
    have hmr := (M4.out.below hb (by omega)).reads hcv1 hcv2 (by omega)
    have hpr : shPair.reads (Under w'.heap.size) w' [u1, v1] x1 := shPair.sub (shPair.keep hd1 fun b hb' => hb.block b hb'.2) fun b hb' => Nat.lt_of_lt_of_le hb'.2 hsz
    refine (specMicroGrads_o w' [.slice av n cv] m hmr hbm [u1, v1] x1 hpr (smallB_bulk hsb hx1)).mono ?_
    rintro e w'' ⟨es', rfl, hrd, hbl⟩
    have hrd' := hrd
    obtain ⟨a0, n0, c0, rfl, -⟩ := shGrads_reads.1 hrd
    exact ⟨a0, n0, c0, rfl, hrd', hbl⟩
  have KEEP : Hid (∀ w', Below w4.heap.size w4 w' → w'.cell? ⟨w2.heap.size, 0, none⟩ = some (.slice av n cv) ∧ w'.cell? ⟨gb, 0, none⟩ = some u0 ∧ w'.cell? ⟨gb, 1, none⟩ = some v0 ∧ w'.cell? ⟨gb, p * 2, none⟩ = some u1 ∧ w'.cell? ⟨gb, p * 2 + 1, none⟩ = some v1) := Lib.hid fun w' hb => by
    have hg : w'.heap[gb]? = w4.heap[gb]? := hb.block gb hg2
    have hm : w'.heap[w2.heap.size]? = w4.heap[w2.heap.size]? := hb.block _ (by omega)
    exact ⟨(World.cell?_of_block hm).trans yb4, (World.cell?_of_block hg).trans y0, (World.cell?_of_block hg).trans y1, (World.cell?_of_block hg).trans z0, (World.cell?_of_block hg).trans z1⟩
  have hdr : Below w4.heap.size w4 w4.drew := (Below.refl _ _).drew
  have HBW := Lib.hid hdr
  have hwp : IntKind.i64.wrap (p : Int) = (p : Int) := small_wrap (by omega)
  have hpn : p < p + 1 := Nat.lt_succ_self p
  have hpp : 0 < p + 1 := by omega
  have hpz : (0 : Int) ≤ (p : Int) := by omega
  have hpj : (p : Int) < (p : Int) + 1 := by omega
  have hpi : ((p + 1 : Nat) : Int) - 1 = (p : Int) := by omega
  have ne1 : ¬ w2.heap.size = w.heap.size := by omega
  have ne2 : ¬ w2.heap.size = w.heap.size + 1 := by omega
  have ne3 : ¬ gb = w.heap.size := by omega
  have ne4 : ¬ gb = w.heap.size + 1 := by omega
  have ne5 : ¬ w.heap.size = w2.heap.size := by omega
  have ne6 : ¬ w.heap.size + 1 = w2.heap.size := by omega
  have ne7 : ¬ w.heap.size = gb := by omega
  have ne8 : ¬ w.heap.size + 1 = gb := by omega
  have HSD : Hid (w4.heap.size ≤ w4.drew.heap.size) := Lib.hid hdr.size
  clear hdr hr0 hr1 hd0 hd1 hx0 hx1 hl0 hl1 ht4 hlb hsb yb hbn R03 R13 HT3 M3 C3 hk
  go_upto_region 4 with fail
  go_region_held3 (fun w' => w'.cell? ⟨w2.heap.size, 0, none⟩ = some (.slice av n cv) ∧ w'.cell? ⟨gb, 0, none⟩ = some u0 ∧ w'.cell? ⟨gb, 1, none⟩ = some v0 ∧ w'.cell? ⟨gb, p * 2, none⟩ = some u1 ∧ w'.cell? ⟨gb, p * 2 + 1, none⟩ = some v1)
    (first | go_keep | (go_split_ands; refine ⟨?_, ?_, ?_, ?_, ?_⟩ <;> with_reducible assumption))
    (first
      | (go_at_call 37; (with_reducible refine (CM.out _ HBW.out).mono ?_); rintro e w5 ⟨a5, n5, c5, rfl, hr5, hb5⟩; have hs5 := hb5.size; have HG5 := Lib.hid hr5; have HBW5 := Lib.hid (HBW.out.trans (hb5.mono HBW.out.size)); obtain ⟨s1, s2, s3, s4, s5⟩ := KEEP.out _ HBW5.out; clear hb5 hr5)
      | (go_at_call 37; (with_reducible refine (CN.out _ HBW5.out).mono ?_); rintro e w6 ⟨a6, n6', c6, rfl, hr6, hb6⟩; have hs6 := hb6.size; have HG6 := Lib.hid hr6; have HB6 := Lib.hid hb6; have HBW6 := Lib.hid (HBW5.out.trans (hb6.mono HBW5.out.size)); obtain ⟨t1, t2, t3, t4, t5⟩ := KEEP.out _ HBW6.out; have R06 := Lib.hid ((HBW6.out.block w.heap.size (by omega)).trans R04.out); have R16 := Lib.hid ((HBW6.out.block (w.heap.size + 1) (by omega)).trans R14.out); obtain ⟨⟨p0, p1, p2⟩, q0, q1, q2⟩ := cellsG R06.out; obtain ⟨⟨p3, p4, p5⟩, q3, q4, q5⟩ := cellsG R16.out; clear hb6 hr6))
  have hsd := HSD.out
  clear s1 s2 s3 s4 s5 t1 t2 t3 t4 t5 p0 p1 p2 p3 p4 p5 q0 q1 q2 q3 q4 q5 y0 y1 z0 z1 yb4
  go_wp2_with fail
  have hsz : ((((((w6.setCell ⟨w.heap.size, 0, none⟩ (.slice a5 n5 c5)).setCell ⟨w.heap.size, 1, none⟩ (.int .i64 (microG m x0).2.1)).setCell ⟨w.heap.size, 2, none⟩ (.bool (microG m x0).2.2)).setCell ⟨w.heap.size + 1, 0, none⟩ (.slice a6 n6' c6)).setCell ⟨w.heap.size + 1, 1, none⟩ (.int .i64 (microG m x1).2.1)).setCell ⟨w.heap.size + 1, 2, none⟩ (.bool (microG m x1).2.2)).heap.size = w6.heap.size := set3_size' _ _ _ _ _ _
  have hot : ∀ b, b ≠ w.heap.size → b ≠ w.heap.size + 1 → ((((((w6.setCell ⟨w.heap.size, 0, none⟩ (.slice a5 n5 c5)).setCell ⟨w.heap.size, 1, none⟩ (.int .i64 (microG m x0).2.1)).setCell ⟨w.heap.size, 2, none⟩ (.bool (microG m x0).2.2)).setCell ⟨w.heap.size + 1, 0, none⟩ (.slice a6 n6' c6)).setCell ⟨w.heap.size + 1, 1, none⟩ (.int .i64 (microG m x1).2.1)).setCell ⟨w.heap.size + 1, 2, none⟩ (.bool (microG m x1).2.2)).heap[b]? = w6.heap[b]? := fun b h1 h2 => (setG_other _ _ _ h2).trans (setG_other _ _ _ h1)
  have hbe := setG_below (setG_below (HT4.out.trans (HBW6.out.mono (by omega : w.heap.size ≤ w4.heap.size))) (Nat.le_refl _) (.slice a5 n5 c5) (.int .i64 (microG m x0).2.1) (.bool (microG m x0).2.2)) (Nat.le_succ _) (.slice a6 n6' c6) (.int .i64 (microG m x1).2.1) (.bool (microG m x1).2.2)
  have e0 := (setG_other (g := w.heap.size + 1) (.slice a6 n6' c6) (.int .i64 (microG m x1).2.1) (.bool (microG m x1).2.2) (Nat.ne_of_lt (Nat.lt_succ_self w.heap.size))).trans (store3 R06.out (.slice a5 n5 c5) (.int .i64 (microG m x0).2.1) (.bool (microG m x0).2.2))
  have e1 := store3 ((setG_other (g := w.heap.size) (.slice a5 n5 c5) (.int .i64 (microG m x0).2.1) (.bool (microG m x0).2.2) (Nat.succ_ne_self w.heap.size)).trans R16.out) (.slice a6 n6' c6) (.int .i64 (microG m x1).2.1) (.bool (microG m x1).2.2)
  refine bodyPost_ret (results_two rfl _ _ w.heap.size (w.heap.size + 1) 32 32 #[.slice a5 n5 c5, .int .i64 (microG m x0).2.1, .bool (microG m x0).2.2] #[.slice a6 n6' c6, .int .i64 (microG m x1).2.1, .bool (microG m x1).2.2] (0, 0) (0, 0) _ _ rfl rfl e0 e1 Tryz.underlying32 rfl (by kernel_rfl) Tryz.underlying32 rfl (by kernel_rfl)) rfl ?_
  refine ⟨[.slice a5 n5 c5, .int .i64 (microG m x0).2.1, .bool (microG m x0).2.2], [.slice a6 n6' c6, .int .i64 (microG m x1).2.1, .bool (microG m x1).2.2], microG m x0, microG m x1, rfl, ⟨micro_small _ _, micro_small _ _⟩, ?_, ?_, hbe⟩
  · refine shGrads.sub (shGrads.keep HG5.out fun b hb => (hot b (by have := hb.1; omega) (by have := hb.1; omega)).trans (HB6.out.block b hb.2)) fun b hb => ?_
    show b < _
    rw [hsz]
    have := hb.2
    omega
  · refine shGrads.sub (shGrads.keep HG6.out fun b hb => hot b (by have := hb.1; omega) (by have := hb.1; omega)) fun b hb => ?_
    show b < _
    rw [hsz]
    exact hb.2
end Go.Proofs.YtkmcfbopilieeaaGreatDoor

end
