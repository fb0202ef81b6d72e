/-
  Models, drawn and spoilt.
-/
import Derived.Test.YtkflinobmagiiaaJoin27
import Derived.Deep.RegionHeld3
namespace Go.Proofs.Ytkflinobmagiiaa
open Go.RowKit Go.Sort
set_option linter.unusedVariables false
set_option linter.unusedSimpArgs false

/-- A list whose elements lead to blocks of one set, that no longer changes; the list's own block lies elsewhere. -/
def ListJ {α : Type} (S : Shape α) (T : TypeId) (lo : Nat) (J : Nat → Prop) (w : World) (v : Value) (xs : List α) : Prop :=
  ∃ us, w.ownsRow lo T S.size v xs.length us ∧ (∀ b, J b → lo ≤ b ∧ b < w.heap.size ∧ v.ownBlock ≠ some b) ∧ ∀ j x, xs[j]? = some x → ∃ es, (∀ i u, es[i]? = some u → us[j * S.size + i]? = some u) ∧ es.length = S.size ∧ S.reads J w es x
section
variable {α : Type} {S : Shape α} {T : TypeId} {lo : Nat} {J : Nat → Prop} {w w' : World} {v v' : Value} {xs : List α}
theorem ListQ.toJ {hi : Nat} (h : ListQ S T lo hi w v xs) : ListJ S T lo (fun b => lo ≤ b ∧ b < hi ∧ v.ownBlock ≠ some b) w v xs := by
  obtain ⟨us, h1, h2, h3⟩ := h.all
  exact ⟨us, h1, fun b hb => ⟨hb.1, Nat.lt_of_lt_of_le hb.2.1 h.top, hb.2.2⟩, h3⟩
theorem ListJ.toQ (h : ListJ S T lo J w v xs) : ListQ S T lo w.heap.size w v xs := by
  obtain ⟨us, h1, h2, h3⟩ := h
  refine ⟨Nat.le_refl _, us, h1, fun g hg => (World.ownsRow.lt h1 g hg).2, fun j x hx => ?_⟩
  obtain ⟨es, q1, q2, q3⟩ := h3 j x hx
  exact ⟨es, q1, q2, S.sub q3 h2⟩
theorem ListJ.keep (h : ListJ S T lo J w v xs) (hs : w.heap.size ≤ w'.heap.size) (hg : ∀ g, v.ownBlock = some g → w'.heap[g]? = w.heap[g]?) (hJ : ∀ b, J b → w'.heap[b]? = w.heap[b]?) : ListJ S T lo J w' v xs := by
  obtain ⟨us, h1, h2, h3⟩ := h
  refine ⟨us, ⟨h1.1, h1.2.imp id ?_⟩, fun b hb => ⟨(h2 b hb).1, Nat.lt_of_lt_of_le (h2 b hb).2.1 hs, (h2 b hb).2.2⟩, fun j x hx => ?_⟩
  · rintro ⟨g, cap, cur, rfl, e1, e2, e3⟩
    exact ⟨g, cap, cur, rfl, e1, (hg g rfl).trans e2, e3⟩
  · obtain ⟨es, q1, q2, q3⟩ := h3 j x hx
    exact ⟨es, q1, q2, S.keep q3 hJ⟩
theorem ListJ.turned {B C : Nat} (h : ListJ S T lo J w v xs) (ht : Turned B w w' C) (hC : C < lo) : ListJ S T lo J w' v xs := by
  have h' := h
  obtain ⟨us, h1, h2, -⟩ := h'
  refine h.keep ht.size (fun g hg => ?_) fun b hb => ht.block (h2 b hb).2.1 (by have := (h2 b hb).1; omega)
  have := World.ownsRow.lt h1 g hg
  exact ht.block this.2 (by omega)
theorem ListJ.below {B : Nat} (h : ListJ S T lo J w v xs) (hb : Below B w w') (hB : w.heap.size ≤ B) : ListJ S T lo J w' v xs := by
  have h' := h
  obtain ⟨us, h1, h2, -⟩ := h'
  refine h.keep hb.size (fun g hg => hb.block g ?_) fun b hb' => hb.block b (Nat.lt_of_lt_of_le (h2 b hb').2.1 hB)
  exact Nat.lt_of_lt_of_le (World.ownsRow.lt h1 g hg).2 hB
theorem ListJ.stored (h : ListJ S T lo J w v xs) (g i : Nat) (u : Value) (hg : v.ownBlock ≠ some g) (hJ : ¬ J g) : ListJ S T lo J (w.setCell ⟨g, i, none⟩ u) v xs :=
  h.keep (by simp) (fun k hk => heap_setCell_other _ _ _ _ (by show k ≠ g; intro e; exact hg (by rw [hk, e]))) fun b hb => heap_setCell_other _ _ _ _ (by show b ≠ g; intro e; exact hJ (e ▸ hb))
theorem ListJ.form (h : ListJ S T lo J w v xs) : ∃ a cap, v = .slice a xs.length cap ∧ xs.length ≤ cap ∧ cap ≤ 9223372036854775807 := h.toQ.form
theorem ListJ.put {es : List Value} {x : α} {o : Obj} {us : List Value} (h1 : w.ownsRow lo T S.size v xs.length us) (h2 : ∀ b, J b → lo ≤ b ∧ b < w.heap.size ∧ v.ownBlock ≠ some b)
    (h3 : ∀ j x, xs[j]? = some x → ∃ es, (∀ i u, es[i]? = some u → us[j * S.size + i]? = some u) ∧ es.length = S.size ∧ S.reads J w es x) (hs : S.reads J w es x) (hl : es.length = S.size)
    (hown : w'.ownsRow lo T S.size v' (xs.length + 1) (us ++ es)) (hg : (w.alloc o).grownBy w' v.ownBlock) (hv : v'.ownBlock = v.ownBlock ∨ v'.ownBlock = some (w.alloc o).heap.size) : ListJ S T lo J w' v' (xs ++ [x]) := by
  have hsz : w.heap.size < (w.alloc o).heap.size := by simp
  have hus : us.length = xs.length * S.size := h1.1
  have hk : ∀ b, J b → w'.heap[b]? = w.heap[b]? := fun b hb => (hg.block b (Nat.lt_trans (h2 b hb).2.1 hsz) fun e => (h2 b hb).2.2 e.symm).trans (heap_alloc_old w _ (h2 b hb).2.1)
  refine ⟨us ++ es, by simpa using hown, fun b hb => ⟨(h2 b hb).1, Nat.lt_of_lt_of_le (h2 b hb).2.1 (Nat.le_trans (Nat.le_of_lt hsz) hg.size), ?_⟩, fun j y hy => ?_⟩
  · rcases hv with e | e
    · rw [e]; exact (h2 b hb).2.2
    · rw [e]
      intro e'
      have e2 : (w.alloc o).heap.size = b := by simpa using e'
      have := (h2 b hb).2.1
      omega
  · by_cases hj : j < xs.length
    · rw [List.getElem?_append_left hj] at hy
      obtain ⟨es', q1, q2, q3⟩ := h3 j y hy
      refine ⟨es', fun i u hu => ?_, q2, S.keep q3 hk⟩
      have := q1 i u hu
      rw [List.getElem?_append_left (List.getElem?_eq_some_iff.1 this).1]
      exact this
    · rw [List.getElem?_append_right (by omega)] at hy
      have hj0 : j - xs.length = 0 := by
        cases e : j - xs.length with
        | zero => rfl
        | succ i => rw [e] at hy; simp at hy
      obtain rfl : j = xs.length := by omega
      simp at hy
      subst hy
      refine ⟨es, fun i u hu => ?_, hl, S.keep hs hk⟩
      rw [← hus, List.getElem?_append_right (by omega), Nat.add_sub_cancel_left]
      exact hu
theorem ListJ.cells (h : ListJ S T lo J w v xs) (j : Nat) (x : α) (hx : xs[j]? = some x) (hS : 0 < S.size) : ∃ g cap es, v = .slice (some ⟨g, 0, none⟩) xs.length cap ∧ es.length = S.size ∧ w.rangeAt g (j * S.size) es ∧ S.reads J w es x ∧ lo ≤ g ∧ g < w.heap.size ∧ ∀ i, w.frozen? ⟨g, i, none⟩ = false := by
  obtain ⟨us, h1, h2, h3⟩ := h
  have hj := (List.getElem?_eq_some_iff.1 hx).1
  obtain ⟨es, q1, q2, q3⟩ := h3 j x hx
  have h1' := h1
  rcases h1.2 with ⟨-, hn⟩ | ⟨g, cap, cur, rfl, e1, e2, e3, e4, -⟩
  · omega
  · refine ⟨g, cap, es, rfl, q2, fun i u hu => ?_, q3, e1, (Array.getElem?_eq_some_iff.1 e2).1, fun i => World.ownsRow.frozenAt h1' i⟩
    have hi := (List.getElem?_eq_some_iff.1 hu).1
    have hp := place_le (s := S.size) hj
    rw [World.ownsRow.cellAt h1' _ (by omega)]
    exact q1 i u hu
end
theorem ListQ.keep {α : Type} {S : Shape α} {T : TypeId} {lo hi : Nat} {w w' : World} {v : Value} {xs : List α} (h : ListQ S T lo hi w v xs) (hs : w.heap.size ≤ w'.heap.size) (hk : ∀ b, lo ≤ b → b < hi → w'.heap[b]? = w.heap[b]?) : ListQ S T lo hi w' v xs := by
  obtain ⟨us, h1, h2, h3⟩ := h.all
  refine ⟨Nat.le_trans h.top hs, us, ⟨h1.1, h1.2.imp id ?_⟩, h2, fun j x hx => ?_⟩
  · rintro ⟨k, cap, cur, rfl, e1, e2, e3⟩
    exact ⟨k, cap, cur, rfl, e1, (hk k e1 (h2 k rfl)).trans e2, e3⟩
  · obtain ⟨es, q1, q2, q3⟩ := h3 j x hx
    exact ⟨es, q1, q2, S.keep q3 fun b hb => hk b hb.1 hb.2.1⟩
theorem cells4r {w : World} {g o : Nat} {es : List Value} (hr : w.rangeAt g o es) (hl : es.length = 4) : ∃ a b c d, es = [a, b, c, d] ∧ w.cell? ⟨g, o, none⟩ = some a ∧ w.cell? ⟨g, o + 1, none⟩ = some b ∧ w.cell? ⟨g, o + 2, none⟩ = some c ∧ w.cell? ⟨g, o + 3, none⟩ = some d := by
  match es, hl with
  | [a, b, c, d], _ => exact ⟨a, b, c, d, rfl, hr 0 a rfl, hr 1 b rfl, hr 2 c rfl, hr 3 d rfl⟩
theorem wideR {α : Type} {S : Shape α} {T : TypeId} {n hi : Nat} {w' : World} {v : Value} {xs : List α} (h : ListQ S T (n + 1) hi w' v xs) : ListQ S T n w'.heap.size w' v xs :=
  h.wide (Nat.le_succ n) h.top (Nat.le_refl _)
def leftV : Option Value → Nat
  | some (.slice _ n _) => 9 - n
  | _ => 0
def leftM (b : Nat) (w : World) : Nat := leftV (w.cell? ⟨b, 0, none⟩)
theorem leftM_at {b n c : Nat} {w : World} {a : Option Addr} (h : w.cell? ⟨b, 0, none⟩ = some (.slice a n c)) : leftM b w = 9 - n := by
  unfold leftM
  rw [h]
  rfl
theorem wrap_small {p : Nat} (h : p ≤ 9) : IntKind.i64.wrap (p : Int) = (p : Int) := by
  rcases (by omega : p = 0 ∨ p = 1 ∨ p = 2 ∨ p = 3 ∨ p = 4 ∨ p = 5 ∨ p = 6 ∨ p = 7 ∨ p = 8 ∨ p = 9) with rfl | rfl | rfl | rfl | rfl | rfl | rfl | rfl | rfl | rfl <;> decide
theorem ListJ.apart {α : Type} {S : Shape α} {T : TypeId} {lo : Nat} {J : Nat → Prop} {w : World} {g n cap : Nat} {xs : List α} {cs : Array Value} {t : TypeId} {fz : Nat × Nat} (h : ListJ S T lo J w (.slice (some ⟨g, 0, none⟩) n cap) xs) (hb : w.heap[g]? = some (.cells cs t fz)) (ht : t ≠ T) : False := by
  obtain ⟨us, h1, -⟩ := h
  rcases h1.2 with ⟨e, -⟩ | ⟨g', cap', cur, e, e1, e2, -⟩
  · simp at e
  · simp only [Value.slice.injEq, Option.some.injEq, Addr.mk.injEq, and_true] at e
    obtain ⟨rfl, -, -⟩ := e
    rw [hb] at e2
    cases e2
    exact ht rfl
theorem SmallM.set {m : List dOp} {x : dOp} {j : Nat} (h : SmallM m) (hx : x.2.2.2.length ≤ 37) : SmallM (m.set j x) := fun i y hy => by
  by_cases e : j = i
  · subst e
    by_cases hj : j < m.length
    · rw [List.getElem?_set_self hj] at hy
      cases hy
      exact hx
    · rw [List.getElem?_eq_none (by simp; omega)] at hy
      cases hy
  · rw [List.getElem?_set_ne e] at hy
    exact h i y hy
theorem SmallM.take {m : List dOp} {k : Nat} (h : SmallM m) : SmallM (m.take k) := fun i y hy => by
  rw [List.getElem?_take] at hy
  split at hy
  · exact h i y hy
  · cases hy
set_option maxRecDepth 100000 in
set_option maxHeartbeats 1600000 in
theorem l6Any_e (B : Nat) (w : World) (C : Nat) (hc : Cu B w C) :
    Calls Try.prog 61 #[.pointer (some ⟨C, 0, none⟩)] w (DrewMo (fun n => n ≤ 9) B w C) := by
  obtain ⟨j0, hj, hy0, hy1, hy2⟩ := info_parts infoOp1
  have hlt := hc.lt
  have h2 := (Turned.refl hc).alloc (.cells #[.slice none 0 0] 26 (0, 0))
  have hb0 := heap_alloc_new w (.cells #[.slice none 0 0] 26 (0, 0))
  have hs2 : (w.alloc (.cells #[.slice none 0 0] 26 (0, 0))).heap.size = w.heap.size + 1 := by simp
  clear hc
  go_enter Try.func61, Try.ntmps61
  go_wp2_with fail
  generalize w.alloc (.cells #[.slice none 0 0] 26 (0, 0)) = wa at h2 hb0 hs2 ⊢
  refine (l6Model_e B _ C h2.cu).mono ?_
  rintro e w1 ⟨av, n, cv, m, rfl, ⟨⟨n1, n6⟩, hn, hcv1, hcv2, hsm⟩, hli, ht1⟩
  have hs1 := ht1.size
  have T1 := h2.trans ht1
  have B1 := (ht1.block (by omega) (by omega)).trans hb0
  have hbx := (Below.refl w1.heap.size w1).alloc (Nat.le_refl _) (.cells #[.slice av n cv] 26 (0, 0))
  have hbn := heap_alloc_new w1 (.cells #[.slice av n cv] 26 (0, 0))
  have hbs : (w1.alloc (.cells #[.slice av n cv] 26 (0, 0))).heap.size = w1.heap.size + 1 := by simp
  have T2 := T1.alloc (.cells #[.slice av n cv] 26 (0, 0))
  have L2 := hli.below hbx (Nat.le_refl _)
  have B2 := (hbx.block w.heap.size (by omega)).trans B1
  have y0 := box1 hbn
  go_upto_region 2 with fail
  generalize w1.alloc (.cells #[.slice av n cv] 26 (0, 0)) = w2 at T2 L2 B2 hbn hbs y0 ⊢
  have LQ := Lib.hid (L2.wide (lo' := w.heap.size + 1) (hi' := w1.heap.size) (by omega) (Nat.le_refl _) L2.top)
  have T2 := Lib.hid T2
  have B2 := Lib.hid B2
  have X2 := Lib.hid hbn
  clear h2 hb0 hli ht1 T1 B1 hbx hbn L2
  go_wp2_with fail
  refine (l1Below_e B _ C n (by omega) T2.out.cu).mono ?_
  rintro e w3 ⟨k, rfl, ⟨k0, k1⟩, ht3⟩
  have hs3 := ht3.size
  have LQ3 := Lib.hid (LQ.out.turned ht3 (by omega))
  have T3 := Lib.hid (T2.out.trans ht3)
  have B3 := Lib.hid ((ht3.block (by omega) (by omega)).trans B2.out)
  have X3 := Lib.hid ((ht3.block (by omega) (by omega)).trans X2.out)
  obtain ⟨kk, rfl⟩ : ∃ kk : Nat, k = (kk : Int) := ⟨k.toNat, by omega⟩
  have hkk : kk < n := by omega
  clear LQ T2 B2 X2 y0 ht3
  go_wp2_with fail
  refine (l1Below_e B _ C 16 (by omega) T3.out.cu).mono ?_
  rintro e w4 ⟨z, rfl, ⟨z0, z1⟩, ht4⟩
  have hs4 := ht4.size
  have LQ4 := Lib.hid (LQ3.out.turned ht4 (by omega))
  have T4 := Lib.hid (T3.out.trans ht4)
  have B4 := Lib.hid ((ht4.block (by omega) (by omega)).trans B3.out)
  have X4 := Lib.hid ((ht4.block (by omega) (by omega)).trans X3.out)
  clear LQ3 T3 B3 X3 ht4
  obtain ⟨x0, hx0⟩ : ∃ x, m[kk]? = some x := ⟨_, List.getElem?_eq_getElem (by omega)⟩
  obtain ⟨g, cap', hv, hg1, hg2⟩ : ∃ g cap', Value.slice av n cv = .slice (some ⟨g, 0, none⟩) m.length cap' ∧ w.heap.size + 1 ≤ g ∧ g < w1.heap.size := by
    obtain ⟨us, q1, q2, -⟩ := LQ4.out.all
    obtain ⟨g, cap', es, hv, -, -, -, hg1, -⟩ := LQ4.out.toJ.cells kk x0 hx0 (by decide)
    exact ⟨g, cap', hv, hg1, q2 g (by rw [hv]; rfl)⟩
  obtain rfl : av = some ⟨g, 0, none⟩ := by cases hv; rfl
  clear hv hx0 x0
  by_cases e0 : z = 0
  · subst e0
    have y0 := box1 X4.out
    have hdr : Below w4.heap.size w4 w4.drew := (Below.refl _ _).drew
    have CD := Lib.hid (T4.out.cu.below hdr)
    have TD := Lib.hid (T4.out.then hdr)
    have XD : Hid (w4.drew.heap[w1.heap.size]? = some (.cells #[.slice (some ⟨g, 0, none⟩) n cv] 26 (0, 0))) := Lib.hid X4.out
    have RD : Hid (w4.drew.heap[w.heap.size]? = some (.cells #[.slice none 0 0] 26 (0, 0))) := Lib.hid B4.out
    have LD := Lib.hid (LQ4.out.below hdr (by have := hdr.size; omega))
    have hsd : w4.heap.size ≤ w4.drew.heap.size := hdr.size
    clear hdr
    go_wp2_with fail
    go_region_law (go_simp; go_at_call 89; (refine (l5Any_e B _ C CD.out).mono ?_); rintro e w6 ⟨K, i, o, v, ps, rfl, ⟨-, -, -, hpl⟩, hrow, ht6⟩; have hs6 := ht6.size; have hbx := (ht6.block (by omega) (by omega)).trans XD.out; have hrb := (ht6.block (by omega) (by omega)).trans RD.out; have hl6 := LD.out.turned ht6 (by omega); have T6 := Lib.hid (TD.out.trans ht6); have y6 := box1 hbx; have z6 := box1 hrb; have zf := frozen_of_row w6 w.heap.size 0 _ _ hrb; have yf := frozen_of_row w6 w1.heap.size 0 _ _ hbx; obtain ⟨gq, cq, eq, hvq, hlq, hrq, -, -, -, hfq⟩ := hl6.toJ.cells kk (m[kk]'(by omega)) (List.getElem?_eq_getElem _) (by decide); obtain rfl : g = gq := (by cases hvq; rfl); have hrq4 : w6.rangeAt g (kk * 4) eq := hrq; obtain ⟨qa, qb, qc, qd, rfl, c0, c1, c2, c3⟩ := cells4r hrq4 hlq; obtain ⟨ap, cp, rfl, -⟩ := hrow.form; have f0 := hfq (kk * 4); have f1 := hfq (kk * 4 + 1); have f2 := hfq (kk * 4 + 2); have f3 := hfq (kk * 4 + 3); have HL6 := Lib.hid hl6; have HR6 := Lib.hid hrow; have HX6 := Lib.hid hbx; have HB6 := Lib.hid hrb; clear hl6 hrow hbx hrb hvq hlq hrq hrq4 hfq ht6)
    all_goals
      have hset : ListQ shOp 72 (w.heap.size + 1) w6.heap.size (w6.setCells g (kk * 4) [.int .i64 K, .int .i64 i, .int .i64 o, .slice ap ps.length cp]) (.slice (some ⟨g, 0, none⟩) n cv) (m.set kk (K, i, o, ps)) := (ListQ.set (S := shOp) (T := 72) (j := kk) (es := [.int .i64 K, .int .i64 i, .int .i64 o, .slice ap ps.length cp]) (x := (K, i, o, ps)) (HL6.out.wide (lo' := w.heap.size + 1) (hi' := w6.heap.size) (Nat.le_refl _) (by omega) (Nat.le_refl _)) (by omega) hn.symm rfl (by
        have hrd := Row.listAt HR6.out
        obtain ⟨a', n', c', e, g1, g2, g3⟩ := hrd
        simp only [List.cons.injEq, Value.slice.injEq, and_true] at e
        obtain ⟨rfl, rfl, rfl⟩ := e
        exact shOp_reads.2 ⟨ap, _, cp, rfl, g1, g2, g3.sub fun b hb => ⟨by have := hb.1; omega, hb.2, fun e' => by have := hb.1; cases e'; omega⟩⟩)).1
      have ht7 : Turned B w (w6.setCells g (kk * 4) [.int .i64 K, .int .i64 i, .int .i64 o, .slice ap ps.length cp]) C := (((T6.out.setCell hlt ⟨g, kk * 4, none⟩ _ (by show w.heap.size ≤ g; omega)).setCell hlt ⟨g, kk * 4 + 1, none⟩ _ (by show w.heap.size ≤ g; omega)).setCell hlt ⟨g, kk * 4 + 2, none⟩ _ (by show w.heap.size ≤ g; omega)).setCell hlt ⟨g, kk * 4 + 3, none⟩ _ (by show w.heap.size ≤ g; omega)
      have hT := touched_setCells (F := fun b _ => b = g) g [.int .i64 K, .int .i64 i, .int .i64 o, .slice ap ps.length cp] (kk * 4) w6 fun _ _ => rfl
      have hx7 := (hT.block (b := w1.heap.size) fun _ e => by have e' : w1.heap.size = g := e; omega).trans HX6.out
      have hb7 := (hT.block (b := w.heap.size) fun _ e => by have e' : w.heap.size = g := e; omega).trans HB6.out
      have hs7 : w6.heap.size = (w6.setCells g (kk * 4) [.int .i64 K, .int .i64 i, .int .i64 o, .slice ap ps.length cp]).heap.size := by rw [size_setCells]
      refine cast (congrArg (fun x => Exit.inBlock 0 _ Exit.normal _ x) (rfl : w6.setCells g (kk * 4) [.int .i64 K, .int .i64 i, .int .i64 o, .slice ap ps.length cp] = _)) ?_
      clear hT c0 c1 c2 c3 f0 f1 f2 f3 y6 z6 zf yf
      generalize w6.setCells g (kk * 4) [.int .i64 K, .int .i64 i, .int .i64 o, .slice ap ps.length cp] = w7 at hset ht7 hx7 hb7 hs7 ⊢
      have y7 := box1 hx7
      have z7 := box1 hb7
      have zf := frozen_of_row w7 w.heap.size 0 _ _ hb7
      have HB7 := Lib.hid hb7
      clear hb7 hx7
      go_wp2_with fail
      refine bodyPost_ret (results_cell_row rfl _ _ w.heap.size 26 #[.slice (some ⟨g, 0, none⟩) n cv] (0, 0) _ rfl ?_ Try.underlying26 rfl (by kernel_rfl)) rfl ?_
      · exact heap_setCell_same w7 w.heap.size 0 _ _ _ HB7.out
      exact ⟨_, n, cv, m.set kk (K, i, o, ps), rfl, ⟨by omega, by rw [List.length_set]; exact hn, hcv1, hcv2, hsm.set hpl⟩, wideR (hset.stored w.heap.size 0 _ (Nat.lt_succ_self _)), ht7.setCell hlt ⟨w.heap.size, 0, none⟩ _ (Nat.le_refl _)⟩
  · have t0 : (z == 0) = false := by simpa using e0
    have y0 := box1 X4.out
    have y1 := frozen_of_row w4 w1.heap.size 0 _ _ X4.out
    have z0' := box1 B4.out
    have z1' := frozen_of_row w4 w.heap.size 0 _ _ B4.out
    have hne : ¬ w.heap.size = w1.heap.size := by omega
    have hne' : ¬ w1.heap.size = w.heap.size := by omega
    by_cases e1 : z = 1
    · subst e1
      go_wp2_with fail
      have LF := Lib.hid (LQ4.out.take (k := kk) (by omega) (by intro e; cases e))
      refine bodyPost_ret (results_cell_row rfl _ _ w.heap.size 26 #[.slice (some ⟨g, 0, none⟩) kk cv] (0, 0) _ rfl ?_ Try.underlying26 rfl (by kernel_rfl)) rfl ?_
      · exact heap_setCell_same _ w.heap.size 0 _ _ _ ((heap_setCell_other _ _ _ _ (by show w.heap.size ≠ w1.heap.size; omega)).trans B4.out)
      exact ⟨_, kk, cv, m.take kk, rfl, ⟨by omega, by rw [List.length_take]; omega, by omega, hcv2, hsm.take⟩, wideR (LF.out.keep (by simp) fun b h1 h2 => (heap_setCell_other _ _ _ _ (by show b ≠ w.heap.size; omega)).trans (heap_setCell_other _ _ _ _ (by show b ≠ w1.heap.size; omega))), (T4.out.setCell hlt ⟨w1.heap.size, 0, none⟩ _ (by show w.heap.size ≤ w1.heap.size; omega)).setCell hlt ⟨w.heap.size, 0, none⟩ _ (Nat.le_refl _)⟩
    · have t1 : (z == 1) = false := by simpa using e1
      by_cases e2 : z = 2
      · subst e2
        go_wp2_with fail
        clear y0 y1 z0' z1'
        go_loopw [37] (fun _ wr => ∃ (p g' cp : Nat) (m' : List dOp), p ≤ 8 ∧ m'.length = p + 1 ∧ SmallM m' ∧ wr.heap[w1.heap.size]? = some (.cells #[.slice (some ⟨g', 0, none⟩) (p + 1) cp] 26 (0, 0)) ∧ wr.heap[w.heap.size]? = some (.cells #[.slice none 0 0] 26 (0, 0)) ∧ w.heap.size + 1 ≤ g' ∧ ListJ shOp 72 (w.heap.size + 1) (fun b => w.heap.size + 1 ≤ b ∧ b < w1.heap.size ∧ some g ≠ some b) wr (.slice (some ⟨g', 0, none⟩) (p + 1) cp) m' ∧ Turned B w wr C) (fun _ wr => leftM w1.heap.size wr)
        case atStart =>
          obtain ⟨p, rfl⟩ : ∃ p, n = p + 1 := ⟨n - 1, by omega⟩
          exact ⟨p, g, cv, m, by omega, hn, hsm, X4.out, B4.out, hg1, LQ4.out.toJ, T4.out⟩
        case round =>
          obtain ⟨p, g', cp, m', hp8, hm', hsm', hx, hr, hg', hlj, ht⟩ := hrel
          have y0 := box1 hx
          have hdr : Below wr.heap.size wr wr.drew := (Below.refl _ _).drew
          have hsw : w1.heap.size < wr.heap.size := (Array.getElem?_eq_some_iff.1 hx).1
          have CD := Lib.hid (ht.cu.below hdr)
          have TD := Lib.hid (ht.then hdr)
          have XD : Hid (wr.drew.heap[w1.heap.size]? = some (.cells #[.slice (some ⟨g', 0, none⟩) (p + 1) cp] 26 (0, 0))) := Lib.hid hx
          have RD : Hid (wr.drew.heap[w.heap.size]? = some (.cells #[.slice none 0 0] 26 (0, 0))) := Lib.hid hr
          have LD := Lib.hid (hlj.below hdr (Nat.le_refl _))
          have HM0 : Hid (leftM w1.heap.size wr = 9 - (p + 1)) := Lib.hid (leftM_at y0)
          have hsd : wr.heap.size ≤ wr.drew.heap.size := hdr.size
          have HSM := Lib.hid hsm'
          clear hdr hx hr hlj ht hsm'
          go_wp2_with fail
          go_region_law (go_simp; go_at_call 60; (with_reducible refine (l1Below_e B _ C 2 (by omega) CD.out).mono ?_); rintro e w6 ⟨u, rfl, ⟨u0, u1⟩, ht6⟩; have hs6 := ht6.size; have hbx := (ht6.block (by omega) (by omega)).trans XD.out; have hrb := (ht6.block (by omega) (by omega)).trans RD.out; have hl6 := LD.out.turned ht6 (by omega); have T6 := Lib.hid (TD.out.trans ht6); have y6 := box1 hbx; have yf := frozen_of_row w6 w1.heap.size 0 _ _ hbx; have HL6 := Lib.hid hl6; have HX6 := Lib.hid hbx; have HB6 := Lib.hid hrb; clear hl6 hbx hrb ht6)
          all_goals
            have hw8 : IntKind.i64.wrap (8 + u) = 8 + u := by
              rcases (by omega : u = 0 ∨ u = 1) with rfl | rfl <;> decide
            by_cases hgo : ((p + 1 : Nat) : Int) < 8 + u
            · have hgo' : (p : Int) + 1 < 8 + u := by omega
              have hp7 : p ≤ 7 := by omega
              obtain ⟨x, hx⟩ : ∃ x, m'[p]? = some x := ⟨_, List.getElem?_eq_getElem (by omega)⟩
              obtain ⟨gq, cq, eq, hvq, hlq, hrq, hrdq, hgl, hgt, hfq⟩ := HL6.out.cells p x hx (by decide)
              rw [hm'] at hvq
              obtain rfl : g' = gq := by cases hvq; rfl
              have hrq4 : w6.rangeAt g' (p * 4) eq := hrq
              obtain ⟨qa, qb, qc, qd, rfl, c0, c1, c2, c3⟩ := cells4r hrq4 hlq
              obtain ⟨aq, nq, cq', e, -⟩ := shOp_reads.1 hrdq
              simp only [List.cons.injEq, and_true] at e
              obtain ⟨rfl, rfl, rfl, rfl⟩ := e
              have f2 := hfq (p * 4 + 2)
              have hpi : ((p + 1 : Nat) : Int) - 1 = (p : Int) := by omega
              have hwp : IntKind.i64.wrap (p : Int) = (p : Int) := wrap_small (by omega)
              have hpn : p < p + 1 := Nat.lt_succ_self p
              have hpz : (0 : Int) ≤ (p : Int) := by omega
              have hpj : (p : Int) < (p : Int) + 1 := by omega
              have hdr : Below w6.heap.size w6 w6.drew := (Below.refl _ _).drew
              have hl7 := HL6.out.below hdr (Nat.le_refl _)
              have HT7 := Lib.hid (T6.out.then hdr)
              have HX7 : Hid (w6.drew.heap[w1.heap.size]? = some (.cells #[.slice (some ⟨g', 0, none⟩) (p + 1) cp] 26 (0, 0))) := Lib.hid HX6.out
              have HB7 : Hid (w6.drew.heap[w.heap.size]? = some (.cells #[.slice none 0 0] 26 (0, 0))) := Lib.hid HB6.out
              have hs7 : w6.heap.size ≤ w6.drew.heap.size := hdr.size
              obtain ⟨us, h1, h2, h3⟩ := hl7
              clear c0 c1 c3 hvq hlq hrq hrdq hfq hrq4 hdr
              go_wp2_with fail
              have h1' := h1
              rw [hm'] at h1'
              have HRD : Hid ((w6.drew.alloc (.cells #[.int .i64 3, .int .i64 x.2.2.1, .int .i64 x.2.2.1, .slice none 0 0] 72 (0, 0))).ownsRow (w.heap.size + 1) 72 4 (.slice (some ⟨g', 0, none⟩) (p + 1) cp) (p + 1) us) := Lib.hid (World.ownsRow.alloc h1' _)
              have HND : Hid (∀ j u, ([.int .i64 3, .int .i64 x.2.2.1, .int .i64 x.2.2.1, .slice none 0 0] : List Value)[j]? = some u → (w6.drew.alloc (.cells #[.int .i64 3, .int .i64 x.2.2.1, .int .i64 x.2.2.1, .slice none 0 0] 72 (0, 0))).cell? ((⟨w6.drew.heap.size, 0, none⟩ : Addr).add j) = some u) := Lib.hid (World.news_of_block (heap_alloc_new w6.drew (.cells #[.int .i64 3, .int .i64 x.2.2.1, .int .i64 x.2.2.1, .slice none 0 0] 72 (0, 0))))
              have HBS : Hid (w.heap.size + 1 ≤ (w6.drew.alloc (.cells #[.int .i64 3, .int .i64 x.2.2.1, .int .i64 x.2.2.1, .slice none 0 0] 72 (0, 0))).heap.size) := Lib.hid (by rw [size_one']; omega)
              clear h1'
              have Q1 := Lib.hid h1
              have Q2 := Lib.hid h2
              have Q3 := Lib.hid h3
              have c2f : Hid (us[p * 4 + 2]? = some (.int .i64 x.2.2.1)) := Lib.hid (by
                have h1q := h1
                rw [hm'] at h1q
                have := World.ownsRow.cellAt h1q (p * 4 + 2) (by show p * 4 + 2 < (p + 1) * 4; omega)
                rw [← this]
                exact c2)
              clear h1 h2 h3
              have c2 : w6.cell? ⟨g', p * 4 + 2, none⟩ = some (.int .i64 x.2.2.1) := c2
              refine wp_region_K (S := fun w' => w'.cell? ⟨w1.heap.size, 0, none⟩ = some (.slice (some ⟨g', 0, none⟩) (p + 1) cp) ∧ w'.cell? ⟨g', p * 4 + 2, none⟩ = some (.int .i64 x.2.2.1)) (by kernel_rfl) ?_
              have hS0 : w6.drew.cell? ⟨w1.heap.size, 0, none⟩ = some (.slice (some ⟨g', 0, none⟩) (p + 1) cp) ∧ w6.drew.cell? ⟨g', p * 4 + 2, none⟩ = some (.int .i64 x.2.2.1) := ⟨y6, c2⟩
              refine anyK_take (i := 0) (v := ?_) rfl (by kernel_rfl) (by kernel_rfl) (by kernel_rfl) (fun _ _ _ h => h) (Or.inl ⟨by rfl, ?_⟩) hS0 ?_
              rotate_left
              · (intro wS hS; obtain ⟨sA, sB⟩ := hS; go_simp; try with_reducible rfl)
              simp only [Act.put, List.setIfInBounds_toArray, List.set_cons_zero, List.set_cons_succ]
              refine anyK_take (i := 1) (v := ?_) rfl (by kernel_rfl) (by kernel_rfl) (by kernel_rfl) (fun _ _ _ h => h) (Or.inl ⟨by rfl, ?_⟩) hS0 ?_
              rotate_left
              · (intro wS hS; obtain ⟨sA, sB⟩ := hS; go_simp; try with_reducible rfl)
              simp only [Act.put, List.setIfInBounds_toArray, List.set_cons_zero, List.set_cons_succ]
              refine anyK_take (i := 2) (v := ?_) rfl (by kernel_rfl) (by kernel_rfl) (by kernel_rfl) (fun _ _ _ h => h) (Or.inl ⟨by rfl, ?_⟩) hS0 ?_
              rotate_left
              · (intro wS hS; obtain ⟨sA, sB⟩ := hS; go_simp; try with_reducible rfl)
              simp only [Act.put, List.setIfInBounds_toArray, List.set_cons_zero, List.set_cons_succ]
              refine anyK_take (i := 3) (v := ?_) rfl (by kernel_rfl) (by kernel_rfl) (by kernel_rfl) (fun _ _ _ h => h) (Or.inl ⟨by rfl, ?_⟩) hS0 ?_
              rotate_left
              · (intro wS hS; obtain ⟨sA, sB⟩ := hS; go_simp; try with_reducible rfl)
              simp only [Act.put, List.setIfInBounds_toArray, List.set_cons_zero, List.set_cons_succ]
              refine anyK_take (i := 4) (v := ?_) rfl (by kernel_rfl) (by kernel_rfl) (by kernel_rfl) (fun _ _ _ h => h) (Or.inl ⟨by rfl, ?_⟩) hS0 ?_
              rotate_left
              · (intro wS hS; obtain ⟨sA, sB⟩ := hS; go_simp; try with_reducible rfl)
              simp only [Act.put, List.setIfInBounds_toArray, List.set_cons_zero, List.set_cons_succ]
              refine anyK_take (i := 5) (v := ?_) rfl (by kernel_rfl) (by kernel_rfl) (by kernel_rfl) (fun _ _ _ h => h) (Or.inl ⟨by rfl, ?_⟩) hS0 ?_
              rotate_left
              · (intro wS hS; obtain ⟨sA, sB⟩ := hS; go_simp; try with_reducible rfl)
              simp only [Act.put, List.setIfInBounds_toArray, List.set_cons_zero, List.set_cons_succ]
              refine anyK_take (i := 6) (v := ?_) rfl (by kernel_rfl) (by kernel_rfl) (by kernel_rfl) (fun _ _ _ h => h) (Or.inl ⟨by rfl, ?_⟩) hS0 ?_
              rotate_left
              · (intro wS hS; obtain ⟨sA, sB⟩ := hS; go_simp; try with_reducible rfl)
              simp only [Act.put, List.setIfInBounds_toArray, List.set_cons_zero, List.set_cons_succ]
              refine anyK_take (i := 7) (v := ?_) rfl (by kernel_rfl) (by kernel_rfl) (by kernel_rfl) (fun _ _ _ h => h) (Or.inl ⟨by rfl, ?_⟩) hS0 ?_
              rotate_left
              · (intro wS hS; obtain ⟨sA, sB⟩ := hS; go_simp; try with_reducible rfl)
              simp only [Act.put, List.setIfInBounds_toArray, List.set_cons_zero, List.set_cons_succ]
              refine anyK_take (i := 8) (v := ?_) rfl (by kernel_rfl) (by kernel_rfl) (by kernel_rfl) (fun _ _ _ h => h) (Or.inl ⟨by rfl, ?_⟩) hS0 ?_
              rotate_left
              · (intro wS hS; obtain ⟨sA, sB⟩ := hS; go_simp; try with_reducible rfl)
              simp only [Act.put, List.setIfInBounds_toArray, List.set_cons_zero, List.set_cons_succ]
              refine anyK_take (i := 9) (v := ?_) rfl (by kernel_rfl) (by kernel_rfl) (by kernel_rfl) (fun _ _ _ h => h) (Or.inl ⟨by rfl, ?_⟩) hS0 ?_
              rotate_left
              · (intro wS hS; obtain ⟨sA, sB⟩ := hS; go_simp; try with_reducible rfl)
              simp only [Act.put, List.setIfInBounds_toArray, List.set_cons_zero, List.set_cons_succ]
              refine anyK_take (i := 10) (v := ?_) rfl (by kernel_rfl) (by kernel_rfl) (by kernel_rfl) (fun _ _ _ h => h) (Or.inl ⟨by rfl, ?_⟩) hS0 ?_
              rotate_left
              · (intro wS hS; obtain ⟨sA, sB⟩ := hS; go_simp; try with_reducible rfl)
              simp only [Act.put, List.setIfInBounds_toArray, List.set_cons_zero, List.set_cons_succ]
              refine anyK_take (i := 11) (v := ?_) rfl (by kernel_rfl) (by kernel_rfl) (by kernel_rfl) (fun _ _ _ h => h) (Or.inl ⟨by rfl, ?_⟩) hS0 ?_
              rotate_left
              · (intro wS hS; obtain ⟨sA, sB⟩ := hS; go_simp; try with_reducible rfl)
              simp only [Act.put, List.setIfInBounds_toArray, List.set_cons_zero, List.set_cons_succ]
              refine anyK_take (i := 12) (v := ?_) rfl (by kernel_rfl) (by kernel_rfl) (by kernel_rfl) (fun _ _ _ h => h) (Or.inl ⟨by rfl, ?_⟩) hS0 ?_
              rotate_left
              · (intro wS hS; obtain ⟨sA, sB⟩ := hS; go_simp; try with_reducible rfl)
              simp only [Act.put, List.setIfInBounds_toArray, List.set_cons_zero, List.set_cons_succ]
              refine anyK_take (i := 13) (v := ?_) rfl (by kernel_rfl) (by kernel_rfl) (by kernel_rfl) (fun _ _ _ h => h) (Or.inl ⟨by rfl, ?_⟩) hS0 ?_
              rotate_left
              · (intro wS hS; obtain ⟨sA, sB⟩ := hS; go_simp; try with_reducible rfl)
              simp only [Act.put, List.setIfInBounds_toArray, List.set_cons_zero, List.set_cons_succ]
              refine anyK_take (i := 14) (v := ?_) rfl (by kernel_rfl) (by kernel_rfl) (by kernel_rfl) (fun _ _ _ h => h) (Or.inl ⟨by rfl, ?_⟩) hS0 ?_
              rotate_left
              · (intro wS hS; obtain ⟨sA, sB⟩ := hS; go_simp; try with_reducible rfl)
              simp only [Act.put, List.setIfInBounds_toArray, List.set_cons_zero, List.set_cons_succ]
              refine anyK_take (i := 15) (v := ?_) rfl (by kernel_rfl) (by kernel_rfl) (by kernel_rfl) (fun _ _ _ h => h) (Or.inl ⟨by rfl, ?_⟩) hS0 ?_
              rotate_left
              · (intro wS hS; obtain ⟨sA, sB⟩ := hS; go_simp; try with_reducible rfl)
              simp only [Act.put, List.setIfInBounds_toArray, List.set_cons_zero, List.set_cons_succ]
              refine anyK_take (i := 16) (v := ?_) rfl (by kernel_rfl) (by kernel_rfl) (by kernel_rfl) (fun _ _ _ h => h) (Or.inl ⟨by rfl, ?_⟩) hS0 ?_
              rotate_left
              · (intro wS hS; obtain ⟨sA, sB⟩ := hS; go_simp; try with_reducible rfl)
              simp only [Act.put, List.setIfInBounds_toArray, List.set_cons_zero, List.set_cons_succ]
              refine anyK_take (i := 17) (v := ?_) rfl (by kernel_rfl) (by kernel_rfl) (by kernel_rfl) (fun _ _ _ h => h) (Or.inl ⟨by rfl, ?_⟩) hS0 ?_
              rotate_left
              · (intro wS hS; obtain ⟨sA, sB⟩ := hS; go_simp; try with_reducible rfl)
              simp only [Act.put, List.setIfInBounds_toArray, List.set_cons_zero, List.set_cons_succ]
              refine anyK_take (i := 18) (v := ?_) rfl (by kernel_rfl) (by kernel_rfl) (by kernel_rfl) (fun _ _ _ h => h) (Or.inl ⟨by rfl, ?_⟩) hS0 ?_
              rotate_left
              · (intro wS hS; obtain ⟨sA, sB⟩ := hS; go_simp; try with_reducible rfl)
              simp only [Act.put, List.setIfInBounds_toArray, List.set_cons_zero, List.set_cons_succ]
              refine anyK_take (i := 19) (v := ?_) rfl (by kernel_rfl) (by kernel_rfl) (by kernel_rfl) (fun _ _ _ h => h) (Or.inl ⟨by rfl, ?_⟩) hS0 ?_
              rotate_left
              · (intro wS hS; obtain ⟨sA, sB⟩ := hS; go_simp; try with_reducible rfl)
              simp only [Act.put, List.setIfInBounds_toArray, List.set_cons_zero, List.set_cons_succ]
              refine anyK_take (i := 20) (v := ?_) rfl (by kernel_rfl) (by kernel_rfl) (by kernel_rfl) (fun _ _ _ h => h) (Or.inl ⟨by rfl, ?_⟩) hS0 ?_
              rotate_left
              · (intro wS hS; obtain ⟨sA, sB⟩ := hS; go_simp; try with_reducible rfl)
              simp only [Act.put, List.setIfInBounds_toArray, List.set_cons_zero, List.set_cons_succ]
              have hg7 : g' < w6.drew.heap.size := (World.ownsRow.lt Q1.out g' rfl).2
              have hsA : w1.heap.size < (w6.drew.alloc (.cells #[.int .i64 3, .int .i64 x.2.2.1, .int .i64 x.2.2.1, .slice none 0 0] 72 (0, 0))).heap.size := by rw [size_one']; omega
              have hsR : w.heap.size < (w6.drew.alloc (.cells #[.int .i64 3, .int .i64 x.2.2.1, .int .i64 x.2.2.1, .slice none 0 0] 72 (0, 0))).heap.size := by rw [size_one']; omega
              have hA : (w6.drew.alloc (.cells #[.int .i64 3, .int .i64 x.2.2.1, .int .i64 x.2.2.1, .slice none 0 0] 72 (0, 0))).cell? ⟨w1.heap.size, 0, none⟩ = some (.slice (some ⟨g', 0, none⟩) (p + 1) cp) ∧ (w6.drew.alloc (.cells #[.int .i64 3, .int .i64 x.2.2.1, .int .i64 x.2.2.1, .slice none 0 0] 72 (0, 0))).cell? ⟨g', p * 4 + 2, none⟩ = some (.int .i64 x.2.2.1) := ⟨box1 ((Below.heap_alloc w6.drew (.cells #[.int .i64 3, .int .i64 x.2.2.1, .int .i64 x.2.2.1, .slice none 0 0] 72 (0, 0)) w1.heap.size (by omega)).trans HX7.out), (World.cell?_of_block (w := w6.drew) (a := ⟨g', p * 4 + 2, none⟩) (Below.heap_alloc w6.drew (.cells #[.int .i64 3, .int .i64 x.2.2.1, .int .i64 x.2.2.1, .slice none 0 0] 72 (0, 0)) g' hg7)).trans c2⟩
              refine anyK_step (i := 21) (by kernel_rfl) rfl (by rfl) (fun K hK => ?_)
              go_simp
              refine hK _ _ (.inr hA) ?_
              try simp only [Act.put, List.setIfInBounds_toArray, List.set_cons_zero, List.set_cons_succ]
              refine anyK_step (i := 22) (by kernel_rfl) rfl (by rfl) (fun K hK => ?_)
              refine wp_append_keeps _ _ _ _ (by rfl) (w.heap.size + 1) 72 j0 (.agg #[.int .i64 0, .int .i64 0, .int .i64 0, .slice none 0 0]) 4 48 Try.underlying24 hj hy0 hy1 hy2 rfl (by decide) (.slice (some ⟨g', 0, none⟩) (p + 1) cp) (p + 1) us (by rfl) HRD.out ⟨w6.drew.heap.size, 0, none⟩ 1 1 [.int .i64 3, .int .i64 x.2.2.1, .int .i64 x.2.2.1, .slice none 0 0] (by rfl) (by rfl) HND.out (op_cells _ _ _ _ _ _) (by omega) (by unfold maxLen; omega) (by omega) HBS.out _ (by rfl) ?_
              intro g2 cap2 w8 hown8 hgrow8 hat8 hlt8 hk8
              have hp : ListJ shOp 72 (w.heap.size + 1) (fun b => w.heap.size + 1 ≤ b ∧ b < w1.heap.size ∧ some g ≠ some b) w8 (.slice (some ⟨g2, 0, none⟩) (p + 1 + 1) cap2) (m' ++ [(3, x.2.2.1, x.2.2.1, [])]) := ListJ.put (w := w6.drew) (v := .slice (some ⟨g', 0, none⟩) (p + 1) cp) (o := (.cells #[.int .i64 3, .int .i64 x.2.2.1, .int .i64 x.2.2.1, .slice none 0 0] 72 (0, 0))) (es := [.int .i64 3, .int .i64 x.2.2.1, .int .i64 x.2.2.1, .slice none 0 0]) Q1.out Q2.out Q3.out (shOp_reads.2 ⟨none, 0, 0, rfl, Nat.le_refl _, by omega, rfl, fun j y hy => by simp at hy⟩) rfl (by rw [hm']; exact hown8) hgrow8 (by
                rcases hat8 with e | e
                · exact .inl e.symm
                · exact .inr (congrArg some e))
              have hlr : ∀ r, (Value.slice (some ⟨g', 0, none⟩) (p + 1) cp).ownBlock = some r → w.heap.size + 1 ≤ r ∧ r ≠ w1.heap.size := fun r hr => by
                have h1 := (World.ownsRow.lt Q1.out r hr).1
                have h2 : g' = r := by simpa [Value.ownBlock] using hr
                refine ⟨h1, fun e => ?_⟩
                subst h2
                have h3 := HX7.out
                rw [← e] at h3
                exact ListJ.apart ⟨us, Q1.out, Q2.out, Q3.out⟩ h3 (by decide)
              have HL8 := Lib.hid hp
              have HT8 := Lib.hid ((HT7.out.alloc (.cells #[.int .i64 3, .int .i64 x.2.2.1, .int .i64 x.2.2.1, .slice none 0 0] 72 (0, 0))).grow hlt hgrow8 fun r hr => by have := (hlr r hr).1; omega)
              have hx8 := (hgrow8.block w1.heap.size hsA (fun e => (hlr _ e.symm).2 rfl)).trans ((Below.heap_alloc w6.drew _ _ (by omega)).trans HX7.out)
              have hb8 := (hgrow8.block w.heap.size hsR (fun e => by have := (hlr _ e.symm).1; omega)).trans ((Below.heap_alloc w6.drew _ _ (by omega)).trans HB7.out)
              have y8 := box1 hx8
              have yf8 := frozen_of_row w8 w1.heap.size 0 _ _ hx8
              have c8 : w8.cell? ⟨g', p * 4 + 2, none⟩ = some (.int .i64 x.2.2.1) := by
                have h := hk8 g' (p * 4 + 2) _ rfl c2f.out
                rw [show ((⟨g', 0, none⟩ : Addr).add (p * 4 + 2)) = ⟨g', p * 4 + 2, none⟩ by simp [Addr.add]] at h
                exact h
              have HX8 := Lib.hid hx8
              have HB8 := Lib.hid hb8
              have HS8 := Lib.hid (HSM.out.snoc (x := (3, x.2.2.1, x.2.2.1, [])) (by show 0 ≤ 37; omega))
              have hg2 : w.heap.size + 1 ≤ g2 := (World.ownsRow.lt hown8 g2 rfl).1
              have hS8 : w8.cell? ⟨w1.heap.size, 0, none⟩ = some (.slice (some ⟨g', 0, none⟩) (p + 1) cp) ∧ w8.cell? ⟨g', p * 4 + 2, none⟩ = some (.int .i64 x.2.2.1) := ⟨y8, c8⟩
              clear hp hx8 hb8 hown8 hgrow8 hat8 hk8 hlr
              refine hK _ _ (.inr hS8) ?_
              try simp only [Act.put, List.setIfInBounds_toArray, List.set_cons_zero, List.set_cons_succ]
              refine anyK_take (i := 23) (v := ?_) rfl (by kernel_rfl) (by kernel_rfl) (by kernel_rfl) (fun _ _ _ h => h) (Or.inl ⟨by rfl, ?_⟩) hS8 ?_
              rotate_left
              · (intro wS hS; obtain ⟨sA, sB⟩ := hS; go_simp; try with_reducible rfl)
              simp only [Act.put, List.setIfInBounds_toArray, List.set_cons_zero, List.set_cons_succ]
              refine anyK_step (i := 24) (by kernel_rfl) rfl (by rfl) (fun K hK => ?_)
              go_simp
              refine hK _ _ (.inl (last_of (by kernel_rfl))) ?_
              refine anyK_done (by kernel_rfl) ?_ _
              have hfin : Hid (leftM w1.heap.size (w8.setCell ⟨w1.heap.size, 0, none⟩ (.slice (some ⟨g2, 0, none⟩) (p + 1 + 1) cap2)) = 9 - (p + 1 + 1)) := Lib.hid (leftM_at (box1 (heap_setCell_same w8 w1.heap.size 0 _ _ _ HX8.out)))
              have hgx : g2 ≠ w1.heap.size := fun e => ListJ.apart HL8.out (by rw [e]; exact HX8.out) (by decide)
              go_wp2_with fail
              go_roundw
              case rel => exact ⟨p + 1, g2, cap2, m' ++ [(3, x.2.2.1, x.2.2.1, [])], by omega, by rw [List.length_append, hm']; rfl, HS8.out, heap_setCell_same w8 w1.heap.size 0 _ _ _ HX8.out, (heap_setCell_other _ _ _ _ (by show w.heap.size ≠ w1.heap.size; omega)).trans HB8.out, hg2, HL8.out.stored w1.heap.size 0 _ (by simpa [Value.ownBlock] using hgx) (fun h => by have := h.2.1; omega), HT8.out.setCell hlt ⟨w1.heap.size, 0, none⟩ _ (by show w.heap.size ≤ w1.heap.size; omega)⟩
              case measure =>
                have h1 := hfin.out
                have h2 := HM0.out
                show leftM w1.heap.size _ < leftM w1.heap.size _
                rw [h1, h2]
                omega
            · have hp0 : 7 ≤ p := by omega
              have hgo' : ¬ ((p : Int) + 1 < 8 + u) := by omega
              have z6 := box1 HB6.out
              have zf := frozen_of_row w6 w.heap.size 0 _ _ HB6.out
              go_wp2_with fail
              refine bodyPost_ret (results_cell_row rfl _ _ w.heap.size 26 #[.slice (some ⟨g', 0, none⟩) (p + 1) cp] (0, 0) _ rfl ?_ Try.underlying26 rfl (by kernel_rfl)) rfl ?_
              · exact heap_setCell_same _ w.heap.size 0 _ _ _ HB6.out
              have hJ : Hid (ListJ shOp 72 (w.heap.size + 1) (fun b => w.heap.size + 1 ≤ b ∧ b < w1.heap.size ∧ some g ≠ some b) (w6.setCell ⟨w.heap.size, 0, none⟩ (.slice (some ⟨g', 0, none⟩) (p + 1) cp)) (.slice (some ⟨g', 0, none⟩) (p + 1) cp) m') := Lib.hid (HL6.out.stored w.heap.size 0 _ (by simp [Value.ownBlock]; omega) (by omega))
              obtain ⟨a9, c9, e9, h9, h9'⟩ := HL6.out.form
              simp only [Value.slice.injEq] at e9
              obtain ⟨-, -, rfl⟩ := e9
              exact ⟨_, p + 1, cp, m', rfl, ⟨by omega, hm', by omega, h9', HSM.out⟩, wideR hJ.out.toQ, T6.out.setCell hlt ⟨w.heap.size, 0, none⟩ _ (Nat.le_refl _)⟩
      · have t2 : (z == 2) = false := by simpa using e2
        go_wp2_with fail
        refine bodyPost_ret (results_cell_row rfl _ _ w.heap.size 26 #[.slice (some ⟨g, 0, none⟩) n cv] (0, 0) _ rfl ?_ Try.underlying26 rfl (by kernel_rfl)) rfl ?_
        · exact heap_setCell_same _ w.heap.size 0 _ _ _ B4.out
        exact ⟨_, n, cv, m, rfl, ⟨by omega, hn, hcv1, hcv2, hsm⟩, wideR (LQ4.out.stored w.heap.size 0 _ (Nat.lt_succ_self _)), T4.out.setCell hlt ⟨w.heap.size, 0, none⟩ _ (Nat.le_refl _)⟩
end Go.Proofs.Ytkflinobmagiiaa
