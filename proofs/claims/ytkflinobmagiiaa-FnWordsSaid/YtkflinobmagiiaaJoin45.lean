/-
  What is let in: the program's sizes (mkadmi.py).
-/
import Derived.Test.YtkflinobmagiiaaJoin36
import Derived.Test.YtkflinobmagiiaaJoin42
import Derived.Test.YtkflinobmagiiaaJoin43
import Derived.Test.YtkflinobmagiiaaJoin44
import Derived.Lib.QuietBelow
import Derived.Deep.QuietTactic
import Derived.BigQuiet
namespace Go.Proofs.Ytkflinobmagiiaa
open Go.RowKit Go.Sort
set_option linter.unusedVariables false
set_option linter.unusedSimpArgs false

set_option maxRecDepth 100000 in
set_option maxHeartbeats 3200000 in
theorem implStagesOf_d (w : World) (es : List Value) (x : dConfig) (h : shConfig.reads (Under w.heap.size) w es x) (hb : shConfig.bulk x ≤ 1048576) :
    Calls Try.prog 20 #[.agg es.toArray] w fun e w' => e = .returned ((.int .i64 (stagesN x.1 x.2.1))) ∧ Below w.heap.size w w' := by
  obtain ⟨m, l, ds, r, cp, lm⟩ := x
  obtain ⟨a0, n0, c0, a1, n1, c1, a2, n2, c2, a3, n3, c3, a4, n4, c4, rfl, hp, hq, hm, hbm, hl, ⟨hr0, hr⟩, hcp, hlm⟩ := conf_in h hb
  try dsimp only
  have hal : Below w.heap.size w (w.alloc (.cells #[.slice a0 n0 c0, .slice a1 n1 c1, .int .i64 ds, .slice a2 n2 c2, .slice a3 n3 c3, .slice a4 n4 c4] 30 (0, 0))) := (Below.refl _ _).alloc (Nat.le_refl _) _
  have hb0 := heap_alloc_new w (.cells #[.slice a0 n0 c0, .slice a1 n1 c1, .int .i64 ds, .slice a2 n2 c2, .slice a3 n3 c3, .slice a4 n4 c4] 30 (0, 0))
  have hs0 : (w.alloc (.cells #[.slice a0 n0 c0, .slice a1 n1 c1, .int .i64 ds, .slice a2 n2 c2, .slice a3 n3 c3, .slice a4 n4 c4] 30 (0, 0))).heap.size = w.heap.size + 1 := by simp
  have HRD := Lib.hid fun (wx : World) (hx : Below w.heap.size w wx) => Shape.le _ (Shape.below _ h hx (Nat.le_refl _)) hx.size
  have HBK := Lib.hid hb
  have HMM := Lib.hid fun (wx : World) (hx : Below w.heap.size w wx) => (hm.below hx (Nat.le_refl _)).le hx.size
  have HLL := Lib.hid fun (wx : World) (hx : Below w.heap.size w wx) => (hl.below hx (Nat.le_refl _)).le hx.size
  have HMN := Lib.hid hm.1
  have HM := Lib.hid hm
  have HR := Lib.hid hr
  have HLN := Lib.hid hl.len
  have HA := Lib.hid hal
  have HB0 := Lib.hid hb0
  have hn1 : n1 ≤ 1048576 := hl.room
  have hn2 := hr0
  clear hal hb0 hr0
  have HC := Lib.hid fun (wx : World) (hx : Below w.heap.size w wx) => implCutsOk_c wx a0 n0 c0 m ((hm.below hx (Nat.le_refl _)).le hx.size) hp hq hbm a1 n1 c1 l ((hl.below hx (Nat.le_refl _)).le hx.size)
  obtain ⟨R, hR⟩ : ∃ R, cutsOkB m l = R := ⟨_, rfl⟩
  have hS : stagesN m l = if R = true then (n1 : Int) + 1 else 0 := by unfold stagesN; rw [hR, hl.len]
  simp only [hR] at HC
  rw [hS]
  clear h hb hm hbm hl hr hcp hlm hp hq
  clear hR hS HRD HMM HLL HM HR
  go_enter Try.func20, Try.ntmps20
  go_upto_region 1 with fail
  generalize w.alloc (.cells #[.slice a0 n0 c0, .slice a1 n1 c1, .int .i64 ds, .slice a2 n2 c2, .slice a3 n3 c3, .slice a4 n4 c4] 30 (0, 0)) = wa at HA HB0 hs0 ⊢
  obtain ⟨z0, z1, -, -, -, -⟩ := box6 HB0.out
  go_wp2_with fail
  refine (HC.out wa HA.out).mono ?_
  rintro e w1 ⟨rfl, hb⟩
  clear z0 z1
  obtain ⟨-, z1, -, -, -, -⟩ := box6 ((hb.block w.heap.size (by omega)).trans HB0.out)
  have HB := Lib.hid (HA.out.trans (hb.mono HA.out.size))
  clear hb
  cases R
  all_goals
    go_wp2_with fail
    go_ret
    exact ⟨rfl, HB.out⟩
set_option maxRecDepth 100000 in
set_option maxHeartbeats 3200000 in
theorem implRedoes_d (w : World) (es : List Value) (x : dConfig) (h : shConfig.reads (Under w.heap.size) w es x) (hb : shConfig.bulk x ≤ 1048576) (s : Int) :
    Calls Try.prog 38 #[.agg es.toArray, .int .i64 s] w fun e w' => e = .returned ((.bool (redoB x.2.2.2.1 s))) ∧ Below w.heap.size w w' := by
  obtain ⟨m, l, ds, r, cp, lm⟩ := x
  obtain ⟨a0, n0, c0, a1, n1, c1, a2, n2, c2, a3, n3, c3, a4, n4, c4, rfl, hp, hq, hm, hbm, hl, ⟨hr0, hr⟩, hcp, hlm⟩ := conf_in h hb
  try dsimp only
  have hal : Below w.heap.size w (w.alloc (.cells #[.slice a0 n0 c0, .slice a1 n1 c1, .int .i64 ds, .slice a2 n2 c2, .slice a3 n3 c3, .slice a4 n4 c4] 30 (0, 0))) := (Below.refl _ _).alloc (Nat.le_refl _) _
  have hb0 := heap_alloc_new w (.cells #[.slice a0 n0 c0, .slice a1 n1 c1, .int .i64 ds, .slice a2 n2 c2, .slice a3 n3 c3, .slice a4 n4 c4] 30 (0, 0))
  have hs0 : (w.alloc (.cells #[.slice a0 n0 c0, .slice a1 n1 c1, .int .i64 ds, .slice a2 n2 c2, .slice a3 n3 c3, .slice a4 n4 c4] 30 (0, 0))).heap.size = w.heap.size + 1 := by simp
  have HRD := Lib.hid fun (wx : World) (hx : Below w.heap.size w wx) => Shape.le _ (Shape.below _ h hx (Nat.le_refl _)) hx.size
  have HBK := Lib.hid hb
  have HMM := Lib.hid fun (wx : World) (hx : Below w.heap.size w wx) => (hm.below hx (Nat.le_refl _)).le hx.size
  have HLL := Lib.hid fun (wx : World) (hx : Below w.heap.size w wx) => (hl.below hx (Nat.le_refl _)).le hx.size
  have HMN := Lib.hid hm.1
  have HM := Lib.hid hm
  have HR := Lib.hid hr
  have HLN := Lib.hid hl.len
  have HA := Lib.hid hal
  have HB0 := Lib.hid hb0
  have hn1 : n1 ≤ 1048576 := hl.room
  have hn2 := hr0
  clear hal hb0 hr0
  have HRL := Lib.hid hr.1
  clear h hb hm hbm hl hr hcp hlm hp hq
  clear HRD HLL HMM HM
  go_enter Try.func38, Try.ntmps38
  go_upto_region 1 with fail
  generalize w.alloc (.cells #[.slice a0 n0 c0, .slice a1 n1 c1, .int .i64 ds, .slice a2 n2 c2, .slice a3 n3 c3, .slice a4 n4 c4] 30 (0, 0)) = wa at HA HB0 hs0 ⊢
  obtain ⟨z0, z1, z2, z3, z4, z5⟩ := box6 HB0.out
  by_cases hs : 0 ≤ s
  · have hg : decide ((0 : Int) ≤ s) = true := decide_eq_true hs
    obtain ⟨j, rfl⟩ : ∃ j : Nat, s = j := ⟨s.toNat, by omega⟩
    clear hs
    by_cases hj : j < n2
    · have hd : decide ((j : Int) < (n2 : Int)) = true := decide_eq_true (by omega)
      have hrd : redoB r (j : Int) = r.getD j false := by unfold redoB; rw [inB_yes (by omega) (by rw [HRL.out]; omega), Int.toNat_natCast]; rfl
      obtain ⟨b, o, rfl, hbB, hc0⟩ := HR.out.mark j hj
      obtain ⟨X, hX⟩ : ∃ X, r.getD j false = X := ⟨_, rfl⟩
      rw [hX] at hc0 hrd
      have HRE := Lib.hid hrd
      have cm := (HA.out.cell (p := ⟨b, o + j, none⟩) hbB).trans hc0
      clear hX hrd hc0
      cases X
      all_goals
        go_wp2_with fail
        go_ret
        exact ⟨by rw [HRE.out]; rfl, HA.out⟩
    · have hd : decide ((j : Int) < (n2 : Int)) = false := decide_eq_false (by omega)
      have HRE := Lib.hid (show redoB r (j : Int) = false by unfold redoB; rw [inB_no (by rw [HRL.out]; omega)]; rfl)
      go_wp2_with fail
      go_ret
      exact ⟨by rw [HRE.out]; rfl, HA.out⟩
  · have hg : decide ((0 : Int) ≤ s) = false := decide_eq_false hs
    have HRE := Lib.hid (show redoB r s = false by unfold redoB; rw [inB_no (by omega)]; rfl)
    go_wp2_with fail
    go_ret
    exact ⟨by rw [HRE.out]; rfl, HA.out⟩
/-- A part of a list. -/
theorem ListAt.partA {α : Type} {S : Shape α} {I : Nat → Prop} {w : World} {a : Option Addr} {n : Nat} {xs : List α} (h : ListAt S I w a n xs) {f t k : Nat} (hft : f ≤ t) (htn : t ≤ n) (hk : k = f * S.size) :
    ListAt S I w (a.map (fun x => x.add k)) (t - f) ((xs.drop f).take (t - f)) := by
  refine ⟨by rw [List.length_take, List.length_drop, h.1]; omega, fun j x hx => ?_⟩
  have hj : j < t - f := by
    have := (List.getElem?_eq_some_iff.1 hx).1
    rw [List.length_take] at this
    omega
  rw [List.getElem?_take, if_pos hj, List.getElem?_drop] at hx
  obtain ⟨b, o, es, rfl, hb, hr, hs⟩ := h.2 (f + j) x hx
  refine ⟨b, o + k, es, by simp [Addr.add_mid], hb, ?_, hs⟩
  rw [hk, Nat.add_assoc, ← Nat.add_mul]
  exact hr
/-- A stage's operations: a part of the model's own list. -/
def partN (m : List dOp) (l : List Int) (s : Int) : List dOp := (m.drop (fromC m l s).toNat).take ((toC m l s).toNat - (fromC m l s).toNat)
def PartAt (w : World) (x : dConfig) (s : Int) (e : Ending) (w' : World) : Prop := ∃ a n c, e = .returned (.slice a n c) ∧ n ≤ 8 ∧ n ≤ c ∧ c ≤ 9223372036854775807 ∧ ListAt shOp (Under w.heap.size) w' a n (partN x.1 x.2.1 s) ∧ Below w.heap.size w w'
set_option maxRecDepth 100000 in
set_option maxHeartbeats 3200000 in
theorem implPart_d (w : World) (es : List Value) (x : dConfig) (h : shConfig.reads (Under w.heap.size) w es x) (hb : shConfig.bulk x ≤ 1048576) (s : Int) :
    Calls Try.prog 35 #[.agg es.toArray, .int .i64 s] w fun e w' => PartAt w x s e w' := by
  obtain ⟨m, l, ds, r, cp, lm⟩ := x
  obtain ⟨a0, n0, c0, a1, n1, c1, a2, n2, c2, a3, n3, c3, a4, n4, c4, rfl, hp, hq, hm, hbm, hl, ⟨hr0, hr⟩, hcp, hlm⟩ := conf_in h hb
  try dsimp only
  have hal : Below w.heap.size w (w.alloc (.cells #[.slice a0 n0 c0, .slice a1 n1 c1, .int .i64 ds, .slice a2 n2 c2, .slice a3 n3 c3, .slice a4 n4 c4] 30 (0, 0))) := (Below.refl _ _).alloc (Nat.le_refl _) _
  have hb0 := heap_alloc_new w (.cells #[.slice a0 n0 c0, .slice a1 n1 c1, .int .i64 ds, .slice a2 n2 c2, .slice a3 n3 c3, .slice a4 n4 c4] 30 (0, 0))
  have hs0 : (w.alloc (.cells #[.slice a0 n0 c0, .slice a1 n1 c1, .int .i64 ds, .slice a2 n2 c2, .slice a3 n3 c3, .slice a4 n4 c4] 30 (0, 0))).heap.size = w.heap.size + 1 := by simp
  have HRD := Lib.hid fun (wx : World) (hx : Below w.heap.size w wx) => Shape.le _ (Shape.below _ h hx (Nat.le_refl _)) hx.size
  have HBK := Lib.hid hb
  have HMM := Lib.hid fun (wx : World) (hx : Below w.heap.size w wx) => (hm.below hx (Nat.le_refl _)).le hx.size
  have HLL := Lib.hid fun (wx : World) (hx : Below w.heap.size w wx) => (hl.below hx (Nat.le_refl _)).le hx.size
  have HMN := Lib.hid hm.1
  have HM := Lib.hid hm
  have HR := Lib.hid hr
  have HLN := Lib.hid hl.len
  have HA := Lib.hid hal
  have HB0 := Lib.hid hb0
  have hn1 : n1 ≤ 1048576 := hl.room
  have hn2 := hr0
  clear hal hb0 hr0
  obtain ⟨f, t, ef, et, hok⟩ := range_ok m l s
  have HC := Lib.hid fun (wx : World) (hx : Below w.heap.size w wx) => implStageRange_c wx a0 n0 c0 m ((hm.below hx (Nat.le_refl _)).le hx.size) hp hq hbm a1 n1 c1 l ((hl.below hx (Nat.le_refl _)).le hx.size) s
  simp only [ef, et] at HC
  have hft := hok.le
  have htn : t ≤ n0 := by rw [← hm.1]; exact hok.top
  have hn0 : n0 ≤ 1048576 := by rw [bulk_list shOp hm] at hbm; omega
  have HOK := Lib.hid hok
  have hc0' : c0 ≤ 9223372036854775807 := hq
  have HPQ := Lib.hid (And.intro hp hq)
  have hfn : f ≤ n0 := by omega
  have HEF := Lib.hid (And.intro ef et)
  clear h hb hm hbm hl hr hcp hlm hp hq
  clear hok ef et HRD HLL HMM HR
  go_enter Try.func35, Try.ntmps35
  go_upto_region 1 with fail
  generalize w.alloc (.cells #[.slice a0 n0 c0, .slice a1 n1 c1, .int .i64 ds, .slice a2 n2 c2, .slice a3 n3 c3, .slice a4 n4 c4] 30 (0, 0)) = wa at HA HB0 hs0 ⊢
  obtain ⟨z0, z1, -, -, -, -⟩ := box6 HB0.out
  go_wp2_with fail
  refine (HC.out wa HA.out).mono ?_
  rintro e w1 ⟨rfl, hb⟩
  clear z0 z1
  have hs1 := hb.size
  obtain ⟨z0, z1, z2, z3, z4, z5⟩ := box6 ((hb.block w.heap.size (by omega)).trans HB0.out)
  have HW1 := Lib.hid (HA.out.trans (hb.mono HA.out.size))
  clear hb
  have hp0 := HPQ.out.1
  have hlo : wrap64 ((t : Int) - (f : Int)) = ((t - f : Nat) : Int) := by rw [IntWalk.wrap64_in _ (by omega)]; omega
  have HPL := Lib.hid fun (k : Nat) (hk : k = f * shOp.size) => ((HM.out.below HW1.out (Nat.le_refl _)).partA hft htn hk)
  have h8 : t - f ≤ 8 := by
    by_cases hlt : f < t
    · have := (HOK.out.there hlt).2.2.1
      have := HOK.out.top
      omega
    · omega
  have HPE := Lib.hid (show partN m l s = (m.drop f).take (t - f) by unfold partN; rw [HEF.out.1, HEF.out.2, Int.toNat_natCast, Int.toNat_natCast])
  go_wp2_with fail
  · skip
    obtain rfl : f = t := by omega
    go_ret
    refine ⟨_, _, _, rfl, h8, by omega, by have := HPQ.out.2; omega, ?_, HW1.out⟩
    show ListAt shOp _ _ _ _ (partN m l s)
    rw [HPE.out, Nat.sub_self, List.take_zero]
    exact ⟨rfl, fun j x hx => by simp at hx⟩
  · go_ret
    refine ⟨_, _, _, rfl, h8, by omega, by have := HPQ.out.2; omega, ?_, HW1.out⟩
    show ListAt shOp _ _ _ _ (partN m l s)
    rw [HPE.out]
    exact HPL.out (f * 4) rfl
theorem partA_get {m : List dOp} {f t j : Nat} (ht : t ≤ m.length) (hj : j < t - f) : opAt ((m.drop f).take (t - f)) j = opAt m (f + j) := by
  unfold opAt
  rw [List.getD_eq_getElem?_getD, List.getD_eq_getElem?_getD, List.getElem?_take, if_pos hj, List.getElem?_drop]
theorem partA_len {m : List dOp} {f t : Nat} (ht : t ≤ m.length) : ((m.drop f).take (t - f)).length = t - f := by rw [List.length_take, List.length_drop]; omega
theorem outA_sum {m : List dOp} {f : Nat} : ∀ t, f ≤ t → t ≤ m.length → (((m.drop f).take (t - f)).map (fun x => x.2.2.1)).sum = outTo m t - outTo m f
  | 0, hf, _ => by
    obtain rfl : f = 0 := by omega
    simp
  | t + 1, hf, ht => by
    by_cases e : f = t + 1
    · subst e
      simp
    · have ih := outA_sum (m := m) (f := f) t (by omega) (by omega)
      obtain ⟨x, hx⟩ : ∃ x, m[t]? = some x := ⟨_, List.getElem?_eq_getElem (by omega)⟩
      have h1 : (m.drop f)[t - f]? = some x := by rw [List.getElem?_drop, show f + (t - f) = t from by omega]; exact hx
      rw [show t + 1 - f = t - f + 1 from by omega, List.take_add_one, h1, List.map_append, List.sum_append, ih, outTo_succ, opAt_get hx]
      simp
      omega
theorem sumA_six {R : List Int} (h : ∀ x ∈ R, 0 ≤ x ∧ x ≤ 6) : 0 ≤ R.sum ∧ R.sum ≤ 6 * (R.length : Int) := by
  induction R with
  | nil => simp
  | cons x R ih =>
    have h1 := h x (by simp)
    have h2 := ih fun y hy => h y (by simp [hy])
    rw [List.sum_cons, List.length_cons]
    omega
/-- The sizes of a stage's operations. -/
structure PartOk (m : List dOp) (l : List Int) (s : Int) (f t : Nat) : Prop where
  len : (partN m l s).length = t - f
  ins : inG (partN m l s) = inF m f t
  outs : outG (partN m l s) = outF m f t
  sum : (sizesA (partN m l s)).sum = fullT m f t
  few : ∀ x ∈ sizesA (partN m l s), 0 ≤ x ∧ x ≤ 6
theorem partA_ok {m : List dOp} {l : List Int} {s : Int} {f t : Nat} (ef : fromC m l s = f) (et : toC m l s = t) (h : RangeOk m l s f t) : PartOk m l s f t := by
  have he : partN m l s = (m.drop f).take (t - f) := by unfold partN; rw [ef, et, Int.toNat_natCast, Int.toNat_natCast]
  have hl := partA_len (f := f) h.top
  have h1 : inG ((m.drop f).take (t - f)) = inF m f t := by
    unfold inG inF
    rw [hl]
    by_cases hft : f < t
    · rw [if_neg (by omega), if_pos hft, partA_get h.top (by omega), Nat.add_zero]
    · rw [if_pos (by omega), if_neg hft]
  have h2 : outG ((m.drop f).take (t - f)) = outF m f t := by
    unfold outG outF
    rw [hl]
    by_cases hft : f < t
    · rw [if_neg (by omega), if_pos hft, partA_get h.top (by omega), show f + (t - f - 1) = t - 1 from by omega]
    · rw [if_pos (by omega), if_neg hft]
  refine ⟨by rw [he, hl], by rw [he, h1], by rw [he, h2], ?_, ?_⟩
  · rw [he]
    unfold sizesA
    rw [List.sum_cons, h1, outA_sum t h.le h.top, h.sizes.2.2.2.2.2.2.2]
  · rw [he]
    intro x hx
    unfold sizesA at hx
    rw [List.mem_cons] at hx
    rcases hx with rfl | hx
    · rw [h1]
      have := h.sizes
      omega
    · obtain ⟨y, hy, rfl⟩ := List.mem_map.1 hx
      obtain ⟨j, hj⟩ := List.mem_iff_getElem?.1 hy
      have hjl : j < t - f := by
        have := (List.getElem?_eq_some_iff.1 hj).1
        omega
      have e := partA_get (f := f) h.top hjl
      rw [opAt_get hj] at e
      rw [e]
      have hk := (h.there (by omega)).2.1 (f + j) (by have := h.top; omega)
      have := op_sizes hk
      omega
theorem takeA_sum {R : List Int} {k : Nat} (hk : k < R.length) : (R.take (k + 1)).sum = (R.take k).sum + R.getD k 0 := by
  rw [List.take_add_one, List.getElem?_eq_getElem hk, List.sum_append]
  simp [List.getD, hk]
end Go.Proofs.Ytkflinobmagiiaa
