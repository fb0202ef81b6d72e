import Derived.Test.YtpnifgpmleaohaaGreatDoorJoin44
import Derived.Test.YtpnifgpmleaohaaGreatDoorJoin35
import Derived.Test.YtpnifgpmleaohaaGreatDoorJoin43
/-! YtpnifgpmleaohaaGreatDoorZDrawMg -/
section

namespace Go.Proofs.YtpnifgpmleaohaaGreatDoor
open Go.RowKit Go.Sort
set_option linter.unusedVariables false

/-- A list is read, off its own blocks. -/
theorem ListQ.listFrom {α : Type} {S : Shape α} {T : TypeId} {lo hi : Nat} {w : World} {v : Value} {xs : List α} (h : ListQ S T lo hi w v xs) : ∃ a cap, v = .slice a xs.length cap ∧ xs.length ≤ cap ∧ cap ≤ 9223372036854775807 ∧ ListAt S (fun b => lo ≤ b ∧ b < hi) w a xs.length xs := by
  obtain ⟨us, h1, h2, h3⟩ := h.all
  have h1' := h1
  rcases h1.2 with ⟨rfl, hn⟩ | ⟨g, cap, cur, rfl, e1, e2, e3, e4, -⟩
  · refine ⟨none, 0, by rw [hn], by omega, by omega, rfl, fun j x hx => ?_⟩
    have := (List.getElem?_eq_some_iff.1 hx).1
    omega
  · unfold maxLen at e4
    refine ⟨_, cap, rfl, e3, by omega, rfl, fun j x hx => ?_⟩
    obtain ⟨es, q1, q2, q3⟩ := h3 j x hx
    have hj : j < xs.length := (List.getElem?_eq_some_iff.1 hx).1
    have hp := place_le (s := S.size) hj
    refine ⟨g, 0, es, rfl, ⟨e1, h2 g rfl⟩, fun i u hu => ?_, S.sub q3 fun b hb => ⟨hb.1, hb.2.1⟩⟩
    have hi := (List.getElem?_eq_some_iff.1 hu).1
    rw [Nat.zero_add, World.ownsRow.cellAt h1' _ (by omega)]
    exact q1 i u hu
theorem smallM_bulk {m : List dOp} (h : SmallM m) (hl : m.length ≤ 9) : shModel.bulk m ≤ 1048576 := by
  have h1 := h.sum
  show (Shape.list shOp).bulk m ≤ 1048576
  have : (Shape.list shOp).bulk m = m.length + Shape.sum shOp.bulk m := rfl
  rw [this]
  have : m.length * 37 ≤ 9 * 37 := Nat.mul_le_mul_right _ hl
  omega
/-- Two gradients were drawn. -/
def DrewGG (w : World) (e : Ending) (w' : World) : Prop := ∃ cs1 cs2 g1 g2, e = .returned (.tuple #[.agg (cs1 : List Value).toArray, .agg (cs2 : List Value).toArray]) ∧ (shGrads.bulk g1 ≤ 1048576 ∧ shGrads.bulk g2 ≤ 1048576) ∧ shGrads.reads (Under w'.heap.size) w' cs1 g1 ∧ shGrads.reads (Under w'.heap.size) w' cs2 g2 ∧ Below w.heap.size w w'
end Go.Proofs.YtpnifgpmleaohaaGreatDoor

end

/-! YtpnifgpmleaohaaGreatDoorZDrawMs -/
section

namespace Go.Proofs.YtpnifgpmleaohaaGreatDoor
open Go.RowKit Go.Sort
set_option linter.unusedVariables false

theorem ModIn.wide {H H' C : Nat} {w : World} {a : Option Addr} {n : Nat} {m : List dOp} (h : ModIn H C w a n m) (hH : H ≤ H') : ModIn H' C w a n m :=
  ListAt.sub h fun b hb => ⟨Nat.lt_of_lt_of_le hb.1 hH, hb.2⟩
theorem size_set1' (w : World) (a : Addr) (u : Value) : (w.setCell a u).heap.size = w.heap.size := by simp
/-- A model and a batch were drawn. -/
def DrewModB (w : World) (e : Ending) (w' : World) : Prop := ∃ a n c m ab k cb b, e = .returned (.tuple #[.agg #[.slice a n c], .slice ab k cb]) ∧ (shModel.bulk m ≤ 1048576 ∧ SmallB b ∧ b.length = k ∧ k ≤ 6 ∧ k ≤ cb ∧ cb ≤ 9223372036854775807) ∧ shModel.reads (Under w'.heap.size) w' [.slice a n c] m ∧ ListAt shPair (Under w'.heap.size) w' ab k b ∧ Below w.heap.size w w'
set_option maxRecDepth 100000 in
set_option maxHeartbeats 1600000 in
theorem drawSequential_e (w : World) (a : Option Addr) (cap : Nat) (bs : List UInt8) (hc : CodeIn w.heap.size w a bs) :
    Calls Tryz.prog 33 #[.slice a bs.length cap] w (DrewModB w) := by
  have hal : Below w.heap.size w (w.alloc (.cells #[.slice none 0 0] 50 (0, 0))) := (Below.refl _ _).alloc (Nat.le_refl _) _
  have HC := Lib.hid ((hc.below hal).le hal.size)
  have hb0 := heap_alloc_new w (.cells #[.slice none 0 0] 50 (0, 0))
  have hs0 : (w.alloc (.cells #[.slice none 0 0] 50 (0, 0))).heap.size = w.heap.size + 1 := by simp
  have HA := Lib.hid hal
  have HB0 := Lib.hid hb0
  clear hc hal hb0
  go_enter Tryz.func33, Tryz.ntmps33
  go_wp2_with fail
  generalize w.alloc (.cells #[.slice none 0 0] 50 (0, 0)) = wa at HC HA HB0 hs0 ⊢
  refine (l1New_e _ a cap bs HC.out).mono ?_
  rintro e w1 ⟨rfl, hcu, hg1⟩
  have hs1 := hg1.size
  rw [hs0] at hcu
  have hlt := hcu.lt
  have R0 := Lib.hid ((hg1.block w.heap.size (by omega) (fun e => by cases e)).trans HB0.out)
  have HT1 := Lib.hid (HA.out.trans (((Below.refl wa.heap.size wa).grown hg1 (Nat.le_refl _) (fun k h => by cases h)).mono (by omega : w.heap.size ≤ wa.heap.size)))
  clear hg1 HA HB0 HC
  go_wp2_with fail
  refine (l6Any_e _ _ _ hcu).mono ?_
  rintro e w2 ⟨av, n, cv, m, rfl, ⟨n9, hn, hcv1, hcv2, hsm⟩, hli, ht2⟩
  have hs2 := ht2.size
  have hbm := smallM_bulk hsm (by omega)
  obtain ⟨a', c', e', -, -, hla⟩ := hli.listFrom
  simp only [Value.slice.injEq] at e'
  obtain ⟨rfl, -, rfl⟩ := e'
  rw [hn] at hla
  have R02 := Lib.hid ((ht2.block (by omega) (by omega)).trans R0.out)
  have HT2 := Lib.hid (HT1.out.trans (ht2.below (by omega) (by omega)))
  have M2 : Hid (ModIn w2.heap.size (w.heap.size + 1) w2 av n m) := Lib.hid (ListAt.sub hla fun b hb => ⟨hb.2, by have := hb.1; omega⟩)
  have hrf : Hid (ListAt shOp (fun b => w1.heap.size ≤ b ∧ b < w2.heap.size) w2 av n m) := Lib.hid hla
  have C2 := Lib.hid ht2.cu
  clear R0 HT1 hli hla ht2 hsm
  go_upto_region 3 with fail
  have hal : Below w2.heap.size w2 (w2.alloc (.cells #[.slice av n cv] 50 (0, 0))) := (Below.refl _ _).alloc (Nat.le_refl _) _
  have hbn := heap_alloc_new w2 (.cells #[.slice av n cv] 50 (0, 0))
  have hbs : (w2.alloc (.cells #[.slice av n cv] 50 (0, 0))).heap.size = w2.heap.size + 1 := by simp
  have R03 := Lib.hid ((hal.block _ (by omega)).trans R02.out)
  have HT3 := Lib.hid (HT2.out.trans (hal.mono (by omega)))
  have M3 := Lib.hid (M2.out.below hal (Nat.le_refl _))
  have C3 := Lib.hid (C2.out.below hal)
  have L3 : Hid (ListAt shOp (fun b => w1.heap.size ≤ b ∧ b < w2.heap.size) (w2.alloc (.cells #[.slice av n cv] 50 (0, 0))) av n m) := Lib.hid (ListAt.keep hrf.out fun b hb => hal.block b hb.2)
  clear R02 HT2 M2 C2 hal hrf
  generalize w2.alloc (.cells #[.slice av n cv] 50 (0, 0)) = w3 at hbn hbs R03 HT3 M3 C3 L3 ⊢
  have yb := box1 hbn
  have hdr : Below w3.heap.size w3 w3.drew := (Below.refl _ _).drew
  have hsd : w3.heap.size ≤ w3.drew.heap.size := hdr.size
  have HD := Lib.hid hdr
  have MD := Lib.hid (M3.out.below hdr (by omega))
  have CD := Lib.hid (C3.out.below hdr)
  have XD : Hid (w3.drew.heap[w2.heap.size]? = some (.cells #[.slice av n cv] 50 (0, 0))) := Lib.hid hbn
  have ne1 : ¬ w2.heap.size = w.heap.size := by omega
  have ne2 : ¬ w.heap.size = w2.heap.size := by omega
  clear hdr hbn
  go_region_held3 (fun w' => w'.cell? ⟨w2.heap.size, 0, none⟩ = some (.slice av n cv))
    (first | go_keep | with_reducible assumption)
    (first
      | (go_at_call 89; (with_reducible refine (l6AnyBatch_e _ _ _ CD.out av n cv m (MD.out.wide (by omega)) hcv1 hcv2 hbm).mono ?_); rintro e w4 ⟨ab, k, cb, b, rfl, ⟨k6, hk, hcb1, hcb2, hsb⟩, hlb, ht4⟩; have hs4 := ht4.size; have HL4 := Lib.hid hlb; have HT4 := Lib.hid ht4; have HSB := Lib.hid hsb; have R04 := Lib.hid ((ht4.block (by omega) (by omega)).trans ((HD.out.block _ (by omega)).trans R03.out)); have yb4 := box1 ((ht4.block (by omega) (by omega)).trans XD.out); have p0 := box1 R04.out; have q0 := frozen_of_row w4 w.heap.size 0 _ _ R04.out; clear hlb ht4 hsb))
  go_wp2_with fail
  refine bodyPost_ret (results_row_tmp rfl _ _ w.heap.size 50 #[.slice av n cv] (0, 0) _ rfl ?_ Tryz.underlying50 rfl (by kernel_rfl)) rfl ?_
  · exact heap_setCell_same w4 w.heap.size 0 _ _ _ R04.out
  have hM4 := MD.out.turned HT4.out (by omega)
  obtain ⟨a9, c9, e9, -, -, hl9⟩ := HL4.out.listFrom
  simp only [Value.slice.injEq] at e9
  obtain ⟨rfl, -, rfl⟩ := e9
  rw [hk] at hl9
  refine ⟨av, n, cv, m, ab, k, cb, b, rfl, ⟨hbm, HSB.out, hk, k6, hcb1, hcb2⟩, ?_, ?_, (HT3.out.trans ((HD.out.mono (by omega : w.heap.size ≤ w3.heap.size)).trans (HT4.out.below (by omega) (by omega)))).setCell (Nat.le_refl _) _⟩
  · refine shModel_reads.2 ⟨av, n, cv, rfl, hcv1, hcv2, ListAt.sub (ListAt.keep (ListAt.keep (ListAt.keep L3.out fun b hb => HD.out.block b (by have := hb.2; omega)) fun b hb => HT4.out.block (by have := hb.2; omega) (by have := hb.1; omega)) fun b hb => heap_setCell_other _ _ _ _ (by show b ≠ w.heap.size; have := hb.1; omega)) fun b hb => ?_⟩
    show b < _
    simp only [size_set1']
    have := hb.2
    omega
  · refine ListAt.sub (ListAt.keep hl9 fun b hb => heap_setCell_other _ _ _ _ (by show b ≠ w.heap.size; have := hb.1; omega)) fun b hb => ?_
    show b < _
    simpa using hb.2
end Go.Proofs.YtpnifgpmleaohaaGreatDoor

end
