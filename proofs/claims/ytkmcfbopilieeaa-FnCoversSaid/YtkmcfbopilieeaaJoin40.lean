import Derived.Test.YtkmcfbopilieeaaJoin39
import Derived.Test.YtkmcfbopilieeaaJoin27
import Derived.Test.YtkmcfbopilieeaaJoin36
import Derived.Deep.AppendLies
import Derived.Deep.RegionHeld3
import Derived.RangeFuncBox
import Derived.Test.YtkmcfbopilieeaaJoin15
import Derived.Test.YtkmcfbopilieeaaJoin19
import Derived.Test.YtkmcfbopilieeaaJoin28
import Derived.Lib.QuietBelow
import Derived.Test.YtkmcfbopilieeaaJoin1
/-! YtkmcfbopilieeaaDrawCut -/
section

namespace Go.Proofs.Ytkmcfbopilieeaa
open Go.RowKit Go.Sort
set_option linter.unusedVariables false

set_option maxRecDepth 100000 in
theorem l8Cuts_e (B : Nat) (w : World) (C : Nat) (hc : Cu B w C) (a : Option Addr) (n c : Nat) (hn : n ≤ 1048576) :
    Calls Try.prog 69 #[.pointer (some ⟨C, 0, none⟩), .agg #[.slice a n c]] w (DrewV (fun xs => xs.length ≤ 3) B w C) := by
  obtain ⟨i0, hi, hz0, hz1, hz2⟩ := info_parts Try.infoI64
  have hlt := hc.lt
  have ht0 := (Turned.refl hc).alloc (.cells #[.slice a n c] 26 (0, 0))
  have hb0 := heap_alloc_new w (.cells #[.slice a n c] 26 (0, 0))
  have hs0 : w.heap.size < (w.alloc (.cells #[.slice a n c] 26 (0, 0))).heap.size := by simp
  have HT0 := Lib.hid ht0
  have HB0 := Lib.hid hb0
  clear ht0 hb0 hc
  go_enter Try.func69, Try.ntmps69
  go_upto_region 1 with fail
  generalize w.alloc (.cells #[.slice a n c] 26 (0, 0)) = wa at HT0 HB0 hs0 ⊢
  have hlta : C < wa.heap.size := by omega
  go_wp2_with fail
  go_loopw [5, 6] (fun v i wr => ∃ (k : Nat) (xs : List Int), 1 ≤ k ∧ k ≤ n + 1 ∧ i = .int .i64 k ∧ xs.length ≤ 3 ∧ Row wa.heap.size wr v xs ∧ Turned B wa wr C) (fun _ i _ => n + 1 - (intOf i).toNat)
  case atStart => exact ⟨1, [], Nat.le_refl _, by omega, rfl, by simp, Row.empty wa _ rfl, (Turned.refl HT0.out.cu).alloc _⟩
  case round =>
    obtain ⟨k, xs, hk1, hk, rfl, hl, hrow, ht⟩ := hrel
    have hbx := box1 ((ht.block (k := w.heap.size) (by omega) (by omega)).trans HB0.out)
    have HR := Lib.hid hrow
    have HT := Lib.hid ht
    clear hrow ht
    by_cases hlk : k < n
    · go_wp2_with fail
      refine (l1Once_e B _ C 2 HT.out.cu).mono ?_
      rintro e w2 ⟨x, rfl, ht2⟩
      have hr2 := HR.out.turned hlta ht2
      have ht2' := HT.out.trans ht2
      have hsz := ht2'.size
      have HR2 := Lib.hid hr2
      have HT2 := Lib.hid ht2'
      have hown : w2.ownsRow wa.heap.size 3 1 _ xs.length (icells xs) := hr2
      obtain ⟨av, cv, rfl, -⟩ := hr2.form
      clear ht2 ht2' hr2 hbx
      cases x
      · go_wp2_with fail
        go_roundw
        case rel => exact ⟨k + 1, xs, by omega, by omega, by go_num, hl, HR2.out, HT2.out⟩
        case measure => simp [intOf]; omega
      · by_cases h3 : xs.length < 3
        · have h3d : decide ((xs.length : Int) < 3) = true := decide_eq_true (by omega)
          go_wp2_with (at_builtin; refine wpList_append_own _ rfl _ _ 29 rfl wa.heap.size 3 i0 (.int .i64 0) 1 8 Try.underlying29 hi hz0 hz1 hz2 rfl (by decide) _ _ _ rfl (hown.alloc _) ⟨w2.heap.size, 0, none⟩ 1 1 (icells [(k : Int)]) rfl rfl (cell_num_put _ _ _) (icells_one _) (by unfold maxLen; omega) (by omega) (by simp; omega) ?_; intro v' w3 hown' hgrow _)
          have hput := Row.put HR2.out hsz _ hown' hgrow
          have htt := HT2.out.put hlta HR2.out _ hgrow
          clear hown' hgrow hown
          go_wp2_with fail
          go_roundw
          case rel => exact ⟨k + 1, xs ++ [(k : Int)], by omega, by omega, by go_num, by rw [List.length_append]; simp; omega, hput.1, htt⟩
          case measure => simp [intOf]; omega
        · have h3d : decide ((xs.length : Int) < 3) = false := decide_eq_false (by omega)
          have h3' : ¬ xs.length < 3 := h3
          go_wp2_with fail
          go_roundw
          case rel => exact ⟨k + 1, xs, by omega, by omega, by go_num, hl, HR2.out, HT2.out⟩
          case measure => simp [intOf]; omega
    · have hge : decide ((k : Int) < (n : Int)) = false := decide_eq_false (by omega)
      go_wp2_with fail
      go_ret
      exact ⟨_, xs, rfl, hl, HR.out.le (by omega), HT0.out.trans HT.out⟩
set_option maxRecDepth 100000 in
theorem l8Any_e (B : Nat) (w : World) (C : Nat) (hc : Cu B w C) (a : Option Addr) (n c : Nat) (hn : n ≤ 1048576) :
    Calls Try.prog 49 #[.pointer (some ⟨C, 0, none⟩), .agg #[.slice a n c]] w (DrewV (fun xs => xs.length ≤ 4) B w C) := by
  obtain ⟨i0, hi, hz0, hz1, hz2⟩ := info_parts Try.infoI64
  have hlt := hc.lt
  have ht0 := (Turned.refl hc).alloc (.cells #[.slice a n c] 26 (0, 0))
  have hs0 : w.heap.size < (w.alloc (.cells #[.slice a n c] 26 (0, 0))).heap.size := by simp
  have HT0 := Lib.hid ht0
  clear ht0 hc
  go_enter Try.func49, Try.ntmps49
  go_wp2_with fail
  generalize w.alloc (.cells #[.slice a n c] 26 (0, 0)) = wa at HT0 hs0 ⊢
  have hlta : C < wa.heap.size := by omega
  refine (l8Cuts_e B wa C HT0.out.cu a n c hn).mono ?_
  rintro e w1 ⟨v, xs, rfl, hl, hrow, ht1⟩
  have hs1 := ht1.size
  have HR1 := Lib.hid hrow
  have HT1 := Lib.hid ht1
  clear hrow ht1
  go_wp2_with fail
  refine (l1Once_e B _ C 12 HT1.out.cu).mono ?_
  rintro e w2 ⟨x, rfl, ht2⟩
  have hr2 := HR1.out.turned hlta ht2
  have ht2' := HT1.out.trans ht2
  have HR2 := Lib.hid hr2
  have HT2 := Lib.hid ht2'
  clear hr2 ht2 ht2'
  cases x
  · go_wp2_with fail
    go_ret
    exact ⟨_, xs, rfl, by omega, HR2.out.le (by omega), HT0.out.trans HT2.out⟩
  · go_wp2_with fail
    refine (l1Below_e B _ C 9 (by omega) HT2.out.cu).mono ?_
    rintro e w3 ⟨y, rfl, ⟨y0, y1⟩, ht3⟩
    have hr3 := HR2.out.turned hlta ht3
    have ht3' := HT2.out.trans ht3
    have hsz := ht3'.size
    have HR3 := Lib.hid hr3
    have HT3 := Lib.hid ht3'
    have hown : w3.ownsRow wa.heap.size 3 1 _ xs.length (icells xs) := hr3
    obtain ⟨av, cv, rfl, -⟩ := hr3.form
    have hwr : wrap64 (y - 1) = y - 1 := IntWalk.wrap64_in _ (by omega)
    clear ht3 ht3' hr3
    go_wp2_with (at_builtin; refine wpList_append_own _ rfl _ _ 29 rfl wa.heap.size 3 i0 (.int .i64 0) 1 8 Try.underlying29 hi hz0 hz1 hz2 rfl (by decide) _ _ _ rfl (hown.alloc _) ⟨w3.heap.size, 0, none⟩ 1 1 (icells [y - 1]) rfl rfl (cell_num_put _ _ _) (icells_one _) (by unfold maxLen; omega) (by omega) (by simp; omega) ?_; intro v' w4 hown' hgrow _)
    have hput := Row.put HR3.out hsz _ hown' hgrow
    have htt := HT3.out.put hlta HR3.out _ hgrow
    clear hown' hgrow hown
    go_wp2_with fail
    go_ret
    exact ⟨_, xs ++ [y - 1], rfl, by show (xs ++ [y - 1]).length ≤ 4; simp; omega, hput.1.le (by omega), HT0.out.trans htt⟩
theorem ListQ.listFrom8 {α : Type} {S : Shape α} {T : TypeId} {lo hi : Nat} {w : World} {v : Value} {xs : List α} (h : ListQ S T lo hi w v xs) : ∃ a cap, v = .slice a xs.length cap ∧ xs.length ≤ cap ∧ cap ≤ 9223372036854775807 ∧ ListAt S (fun b => lo ≤ b ∧ b < hi) w a xs.length xs := by
  obtain ⟨us, h1, h2, h3⟩ := h.all
  have h1' := h1
  rcases h1.2 with ⟨rfl, hn⟩ | ⟨g, cap, cur, rfl, e1, e2, e3, e4, -⟩
  · refine ⟨none, 0, by rw [hn], by omega, by omega, rfl, fun j x hx => ?_⟩
    have := (List.getElem?_eq_some_iff.1 hx).1
    omega
  · unfold maxLen at e4
    refine ⟨_, cap, rfl, e3, by omega, rfl, fun j x hx => ?_⟩
    obtain ⟨es, q1, q2, q3⟩ := h3 j x hx
    have hj : j < xs.length := (List.getElem?_eq_some_iff.1 hx).1
    have hp := place_le (s := S.size) hj
    refine ⟨g, 0, es, rfl, ⟨e1, h2 g rfl⟩, fun i u hu => ?_, S.sub q3 fun b hb => ⟨hb.1, hb.2.1⟩⟩
    have hi := (List.getElem?_eq_some_iff.1 hu).1
    rw [Nat.zero_add, World.ownsRow.cellAt h1' _ (by omega)]
    exact q1 i u hu
/-- One element of a list of one's own. -/
theorem smallM_bulk8 {m : List dOp} (h : SmallM m) (hl : m.length ≤ 9) : shModel.bulk m ≤ 1048576 := by
  have h1 := h.sum
  show (Shape.list shOp).bulk m ≤ 1048576
  have : (Shape.list shOp).bulk m = m.length + Shape.sum shOp.bulk m := rfl
  rw [this]
  have : m.length * 37 ≤ 9 * 37 := Nat.mul_le_mul_right _ hl
  omega
theorem size_set1'' (w : World) (a : Addr) (u : Value) : (w.setCell a u).heap.size = w.heap.size := by simp
theorem Row.stored' {base : Nat} {w : World} {v : Value} {xs : List Int} (h : Row base w v xs) (g : Nat) (hg : g < base) (u : Value) : Row base (w.setCell ⟨g, 0, none⟩ u) v xs :=
  h.kept (grownBy_setCell' w g u) (by
    cases hv : v.ownBlock with
    | none => exact .inl rfl
    | some k => exact .inr fun e => by cases e; have := (h.lt _ hv).1; omega)
/-- A model and cuts were drawn. -/
def DrewModC (w : World) (e : Ending) (w' : World) : Prop := ∃ a n c m ab cb xs, e = .returned (.tuple #[.agg #[.slice a n c], .slice ab xs.length cb]) ∧ (shModel.bulk m ≤ 1048576 ∧ (xs : List Int).length ≤ 4) ∧ shModel.reads (Under w'.heap.size) w' [.slice a n c] m ∧ IntsIn w'.heap.size w' ab xs.length xs ∧ Below w.heap.size w w'
set_option maxRecDepth 100000 in
set_option maxHeartbeats 1600000 in
theorem drawCutsOk_e (w : World) (a : Option Addr) (cap : Nat) (bs : List UInt8) (hc : CodeIn w.heap.size w a bs) :
    Calls Try.prog 22 #[.slice a bs.length cap] w (DrewModC w) := by
  have hal : Below w.heap.size w (w.alloc (.cells #[.slice none 0 0] 26 (0, 0))) := (Below.refl _ _).alloc (Nat.le_refl _) _
  have HC := Lib.hid ((hc.below hal).le hal.size)
  have hb0 := heap_alloc_new w (.cells #[.slice none 0 0] 26 (0, 0))
  have hs0 : (w.alloc (.cells #[.slice none 0 0] 26 (0, 0))).heap.size = w.heap.size + 1 := by simp
  have HA := Lib.hid hal
  have HB0 := Lib.hid hb0
  clear hc hal hb0
  go_enter Try.func22, Try.ntmps22
  go_wp2_with fail
  generalize w.alloc (.cells #[.slice none 0 0] 26 (0, 0)) = wa at HC HA HB0 hs0 ⊢
  refine (l1New_e _ a cap bs HC.out).mono ?_
  rintro e w1 ⟨rfl, hcu, hg1⟩
  have hs1 := hg1.size
  rw [hs0] at hcu
  have hlt := hcu.lt
  have R0 := Lib.hid ((hg1.block w.heap.size (by omega) (fun e => by cases e)).trans HB0.out)
  have HT1 := Lib.hid (HA.out.trans (((Below.refl wa.heap.size wa).grown hg1 (Nat.le_refl _) (fun k h => by cases h)).mono (by omega : w.heap.size ≤ wa.heap.size)))
  clear hg1 HA HB0 HC
  go_wp2_with fail
  refine (l6Any_e _ _ _ hcu).mono ?_
  rintro e w2 ⟨av, n, cv, m, rfl, ⟨n9, hn, hcv1, hcv2, hsm⟩, hli, ht2⟩
  have hs2 := ht2.size
  have hbm := smallM_bulk8 hsm (by omega)
  obtain ⟨a', c', e', -, -, hla⟩ := hli.listFrom8
  simp only [Value.slice.injEq] at e'
  obtain ⟨rfl, -, rfl⟩ := e'
  rw [hn] at hla
  have R02 := Lib.hid ((ht2.block (by omega) (by omega)).trans R0.out)
  have HT2 := Lib.hid (HT1.out.trans (ht2.below (by omega) (by omega)))
  have hrf : Hid (ListAt shOp (fun b => w1.heap.size ≤ b ∧ b < w2.heap.size) w2 av n m) := Lib.hid hla
  have C2 := Lib.hid ht2.cu
  clear R0 HT1 hli hla ht2 hsm
  go_upto_region 3 with fail
  have hal : Below w2.heap.size w2 (w2.alloc (.cells #[.slice av n cv] 26 (0, 0))) := (Below.refl _ _).alloc (Nat.le_refl _) _
  have hbn := heap_alloc_new w2 (.cells #[.slice av n cv] 26 (0, 0))
  have hbs : (w2.alloc (.cells #[.slice av n cv] 26 (0, 0))).heap.size = w2.heap.size + 1 := by simp
  have R03 := Lib.hid ((hal.block _ (by omega)).trans R02.out)
  have HT3 := Lib.hid (HT2.out.trans (hal.mono (by omega)))
  have C3 := Lib.hid (C2.out.below hal)
  have L3 : Hid (ListAt shOp (fun b => w1.heap.size ≤ b ∧ b < w2.heap.size) (w2.alloc (.cells #[.slice av n cv] 26 (0, 0))) av n m) := Lib.hid (ListAt.keep hrf.out fun b hb => hal.block b hb.2)
  clear R02 HT2 C2 hal hrf
  generalize w2.alloc (.cells #[.slice av n cv] 26 (0, 0)) = w3 at hbn hbs R03 HT3 C3 L3 ⊢
  have yb := box1 hbn
  have hdr : Below w3.heap.size w3 w3.drew := (Below.refl _ _).drew
  have hsd : w3.heap.size ≤ w3.drew.heap.size := hdr.size
  have HD := Lib.hid hdr
  have CD := Lib.hid (C3.out.below hdr)
  have XD : Hid (w3.drew.heap[w2.heap.size]? = some (.cells #[.slice av n cv] 26 (0, 0))) := Lib.hid hbn
  have ne1 : ¬ w2.heap.size = w.heap.size := by omega
  have ne2 : ¬ w.heap.size = w2.heap.size := by omega
  clear hdr hbn
  go_region_held3 (fun w' => w'.cell? ⟨w2.heap.size, 0, none⟩ = some (.slice av n cv))
    (first | go_keep | with_reducible assumption)
    (first
      | (go_at_call 49; (with_reducible refine (l8Any_e _ _ _ CD.out av n cv (by omega)).mono ?_); rintro e w4 ⟨vb, xs, rfl, hxl, hrow, ht4⟩; have hs4 := ht4.size; have HR4 := Lib.hid hrow; have HT4 := Lib.hid ht4; have HXL := Lib.hid hxl; have R04 := Lib.hid ((ht4.block (by omega) (by omega)).trans ((HD.out.block _ (by omega)).trans R03.out)); have yb4 := box1 ((ht4.block (by omega) (by omega)).trans XD.out); have p0 := box1 R04.out; have q0 := frozen_of_row w4 w.heap.size 0 _ _ R04.out; clear hrow ht4 hxl))
  go_wp2_with fail
  refine bodyPost_ret (results_row_tmp rfl _ _ w.heap.size 26 #[.slice av n cv] (0, 0) _ rfl ?_ Try.underlying26 rfl (by kernel_rfl)) rfl ?_
  · exact heap_setCell_same w4 w.heap.size 0 _ _ _ R04.out
  obtain ⟨a9, c9, rfl, hi9⟩ := HR4.out.form
  have hx4 : xs.length ≤ 4 := HXL.out
  refine ⟨av, n, cv, m, a9, c9, xs, rfl, ⟨hbm, hx4⟩, ?_, ?_, (HT3.out.trans ((HD.out.mono (by omega : w.heap.size ≤ w3.heap.size)).trans (HT4.out.below (by omega) (by omega)))).setCell (Nat.le_refl _) _⟩
  · refine shModel_reads.2 ⟨av, n, cv, rfl, hcv1, hcv2, ListAt.sub (ListAt.keep (ListAt.keep (ListAt.keep L3.out fun b hb => HD.out.block b (by have := hb.2; omega)) fun b hb => HT4.out.block (by have := hb.2; omega) (by have := hb.1; omega)) fun b hb => heap_setCell_other _ _ _ _ (by show b ≠ w.heap.size; have := hb.1; omega)) fun b hb => ?_⟩
    show b < _
    simp only [size_set1'']
    have := hb.2
    omega
  · have h9 := HR4.out.stored' w.heap.size (by omega) (.slice av n cv)
    obtain ⟨a8, c8, e8, hi8⟩ := h9.form
    cases e8
    exact hi8 (by omega)
end Go.Proofs.Ytkmcfbopilieeaa

end

/-! YtkmcfbopilieeaaCovers -/
section

namespace Go.Proofs.Ytkmcfbopilieeaa
open Go.RowKit Go.Sort
set_option linter.unusedVariables false

/-- How far the first k stages go. -/
def atK (n : Nat) (l : List Int) (k : Nat) : Int := if k ≤ l.length then prevC l k else (n : Int)
theorem atK_in (n : Nat) (l : List Int) {k : Nat} (h : k ≤ l.length) : atK n l k = prevC l k := if_pos h
theorem atK_succ (n : Nat) (l : List Int) {k : Nat} (h : k ≤ l.length) : atK n l (k + 1) = endC n l k := by
  unfold atK endC
  by_cases h1 : k < l.length
  · rw [if_pos (show k + 1 ≤ l.length by omega), if_pos h1, prevC_succ]
  · rw [if_neg (show ¬ k + 1 ≤ l.length by omega), if_neg h1]
theorem atK_end (n : Nat) (l : List Int) : atK n l (l.length + 1) = (n : Int) := if_neg (by omega)
theorem cost_stage {m : List dOp} {l : List Int} {k : Nat} (h : cutsOkB m l = true) (hk : k ≤ l.length) : costC m l (k : Int) = costTo m (atK m.length l (k + 1)).toNat - costTo m (atK m.length l k).toNat := by
  unfold costC
  rw [(stage_j h hk).1, (stage_j h hk).2, atK_succ _ _ hk, atK_in _ _ hk]
theorem sum_le_max {m : List dOp} {l : List Int} (h : cutsOkB m l = true) : ∀ k, k ≤ l.length + 1 → costTo m (atK m.length l k).toNat ≤ maxC m l * (k : Int)
  | 0, _ => by
    rw [atK_in _ _ (Nat.zero_le _), prevC_zero]
    simp [costTo]
  | k + 1, hk => by
    have h1 := sum_le_max h k (by omega)
    have h2 := cost_stage h (show k ≤ l.length by omega)
    have h3 := maxTo_ge m l (show k < l.length + 1 by omega)
    rw [← maxC_yes h] at h3
    have h4 : maxC m l * ((k + 1 : Nat) : Int) = maxC m l * (k : Int) + maxC m l := by push_cast; rw [Int.mul_add, Int.mul_one]
    omega
theorem cover_all {m : List dOp} {l : List Int} (h : cutsOkB m l = true) : costTo m m.length ≤ maxC m l * ((l.length : Int) + 1) := by
  have h1 := sum_le_max h (l.length + 1) (Nat.le_refl _)
  rw [atK_end, Int.toNat_natCast] at h1
  simpa using h1

set_option maxRecDepth 100000 in
set_option maxHeartbeats 6400000 in
theorem lawCovers_small (w : World) (p : Option Addr) (cap : Nat) (bs : List UInt8) (hc : CodeIn w.heap.size w p bs) :
    Calls Try.prog 5 #[.slice p bs.length cap] w fun e w' => e = .returned (.bool true) ∧ Below w.heap.size w w' := by
  have HC0 := Lib.hid hc
  clear hc
  go_enter Try.func5, Try.ntmps5
  go_wp2_with fail
  refine (big_no p cap bs HC0.out.room _).mono ?_
  rintro e w' ⟨rfl, rfl⟩
  go_wp2_with fail
  refine (drawCutsOk_e _ p cap bs HC0.out).mono ?_
  rintro e w1 ⟨a, n, c, m, ab, cb, l, rfl, ⟨hbm, hl4⟩, hrm, hri, hb⟩
  have hs1 := hb.size
  obtain ⟨kk, hkk⟩ : ∃ kk, l.length = kk := ⟨_, rfl⟩
  rw [hkk] at hri hl4 ⊢
  have hal : Below w1.heap.size w1 (w1.alloc (.cells #[.slice a n c] 26 (0, 0))) := (Below.refl _ _).alloc (Nat.le_refl _) _
  have hk := heap_alloc_new w1 (.cells #[.slice a n c] 26 (0, 0))
  have hs2 : w1.heap.size < (w1.alloc (.cells #[.slice a n c] 26 (0, 0))).heap.size := by simp
  obtain ⟨a', n', c', e', g1, g2, hlm⟩ := shModel_reads.1 hrm
  cases e'
  have hbm' : (Shape.list shOp).bulk m ≤ 1048576 := by rw [← shModel_bulk]; exact hbm
  have HL := Lib.hid fun (wx : World) (h : Below w1.heap.size w1 wx) => (hlm.below h (Nat.le_refl _)).le h.size
  have HI := Lib.hid fun (wx : World) (h : Below w1.heap.size w1 wx) => (hri.below h (Nat.le_refl _)).le h.size
  have HN := Lib.hid hlm.1
  have HKK := Lib.hid hkk
  have T1 := Lib.hid hb
  have A2 := Lib.hid hal
  have K2 := Lib.hid hk
  have HBM := Lib.hid hbm'
  clear hrm hri hb hal hk hlm hkk HC0 hbm hbm'
  go_upto_region 4 with fail
  generalize w1.alloc (.cells #[.slice a n c] 26 (0, 0)) = w2 at A2 K2 hs2 ⊢
  obtain ⟨d, hd⟩ : ∃ d, cutsOkB m l = d := ⟨_, rfl⟩
  have HD := Lib.hid hd
  have HI1 := Lib.hid fun (wx : World) (h : Below w1.heap.size w1 wx) => implCutsOk_c wx a n c m (HL.out wx h) g1 g2 HBM.out ab kk cb l (HI.out wx h)
  have HS1 := Lib.hid fun (wx : World) (h : Below w1.heap.size w1 wx) => specCutsOk_c wx a n c m (HL.out wx h) g1 g2 HBM.out ab kk cb l (HI.out wx h)
  have HR1 := Lib.hid fun (wx : World) (s : Int) (h : Below w1.heap.size w1 wx) => implStageRange_c wx a n c m (HL.out wx h) g1 g2 HBM.out ab kk cb l (HI.out wx h) s
  have HC1 := Lib.hid fun (wx : World) (s : Int) (h : Below w1.heap.size w1 wx) => implStageCost_c wx a n c m (HL.out wx h) g1 g2 HBM.out ab kk cb l (HI.out wx h) s
  have HM1 := Lib.hid fun (wx : World) (h : Below w1.heap.size w1 wx) => implMaxCost_c wx a n c m (HL.out wx h) g1 g2 HBM.out ab kk cb l (HI.out wx h)
  obtain ⟨M, hM⟩ : ∃ M, maxC m l = M := ⟨_, rfl⟩
  have HMM := Lib.hid hM
  simp only [hd] at HI1 HS1
  simp only [hM] at HM1
  clear hd hM
  have hdd : (d != d) = false := by simp
  have kb := cell_regrown (box1 K2.out)
  have cC1 := fun q os => Calls.regrown_of (w := w2) (d := q) (os := os) (HI1.out _ (A2.out.trans ((below_regrown w2 q os).mono A2.out.size)))
  have cC2 := fun q os => Calls.regrown_of (w := w2) (d := q) (os := os) (HS1.out _ (A2.out.trans ((below_regrown w2 q os).mono A2.out.size)))
  have CC1 := Lib.hid cC1
  have CC2 := Lib.hid cC2
  clear cC1 cC2
  refine wp_region_quiet_below (by kernel_rfl) (by kernel_rfl) ?_
  repeat (go_big_quiet_step (with_reducible first | exact CC1.out _ _ | exact CC2.out _ _))
  refine wpQuiet_nil ?_
  intro _ hw'
  obtain ⟨⟨dq, osq⟩, hw''⟩ := hw'
  subst hw''
  have hwq := below_regrown w2 dq osq
  generalize grow (redrawn w2 dq) osq = w3 at hwq ⊢
  have T3 := Lib.hid (A2.out.trans (hwq.mono A2.out.size))
  have K3 := Lib.hid ((hwq.block w1.heap.size hs2).trans K2.out)
  have hs3 : w1.heap.size < w3.heap.size := Nat.lt_of_lt_of_le hs2 hwq.size
  clear hwq CC1 CC2 kb K2 HI1
  have z3 := box1 K3.out
  have HC := Lib.hid (HS1.out w3 T3.out)
  go_wp2_with fail
  refine HC.out.mono ?_
  rintro e w4 ⟨rfl, hb⟩
  have hs4 : w1.heap.size < w4.heap.size := Nat.lt_of_lt_of_le hs3 hb.size
  have T4 := Lib.hid (T3.out.trans (hb.mono T3.out.size))
  have K4 := Lib.hid ((hb.block w1.heap.size hs3).trans K3.out)
  clear hb z3 HC K3
  have z4 := box1 K4.out
  cases d
  · have hst := stage_no (stageB_l (s := 0) HD.out)
    obtain rfl : M = 0 := by rw [← HMM.out]; exact maxC_no HD.out
    have hC := HR1.out w4 0 T4.out
    rw [hst.1, hst.2] at hC
    have HC := Lib.hid hC
    clear hC hst
    go_wp2_with fail
    refine HC.out.mono ?_
    rintro e w5 ⟨rfl, hb⟩
    have z5 := box1 ((hb.block w1.heap.size hs4).trans K4.out)
    have T5 := Lib.hid (T4.out.trans (hb.mono T4.out.size))
    have HE := Lib.hid (HM1.out w5 T5.out)
    clear hb HC z4
    go_wp2_with fail
    refine HE.out.mono ?_
    rintro e w6 ⟨rfl, hb⟩
    have T6 := Lib.hid (T1.out.trans ((T5.out.trans (hb.mono T5.out.size)).mono hs1))
    clear hb
    go_wp2_with fail
    go_ret
    exact ⟨rfl, T6.out⟩
  · obtain ⟨hmo, hn1, hn8, -, hln⟩ := cutsOk_has HD.out
    rw [HN.out] at hn1 hn8 hln
    rw [HKK.out] at hln
    have HMO := Lib.hid hmo
    have hM0 : 0 ≤ M ∧ M ≤ 288 := by rw [← HMM.out]; exact maxC_in m l
    clear hmo z4
    go_wp2_with fail
    go_loopw [7, 8, 9] (fun f s i wr => ∃ j : Nat, j ≤ kk + 1 ∧ i = .int .i64 j ∧ f = .int .i64 (atK n l j) ∧ s = .int .i64 (costTo m (atK n l j).toNat) ∧ Below w4.heap.size w4 wr) (fun _ _ i _ => kk + 1 - (intOf i).toNat)
    case atStart =>
      have h0 : atK n l 0 = 0 := atK_in _ _ (Nat.zero_le _)
      exact ⟨0, Nat.zero_le _, rfl, by rw [h0], by rw [h0]; rfl, Below.refl _ _⟩
    case round =>
      obtain ⟨j, hj, rfl, rfl, rfl, hbw⟩ := hrel
      have hsz := hbw.size
      have TR := Lib.hid (T4.out.trans (hbw.mono T4.out.size))
      have KR := Lib.hid ((hbw.block w1.heap.size hs4).trans K4.out)
      have HBW := Lib.hid hbw
      have hsr : w1.heap.size < wr.heap.size := Nat.lt_of_lt_of_le hs4 hsz
      obtain ⟨F, hF⟩ : ∃ F, atK n l j = F := ⟨_, rfl⟩
      obtain ⟨S, hS⟩ : ∃ S, costTo m F.toNat = S := ⟨_, rfl⟩
      rw [hF, hS]
      by_cases hlt : j ≤ kk
      · have hle : decide ((j : Int) ≤ (kk : Int)) = true := decide_eq_true (by omega)
        obtain ⟨E, hE⟩ : ∃ E, atK n l (j + 1) = E := ⟨_, rfl⟩
        obtain ⟨C, hC⟩ : ∃ C, costC m l (j : Int) = C := ⟨_, rfl⟩
        have hst := stage_j HD.out (show j ≤ l.length by rw [HKK.out]; exact hlt)
        have hin := endC_in HD.out j (by rw [HKK.out]; exact hlt)
        have hpr := prevC_le HD.out j (by rw [HKK.out]; exact hlt)
        have hcs := cost_stage HD.out (show j ≤ l.length by rw [HKK.out]; exact hlt)
        have hge := maxTo_ge m l (show j < l.length + 1 by rw [HKK.out]; omega)
        rw [← maxC_yes HD.out, HMM.out, hC] at hge
        rw [HN.out, hE, hF, hC] at hcs
        rw [← atK_in n l (show j ≤ l.length by rw [HKK.out]; exact hlt), HN.out, ← atK_succ n l (show j ≤ l.length by rw [HKK.out]; exact hlt), hF, hE] at hst hin
        rw [← atK_in n l (show j ≤ l.length by rw [HKK.out]; exact hlt), hF, HN.out] at hpr
        have hS0 := costTo_in m F.toNat
        have hS1 := costTo_in m E.toNat
        rw [hS] at hS0
        have hR := HR1.out wr (j : Int) TR.out
        rw [hst.1, hst.2] at hR
        have HR := Lib.hid hR
        have hEF : decide (E ≤ F) = false := decide_eq_false (by omega)
        have hCM : decide (C > M) = false := decide_eq_false (by omega)
        have hFF : (F != F) = false := by simp
        have HNX : Hid (costTo m (atK n l (j + 1)).toNat = S + C) := Lib.hid (by rw [hE, hcs]; omega)
        have HE := Lib.hid hE
        have hw0 : S + C ≤ 288 := by omega
        have hw1 : 0 ≤ S + C := by omega
        have HCC := Lib.hid fun (wx : World) (h : Below w1.heap.size w1 wx) => HC1.out wx (j : Int) h
        simp only [hC] at HCC
        have z0 := box1 KR.out
        clear hst hin hpr hcs hge hS0 hS1 hR hF hE hS hC hbw
        go_wp2_with fail
        refine HR.out.mono ?_
        rintro e w5 ⟨rfl, hb⟩
        have hs5 : w1.heap.size < w5.heap.size := Nat.lt_of_lt_of_le hsr hb.size
        have T5 := Lib.hid (TR.out.trans (hb.mono TR.out.size))
        have K5 := Lib.hid ((hb.block w1.heap.size hsr).trans KR.out)
        have B5 := Lib.hid (HBW.out.trans (hb.mono hsz))
        clear hb z0 HR
        go_upto_region 15 with fail
        have kb := cell_regrown (box1 K5.out)
        have cC1 := fun q os => Calls.regrown_of (w := w5) (d := q) (os := os) (HCC.out _ (T5.out.trans ((below_regrown w5 q os).mono T5.out.size)))
        have cC2 := fun q os => Calls.regrown_of (w := w5) (d := q) (os := os) (HM1.out _ (T5.out.trans ((below_regrown w5 q os).mono T5.out.size)))
        have CC1 := Lib.hid cC1
        have CC2 := Lib.hid cC2
        clear cC1 cC2
        refine wp_region_quiet_below (by kernel_rfl) (by kernel_rfl) ?_
        repeat (go_big_quiet_step (with_reducible first | exact CC1.out _ _ | exact CC2.out _ _))
        refine wpQuiet_nil ?_
        intro _ hw'
        obtain ⟨⟨dq, osq⟩, hw''⟩ := hw'
        subst hw''
        have hwq := below_regrown w5 dq osq
        generalize grow (redrawn w5 dq) osq = w6 at hwq ⊢
        have T6 := Lib.hid (T5.out.trans (hwq.mono T5.out.size))
        have B6 := Lib.hid (B5.out.trans (hwq.mono B5.out.size))
        have z6 := box1 ((hwq.block w1.heap.size hs5).trans K5.out)
        have HC := Lib.hid (HCC.out w6 T6.out)
        clear hwq CC1 CC2 kb
        go_wp2_with fail
        refine HC.out.mono ?_
        rintro e w7 ⟨rfl, hb⟩
        have B7 := Lib.hid (B6.out.trans (hb.mono B6.out.size))
        clear hb z6
        go_wp2_with fail
        go_roundw
        case rel => exact ⟨j + 1, by omega, by go_num, by rw [HE.out], by rw [HNX.out], B7.out⟩
        case measure => simp [intOf]; omega
      · have hle : decide ((j : Int) ≤ (kk : Int)) = false := decide_eq_false (by omega)
        have hjk : j = kk + 1 := by omega
        obtain rfl : F = (n : Int) := by
          have := atK_end n l
          rw [HKK.out, ← hjk] at this
          rw [← hF, this]
        have hSn : costTo m n = S := hS
        have HSN := Lib.hid hSn
        clear hF hS hSn hbw hjk hj
        obtain ⟨wo, rfl⟩ : ∃ y, y = wr := ⟨_, rfl⟩
        have hcv := cover_all HD.out
        rw [HMM.out, HKK.out, HN.out, HSN.out] at hcv
        have hP1 : M * ((kk : Int) + 1) ≤ 288 * 5 := Int.mul_le_mul hM0.2 (by omega) (by omega) (by omega)
        have hP0 : 0 ≤ M * ((kk : Int) + 1) := Int.mul_nonneg hM0.1 (by omega)
        have hPw : wrap64 (M * ((kk : Int) + 1)) = M * ((kk : Int) + 1) := IntWalk.wrap64_in _ (by omega)
        have hPd : decide (M * ((kk : Int) + 1) ≥ S) = true := decide_eq_true hcv
        obtain ⟨P, hP⟩ : ∃ P, M * ((kk : Int) + 1) = P := ⟨_, rfl⟩
        have hPS : decide (P ≥ S) = true := by rw [← hP]; exact hPd
        have HPW : Hid (wrap64 (M * ((kk : Int) + 1)) = P) := Lib.hid (by rw [hPw, hP])
        clear hcv hPw hPd hP0 hP1 hP
        go_wp2_with fail
        go_loopw [12, 13] (fun s i wr => ∃ q : Nat, q ≤ n ∧ i = .int .i64 q ∧ s = .int .i64 (costTo m q) ∧ Below wo.heap.size wo wr) (fun _ i _ => n - (intOf i).toNat)
        case atStart => exact ⟨0, Nat.zero_le _, rfl, rfl, Below.refl _ _⟩
        case round =>
          obtain ⟨q, hq, rfl, rfl, hbq⟩ := hrel
          have hszq := hbq.size
          have TQ := Lib.hid (TR.out.trans (hbq.mono TR.out.size))
          have z0 := box1 ((hbq.block w1.heap.size hsr).trans KR.out)
          obtain ⟨U, hU⟩ : ∃ U, costTo m q = U := ⟨_, rfl⟩
          have hU0 : 0 ≤ U ∧ U ≤ 36 * 8 := by
            have := costTo_in m q
            omega
          rw [hU]
          by_cases hltq : q < n
          · obtain ⟨x, hx⟩ : ∃ x, m[q]? = some x := ⟨_, List.getElem?_eq_getElem (by rw [HN.out]; exact hltq)⟩
            obtain ⟨b, o, es, rfl, hbB, hr, hs⟩ := (HL.out wr TQ.out).2 q x hx
            have hbx' : shOp.bulk x ≤ 1048576 := by
              have h1 := bulk_mem shOp.bulk m q x hx
              have h2 := HBM.out
              have h3 : (Shape.list shOp).bulk m = m.length + Shape.sum shOp.bulk m := rfl
              omega
            rw [shOp_bulk, bulk_ints] at hbx'
            obtain ⟨ae, ne, ce, rfl, ge, le, me⟩ := shOp_reads.1 hs
            have hT := implOpCost_any wr x.1 x.2.1 x.2.2.1 ae ne ce x.2.2.2 (me.ints (by rw [← me.1]; exact hbx')) ge le
            obtain ⟨C, hC⟩ : ∃ C, opCostN x.1 x.2.1 x.2.2.1 x.2.2.2 = C := ⟨_, rfl⟩
            have hC0 : 0 ≤ C ∧ C ≤ 36 := by rw [← hC]; exact opC_in x
            rw [hC] at hT
            have HT := Lib.hid hT
            have HNX : Hid (costTo m (q + 1) = U + C) := Lib.hid (by
              have h1 : opC x = C := hC
              rw [fill_model hx, h1, hU])
            rw [shOp_size] at hr
            have c0 := hr 0 _ rfl
            have c1 := hr 1 _ rfl
            have c2 := hr 2 _ rfl
            have c3 := hr 3 _ rfl
            simp only [Nat.add_zero] at c0
            have HBQ := Lib.hid hbq
            clear hr hs me hx hbx' hbq hT hC hU
            go_wp2_with fail
            refine HT.out.mono ?_
            rintro e w2' ⟨rfl, hb⟩
            have HW2 := Lib.hid (HBQ.out.trans (hb.mono HBQ.out.size))
            clear hb c0 c1 c2 c3 z0
            go_wp2_with fail
            go_roundw
            case rel => exact ⟨q + 1, by omega, by go_num, by rw [HNX.out], HW2.out⟩
            case measure => simp [intOf]; omega
          · obtain rfl : q = n := by omega
            obtain rfl : U = S := by rw [← hU, HSN.out]
            have HMX := Lib.hid (HM1.out wr TQ.out)
            have hPW := HPW.out
            clear hbq hU
            go_wp2_with fail
            refine HMX.out.mono ?_
            rintro e w8 ⟨rfl, hb⟩
            have T8 := Lib.hid (T1.out.trans ((TQ.out.trans (hb.mono TQ.out.size)).mono hs1))
            clear hb
            go_wp2_with fail
            go_ret
            exact ⟨rfl, T8.out⟩
theorem lawCovers_big (w : World) (a : Option Addr) (len cap : Nat) (hm : len ≤ 9223372036854775807) (hbig : 1048576 < len) :
    Calls Try.prog 5 #[.slice a len cap] w fun e w' => e = .returned (.bool true) ∧ Below w.heap.size w w' := by
  go_enter Try.func5, Try.ntmps5
  go_wp2_with fail
  refine (big_yes a len cap hbig hm _).mono ?_
  rintro e w' ⟨rfl, rfl⟩
  go_wp2_with fail
  go_ret
  exact ⟨rfl, Below.refl _ _⟩
theorem lawCovers (w : World) (a : Option Addr) (len cap : Nat) (hm : len ≤ 9223372036854775807)
    (hb : ∃ bs : List UInt8, bs.length = len ∧ ∀ j (hj : j < bs.length), ∃ b o, a = some ⟨b, o, none⟩ ∧ b < w.heap.size ∧ w.cell? ⟨b, o + j, none⟩ = some (.int .u8 (bs[j].toNat : Int))) :
    Calls Try.prog 5 #[.slice a len cap] w fun e w' => e = .returned (.bool true) ∧ Below w.heap.size w w' :=
  law_of _ w a len cap hm hb (lawCovers_big w a len cap hm) (fun bs hc => lawCovers_small w a cap bs hc)
end Go.Proofs.Ytkmcfbopilieeaa

end

/-! YtkmcfbopilieeaaIntRow -/
section

namespace Go.Proofs.Ytkmcfbopilieeaa
open Go.RowKit
set_option linter.unusedVariables false

/-- What is told of a row that came in. -/
def CameIn (W : World) (a : Option Addr) (len : Nat) : Prop := ∃ xs : List Int, xs.length = len ∧ ∀ j, j < len → ∃ b o, a = some ⟨b, o, none⟩ ∧ b < W.heap.size ∧ W.cell? ⟨b, o + j, none⟩ = some (.int .i64 (xs.getD j 0))
theorem cameIn_nil (W : World) : CameIn W none 0 := ⟨[], rfl, fun j hj => absurd hj (Nat.not_lt_zero _)⟩
theorem cameIn_row (W : World) (x : Addr) (len : Nat) (zs : List Int) (hl : len ≤ zs.length) (hcell : ∀ i, i < zs.length → W.cell? (x.add i) = some (.int .i64 (zs.getD i 0))) : CameIn W (some x) len := by
  refine ⟨zs.take len, by simp [hl], fun j hj => ?_⟩
  obtain ⟨b, off, spot⟩ := x
  have hc := hcell j (by omega)
  have hspot : spot = none := by
    have := World.cell?_spot (hcell 0 (by omega))
    simpa [Addr.add] using this
  subst hspot
  rw [Addr.add_lit] at hc
  refine ⟨b, off, rfl, World.block_lt_of_cell? W _ hc, ?_⟩
  rw [hc]
  simp [List.getD, hj]
end Go.Proofs.Ytkmcfbopilieeaa

end
