/-
  What is let in: the model's sizes (mkadms.py).
-/
import Derived.Test.YtkflinobmagiiaaJoin34
import Derived.Test.YtkflinobmagiiaaJoin32
import Derived.Test.YtkflinobmagiiaaJoin35
import Derived.Lib.QuietBelow
import Derived.Deep.QuietTactic
import Derived.BigQuiet
namespace Go.Proofs.Ytkflinobmagiiaa
open Go.RowKit Go.Sort
set_option linter.unusedVariables false
set_option linter.unusedSimpArgs false

theorem conf_in {w : World} {es : List Value} {m : List dOp} {l : List Int} {ds : Int} {r : List Bool} {cp lm : List Int} (h : shConfig.reads (Under w.heap.size) w es (m, l, ds, r, cp, lm)) (hb : shConfig.bulk (m, l, ds, r, cp, lm) ≤ 1048576) :
    ∃ a0 n0 c0 a1 n1 c1 a2 n2 c2 a3 n3 c3 a4 n4 c4, es = [.slice a0 n0 c0, .slice a1 n1 c1, .int .i64 ds, .slice a2 n2 c2, .slice a3 n3 c3, .slice a4 n4 c4] ∧ n0 ≤ c0 ∧ c0 ≤ 9223372036854775807 ∧ ListAt shOp (Under w.heap.size) w a0 n0 m ∧ (Shape.list shOp).bulk m ≤ 1048576 ∧ IntsIn w.heap.size w a1 n1 l ∧ (n2 ≤ 1048576 ∧ ListAt Shape.bool (Under w.heap.size) w a2 n2 r) ∧ IntsIn w.heap.size w a3 n3 cp ∧ IntsIn w.heap.size w a4 n4 lm := by
  obtain ⟨a0, n0, c0, a1, n1, c1, a2, n2, c2, a3, n3, c3, a4, n4, c4, rfl, ⟨p0, q0, l0⟩, ⟨p1, q1, l1⟩, ⟨p2, q2, l2⟩, ⟨p3, q3, l3⟩, ⟨p4, q4, l4⟩⟩ := shConfig_reads.1 h
  rw [shConfig_bulk] at hb
  dsimp only at hb l0 l1 l2 l3 l4
  rw [bulk_ints, bulk_ints, bulk_ints, bulk_bools, l1.1, l2.1, l3.1, l4.1] at hb
  exact ⟨_, _, _, _, _, _, _, _, _, _, _, _, _, _, _, rfl, p0, q0, l0, by omega, l1.ints (by omega), ⟨by omega, l2⟩, l3.ints (by omega), l4.ints (by omega)⟩
theorem box6 {w : World} {g : Nat} {x0 x1 x2 x3 x4 x5 : Value} {T : TypeId} (h : w.heap[g]? = some (.cells #[x0, x1, x2, x3, x4, x5] T (0, 0))) :
    w.cell? ⟨g, 0, none⟩ = some x0 ∧ w.cell? ⟨g, 1, none⟩ = some x1 ∧ w.cell? ⟨g, 2, none⟩ = some x2 ∧ w.cell? ⟨g, 3, none⟩ = some x3 ∧ w.cell? ⟨g, 4, none⟩ = some x4 ∧ w.cell? ⟨g, 5, none⟩ = some x5 :=
  ⟨by rw [cell_of_row _ _ _ _ _ _ h]; rfl, by rw [cell_of_row _ _ _ _ _ _ h]; rfl, by rw [cell_of_row _ _ _ _ _ _ h]; rfl, by rw [cell_of_row _ _ _ _ _ _ h]; rfl, by rw [cell_of_row _ _ _ _ _ _ h]; rfl, by rw [cell_of_row _ _ _ _ _ _ h]; rfl⟩
/-- The sizes of one operation. -/
theorem op_szA {I : Nat → Prop} {w : World} {a : Option Addr} {n : Nat} {l : List dOp} (h : ListAt shOp I w a n l) (j : Nat) (hj : j < n) :
    ∃ b o, a = some ⟨b, o, none⟩ ∧ I b ∧ w.cell? ⟨b, o + j * 4 + 1, none⟩ = some (.int .i64 (opAt l j).2.1) ∧ w.cell? ⟨b, o + j * 4 + 2, none⟩ = some (.int .i64 (opAt l j).2.2.1) := by
  obtain ⟨x, hx⟩ : ∃ x, l[j]? = some x := ⟨_, List.getElem?_eq_getElem (by rw [h.1]; exact hj)⟩
  obtain ⟨b, o, es, e, hb, hr, hs⟩ := h.2 j x hx
  obtain ⟨ax, nx, cx, rfl, -⟩ := shOp_reads.1 hs
  rw [opAt_get hx]
  refine ⟨b, o, e, hb, ?_, ?_⟩
  · have := hr 1 _ rfl
    simpa [shOp_size] using this
  · have := hr 2 _ rfl
    simpa [shOp_size] using this
set_option maxRecDepth 100000 in
set_option maxHeartbeats 3200000 in
theorem specStagesOf_d (w : World) (es : List Value) (x : dConfig) (h : shConfig.reads (Under w.heap.size) w es x) (hb : shConfig.bulk x ≤ 1048576) :
    Calls Try.prog 18 #[.agg es.toArray] w fun e w' => e = .returned ((.int .i64 (stagesN x.1 x.2.1))) ∧ Below w.heap.size w w' := by
  obtain ⟨m, l, ds, r, cp, lm⟩ := x
  obtain ⟨a0, n0, c0, a1, n1, c1, a2, n2, c2, a3, n3, c3, a4, n4, c4, rfl, hp, hq, hm, hbm, hl, ⟨hr0, hr⟩, hcp, hlm⟩ := conf_in h hb
  dsimp only
  have hal : Below w.heap.size w (w.alloc (.cells #[.slice a0 n0 c0, .slice a1 n1 c1, .int .i64 ds, .slice a2 n2 c2, .slice a3 n3 c3, .slice a4 n4 c4] 30 (0, 0))) := (Below.refl _ _).alloc (Nat.le_refl _) _
  have hb0 := heap_alloc_new w (.cells #[.slice a0 n0 c0, .slice a1 n1 c1, .int .i64 ds, .slice a2 n2 c2, .slice a3 n3 c3, .slice a4 n4 c4] 30 (0, 0))
  have hs0 : (w.alloc (.cells #[.slice a0 n0 c0, .slice a1 n1 c1, .int .i64 ds, .slice a2 n2 c2, .slice a3 n3 c3, .slice a4 n4 c4] 30 (0, 0))).heap.size = w.heap.size + 1 := by simp
  have HRD := Lib.hid fun (wx : World) (hx : Below w.heap.size w wx) => Shape.le _ (Shape.below _ h hx (Nat.le_refl _)) hx.size
  have HBK := Lib.hid hb
  have HMM := Lib.hid fun (wx : World) (hx : Below w.heap.size w wx) => (hm.below hx (Nat.le_refl _)).le hx.size
  have HLL := Lib.hid fun (wx : World) (hx : Below w.heap.size w wx) => (hl.below hx (Nat.le_refl _)).le hx.size
  have HMN := Lib.hid hm.1
  have HM := Lib.hid hm
  have HR := Lib.hid hr
  have HLN := Lib.hid hl.len
  have HA := Lib.hid hal
  have HB0 := Lib.hid hb0
  have hn1 : n1 ≤ 1048576 := hl.room
  have hn2 := hr0
  clear hal hb0 hr0
  have HC := Lib.hid fun (wx : World) (hx : Below w.heap.size w wx) => specCutsOk_c wx a0 n0 c0 m ((hm.below hx (Nat.le_refl _)).le hx.size) hp hq hbm a1 n1 c1 l ((hl.below hx (Nat.le_refl _)).le hx.size)
  obtain ⟨R, hR⟩ : ∃ R, cutsOkB m l = R := ⟨_, rfl⟩
  have hS : stagesN m l = if R = true then (n1 : Int) + 1 else 0 := by unfold stagesN; rw [hR, hl.len]
  simp only [hR] at HC
  rw [hS]
  clear h hb hm hbm hl hr hcp hlm hp hq
  clear hR hS HRD HMM HLL HM HR
  go_enter Try.func18, Try.ntmps18
  go_upto_region 1 with fail
  generalize w.alloc (.cells #[.slice a0 n0 c0, .slice a1 n1 c1, .int .i64 ds, .slice a2 n2 c2, .slice a3 n3 c3, .slice a4 n4 c4] 30 (0, 0)) = wa at HA HB0 hs0 ⊢
  obtain ⟨z0, z1, -, -, -, -⟩ := box6 HB0.out
  go_wp2_with fail
  refine (HC.out wa HA.out).mono ?_
  rintro e w1 ⟨rfl, hb⟩
  clear z0 z1
  obtain ⟨-, z1, -, -, -, -⟩ := box6 ((hb.block w.heap.size (by omega)).trans HB0.out)
  have HB := Lib.hid (HA.out.trans (hb.mono HA.out.size))
  clear hb
  cases R
  all_goals
    go_wp2_with fail
    go_ret
    exact ⟨rfl, HB.out⟩
set_option maxRecDepth 100000 in
set_option maxHeartbeats 3200000 in
theorem specFullWords_d (w : World) (es : List Value) (x : dConfig) (h : shConfig.reads (Under w.heap.size) w es x) (hb : shConfig.bulk x ≤ 1048576) (s : Int) :
    Calls Try.prog 23 #[.agg es.toArray, .int .i64 s] w fun e w' => e = .returned ((.int .i64 (fullN x.1 x.2.1 s))) ∧ Below w.heap.size w w' := by
  obtain ⟨m, l, ds, r, cp, lm⟩ := x
  obtain ⟨a0, n0, c0, a1, n1, c1, a2, n2, c2, a3, n3, c3, a4, n4, c4, rfl, hp, hq, hm, hbm, hl, ⟨hr0, hr⟩, hcp, hlm⟩ := conf_in h hb
  dsimp only
  have hal : Below w.heap.size w (w.alloc (.cells #[.slice a0 n0 c0, .slice a1 n1 c1, .int .i64 ds, .slice a2 n2 c2, .slice a3 n3 c3, .slice a4 n4 c4] 30 (0, 0))) := (Below.refl _ _).alloc (Nat.le_refl _) _
  have hb0 := heap_alloc_new w (.cells #[.slice a0 n0 c0, .slice a1 n1 c1, .int .i64 ds, .slice a2 n2 c2, .slice a3 n3 c3, .slice a4 n4 c4] 30 (0, 0))
  have hs0 : (w.alloc (.cells #[.slice a0 n0 c0, .slice a1 n1 c1, .int .i64 ds, .slice a2 n2 c2, .slice a3 n3 c3, .slice a4 n4 c4] 30 (0, 0))).heap.size = w.heap.size + 1 := by simp
  have HRD := Lib.hid fun (wx : World) (hx : Below w.heap.size w wx) => Shape.le _ (Shape.below _ h hx (Nat.le_refl _)) hx.size
  have HBK := Lib.hid hb
  have HMM := Lib.hid fun (wx : World) (hx : Below w.heap.size w wx) => (hm.below hx (Nat.le_refl _)).le hx.size
  have HLL := Lib.hid fun (wx : World) (hx : Below w.heap.size w wx) => (hl.below hx (Nat.le_refl _)).le hx.size
  have HMN := Lib.hid hm.1
  have HM := Lib.hid hm
  have HR := Lib.hid hr
  have HLN := Lib.hid hl.len
  have HA := Lib.hid hal
  have HB0 := Lib.hid hb0
  have hn1 : n1 ≤ 1048576 := hl.room
  have hn2 := hr0
  clear hal hb0 hr0
  obtain ⟨f, t, ef, et, hok⟩ := range_ok m l s
  have HC := Lib.hid fun (wx : World) (hx : Below w.heap.size w wx) => specStageRange_c wx a0 n0 c0 m ((hm.below hx (Nat.le_refl _)).le hx.size) hp hq hbm a1 n1 c1 l ((hl.below hx (Nat.le_refl _)).le hx.size) s
  simp only [ef, et] at HC
  have hft := hok.le
  have htn : t ≤ n0 := by rw [← hm.1]; exact hok.top
  have hn0 : n0 ≤ 1048576 := by rw [bulk_list shOp hm] at hbm; omega
  have HOK := Lib.hid hok
  have hv : fullN m l s = fullT m f t := by unfold fullN; rw [ef, et, Int.toNat_natCast, Int.toNat_natCast]
  rw [hv]
  clear h hb hm hbm hl hr hcp hlm hp hq
  clear hok ef et hv HRD HLL HMM HR
  go_enter Try.func23, Try.ntmps23
  go_upto_region 1 with fail
  generalize w.alloc (.cells #[.slice a0 n0 c0, .slice a1 n1 c1, .int .i64 ds, .slice a2 n2 c2, .slice a3 n3 c3, .slice a4 n4 c4] 30 (0, 0)) = wa at HA HB0 hs0 ⊢
  obtain ⟨z0, z1, -, -, -, -⟩ := box6 HB0.out
  go_wp2_with fail
  refine (HC.out wa HA.out).mono ?_
  rintro e w1 ⟨rfl, hb⟩
  clear z0 z1
  have hs1 := hb.size
  have HB1 := Lib.hid ((hb.block w.heap.size (by omega)).trans HB0.out)
  have HW1 := Lib.hid (HA.out.trans (hb.mono HA.out.size))
  clear hb
  go_wp2_with fail
  go_loopw [7, 8] (fun q i wr => ∃ k : Nat, f ≤ k ∧ k ≤ t ∧ i = .int .i64 k ∧ q = .int .i64 (inTo m k - inTo m f) ∧ Below w1.heap.size w1 wr) (fun _ i _ => t - (intOf i).toNat)
  case atStart => exact ⟨f, Nat.le_refl _, hft, rfl, by simp, Below.refl _ _⟩
  case round =>
    obtain ⟨k, hk1, hk, rfl, rfl, hbw⟩ := hrel
    have hsz := hbw.size
    have hbx := ((hbw.block w.heap.size (by omega)).trans HB1.out)
    have hww : Below w.heap.size w wr := HW1.out.trans (hbw.mono HW1.out.size)
    obtain ⟨z0, -⟩ := box6 hbx
    obtain ⟨S, hS⟩ : ∃ S, inTo m k - inTo m f = S := ⟨_, rfl⟩
    by_cases hkt : k < t
    · have hth := HOK.out.there (by omega)
      have hS0 := inTo_in (f := f) hth.2.1 k hk1 (by have := HOK.out.top; omega)
      have hS1 := inTo_in (f := f) hth.2.1 (k + 1) (by omega) (by have := HOK.out.top; omega)
      have h8 := hth.2.2.1
      have htp := HOK.out.top
      rw [hS] at hS0
      obtain ⟨I, hI⟩ : ∃ I, (opAt m k).2.1 = I := ⟨_, rfl⟩
      have hSI : inTo m (k + 1) - inTo m f = S + I := by rw [inTo_succ, hI]; omega
      rw [hSI] at hS1
      obtain ⟨b, o, rfl, hbB, hc1, -⟩ := op_szA HM.out k (by omega)
      rw [hI] at hc1
      have c1 := (hww.cell (p := ⟨b, o + k * 4 + 1, none⟩) hbB).trans hc1
      have hw0 : wrap64 (S + I) = S + I := IntWalk.wrap64_in _ (by omega)
      have HSI := Lib.hid hSI
      have HBW := Lib.hid hbw
      have hkn : k < n0 := by omega
      rw [hS]
      clear hth hS0 hS1 hS hI hSI hc1 hbw hww hbx h8 htp
      go_wp2_with fail
      go_roundw
      case rel => exact ⟨k + 1, by omega, by omega, by go_num, by rw [HSI.out, hw0], HBW.out⟩
      case measure => simp [intOf]; omega
    · obtain rfl : k = t := by omega
      by_cases hlt : f < k
      · have hth := HOK.out.there hlt
        have hsz2 := HOK.out.sizes
        have hS0 := inTo_in (f := f) hth.2.1 k hk1 HOK.out.top
        have h8 := hth.2.2.1
        have htp := HOK.out.top
        rw [hS] at hS0
        obtain ⟨O, hO⟩ : ∃ O, (opAt m (k - 1)).2.2.1 = O := ⟨_, rfl⟩
        have hR : fullT m f k = S + O := by unfold fullT outF; rw [if_pos hlt, hS, hO]
        rw [hR] at hsz2
        have HRE := Lib.hid hR
        obtain ⟨b, o, rfl, hbB, -, hc2⟩ := op_szA HM.out (k - 1) (by omega)
        rw [hO] at hc2
        obtain ⟨j, hj⟩ : ∃ j, k - 1 = j := ⟨_, rfl⟩
        rw [hj] at hc2
        have c2 := (hww.cell (p := ⟨b, o + j * 4 + 2, none⟩) hbB).trans hc2
        have hw0 : wrap64 (S + O) = S + O := IntWalk.wrap64_in _ (by omega)
        have hw1 : wrap64 ((k : Int) - 1) = (j : Int) := by rw [IntWalk.wrap64_in _ (by omega)]; omega
        have hw2 : IntKind.i64.wrap ((k : Int) - 1) = (j : Int) := by rw [IntKind.wrap_i64]; omega
        have hjn : j < n0 := by omega
        have hg : decide ((k : Int) > (f : Int)) = true := decide_eq_true (by omega)
        have HWW := Lib.hid hww
        rw [hS]
        clear hth hS0 hS hO hR hc2 hbw hww hbx h8 htp hj hsz2
        go_wp2_with fail
        go_ret
        exact ⟨by rw [HRE.out, hw0]; rfl, HWW.out⟩
      · obtain rfl : f = k := by omega
        obtain rfl : S = 0 := by omega
        have hR : fullT m f f = 0 := by simp [fullT, outF]
        have HRE := Lib.hid hR
        have hg : decide ((f : Int) > (f : Int)) = false := decide_eq_false (by omega)
        have HWW := Lib.hid hww
        rw [hS]
        clear hS hR hbw hww hbx
        go_wp2_with fail
        go_ret
        exact ⟨by rw [HRE.out]; rfl, HWW.out⟩
set_option maxRecDepth 100000 in
set_option maxHeartbeats 3200000 in
theorem specSavedWords_d (w : World) (es : List Value) (x : dConfig) (h : shConfig.reads (Under w.heap.size) w es x) (hb : shConfig.bulk x ≤ 1048576) (s : Int) :
    Calls Try.prog 22 #[.agg es.toArray, .int .i64 s] w fun e w' => e = .returned ((.int .i64 (savedN x.1 x.2.1 x.2.2.2.1 s))) ∧ Below w.heap.size w w' := by
  obtain ⟨m, l, ds, r, cp, lm⟩ := x
  obtain ⟨a0, n0, c0, a1, n1, c1, a2, n2, c2, a3, n3, c3, a4, n4, c4, rfl, hp, hq, hm, hbm, hl, ⟨hr0, hr⟩, hcp, hlm⟩ := conf_in h hb
  dsimp only
  have hal : Below w.heap.size w (w.alloc (.cells #[.slice a0 n0 c0, .slice a1 n1 c1, .int .i64 ds, .slice a2 n2 c2, .slice a3 n3 c3, .slice a4 n4 c4] 30 (0, 0))) := (Below.refl _ _).alloc (Nat.le_refl _) _
  have hb0 := heap_alloc_new w (.cells #[.slice a0 n0 c0, .slice a1 n1 c1, .int .i64 ds, .slice a2 n2 c2, .slice a3 n3 c3, .slice a4 n4 c4] 30 (0, 0))
  have hs0 : (w.alloc (.cells #[.slice a0 n0 c0, .slice a1 n1 c1, .int .i64 ds, .slice a2 n2 c2, .slice a3 n3 c3, .slice a4 n4 c4] 30 (0, 0))).heap.size = w.heap.size + 1 := by simp
  have HRD := Lib.hid fun (wx : World) (hx : Below w.heap.size w wx) => Shape.le _ (Shape.below _ h hx (Nat.le_refl _)) hx.size
  have HBK := Lib.hid hb
  have HMM := Lib.hid fun (wx : World) (hx : Below w.heap.size w wx) => (hm.below hx (Nat.le_refl _)).le hx.size
  have HLL := Lib.hid fun (wx : World) (hx : Below w.heap.size w wx) => (hl.below hx (Nat.le_refl _)).le hx.size
  have HMN := Lib.hid hm.1
  have HM := Lib.hid hm
  have HR := Lib.hid hr
  have HLN := Lib.hid hl.len
  have HA := Lib.hid hal
  have HB0 := Lib.hid hb0
  have hn1 : n1 ≤ 1048576 := hl.room
  have hn2 := hr0
  clear hal hb0 hr0
  obtain ⟨f, t, ef, et, hok⟩ := range_ok m l s
  have HC := Lib.hid fun (wx : World) (hx : Below w.heap.size w wx) => specStageRange_c wx a0 n0 c0 m ((hm.below hx (Nat.le_refl _)).le hx.size) hp hq hbm a1 n1 c1 l ((hl.below hx (Nat.le_refl _)).le hx.size) s
  simp only [ef, et] at HC
  have hft := hok.le
  have htn : t ≤ n0 := by rw [← hm.1]; exact hok.top
  have hn0 : n0 ≤ 1048576 := by rw [bulk_list shOp hm] at hbm; omega
  have HOK := Lib.hid hok
  have hv : savedN m l r s = savedT m (redoB r s) f t := by unfold savedN; rw [ef, et, Int.toNat_natCast, Int.toNat_natCast]
  have hfv : fullN m l s = fullT m f t := by unfold fullN; rw [ef, et, Int.toNat_natCast, Int.toNat_natCast]
  have HFW := Lib.hid fun (wx : World) (hx : Below w.heap.size w wx) => specFullWords_d wx _ _ (Shape.le _ (Shape.below _ h hx (Nat.le_refl _)) hx.size) hb s
  dsimp only at HFW
  simp only [hfv] at HFW
  obtain ⟨V, hV⟩ : ∃ V, fullT m f t = V := ⟨_, rfl⟩
  simp only [hV] at HFW
  have HV := Lib.hid hV
  rw [hv]
  have HRL := Lib.hid hr.1
  clear h hb hm hbm hl hr hcp hlm hp hq
  clear hok ef et hv hfv hV HRD HLL HMM
  go_enter Try.func22, Try.ntmps22
  go_upto_region 1 with fail
  generalize w.alloc (.cells #[.slice a0 n0 c0, .slice a1 n1 c1, .int .i64 ds, .slice a2 n2 c2, .slice a3 n3 c3, .slice a4 n4 c4] 30 (0, 0)) = wa at HA HB0 hs0 ⊢
  obtain ⟨z0, z1, -, -, -, -⟩ := box6 HB0.out
  go_wp2_with fail
  refine (HC.out wa HA.out).mono ?_
  rintro e w1 ⟨rfl, hb⟩
  clear z0 z1
  have hs1 := hb.size
  obtain ⟨z0, z1, z2, z3, z4, z5⟩ := box6 ((hb.block w.heap.size (by omega)).trans HB0.out)
  have HW1 := Lib.hid (HA.out.trans (hb.mono HA.out.size))
  have HF1 := Lib.hid (HFW.out w1 HW1.out)
  clear hb
  by_cases hlt : f < t
  · have hg : decide ((t : Int) > (f : Int)) = true := decide_eq_true (by omega)
    have hth := HOK.out.there hlt
    obtain ⟨j, rfl⟩ : ∃ j : Nat, s = j := ⟨s.toNat, by omega⟩
    clear hth
    by_cases hj : j < n2
    · have hd : decide ((j : Int) < (n2 : Int)) = true := decide_eq_true (by omega)
      have hrd : redoB r (j : Int) = r.getD j false := by unfold redoB; rw [inB_yes (by omega) (by rw [HRL.out]; omega), Int.toNat_natCast]; rfl
      obtain ⟨b, o, rfl, hbB, hc0⟩ := HR.out.mark j hj
      obtain ⟨X, hX⟩ : ∃ X, r.getD j false = X := ⟨_, rfl⟩
      rw [hX] at hc0 hrd
      have HRD := Lib.hid hrd
      have c0 := (HW1.out.cell (p := ⟨b, o + j, none⟩) hbB).trans hc0
      clear hX hrd hc0
      cases X
      · have HRE := Lib.hid (show savedT m (redoB r (j : Int)) f t = V by rw [HRD.out]; exact HV.out)
        go_wp2_with fail
        refine HF1.out.mono ?_
        rintro e w2 ⟨rfl, hb2⟩
        have HW2 := Lib.hid (HW1.out.trans (hb2.mono HW1.out.size))
        clear hb2
        go_wp2_with fail
        go_ret
        exact ⟨by rw [HRE.out]; rfl, HW2.out⟩
      · have hR : savedT m (redoB r (j : Int)) f t = (opAt m f).2.1 := by rw [HRD.out]; exact if_pos hlt
        obtain ⟨b', o', rfl, hbB', hc1, -⟩ := op_szA HM.out f (by omega)
        obtain ⟨I, hI⟩ : ∃ I, (opAt m f).2.1 = I := ⟨_, rfl⟩
        rw [hI] at hc1 hR
        have c1 := (HW1.out.cell (p := ⟨b', o' + f * 4 + 1, none⟩) hbB').trans hc1
        have HRE := Lib.hid hR
        have hfn : f < n0 := by omega
        clear hR hI hc1
        go_wp2_with fail
        go_ret
        exact ⟨by rw [HRE.out]; rfl, HW1.out⟩
    · have hd : decide ((j : Int) < (n2 : Int)) = false := decide_eq_false (by omega)
      have hrd : redoB r (j : Int) = false := by unfold redoB; rw [inB_no (by rw [HRL.out]; omega)]; rfl
      have hR : savedT m (redoB r (j : Int)) f t = V := by rw [hrd]; exact HV.out
      have HRE := Lib.hid hR
      clear hR hrd
      go_wp2_with fail
      refine HF1.out.mono ?_
      rintro e w2 ⟨rfl, hb2⟩
      have HW2 := Lib.hid (HW1.out.trans (hb2.mono HW1.out.size))
      clear hb2
      go_wp2_with fail
      go_ret
      exact ⟨by rw [HRE.out]; rfl, HW2.out⟩
  · have hg : decide ((t : Int) > (f : Int)) = false := decide_eq_false (by omega)
    have hR : savedT m (redoB r s) f t = V := by
      rw [← HV.out]
      obtain rfl : f = t := by omega
      unfold savedT
      simp [fullT, inF, outF]
    have HRE := Lib.hid hR
    clear hR
    go_wp2_with fail
    refine HF1.out.mono ?_
    rintro e w2 ⟨rfl, hb2⟩
    have HW2 := Lib.hid (HW1.out.trans (hb2.mono HW1.out.size))
    clear hb2
    go_wp2_with fail
    go_ret
    exact ⟨by rw [HRE.out]; rfl, HW2.out⟩
end Go.Proofs.Ytkflinobmagiiaa
