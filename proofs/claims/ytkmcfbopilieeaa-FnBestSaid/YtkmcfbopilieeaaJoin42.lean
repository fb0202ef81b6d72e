import Derived.Test.YtkmcfbopilieeaaJoin33
import Derived.Test.YtkmcfbopilieeaaJoin40
import Derived.Test.YtkmcfbopilieeaaJoin41
import Derived.Test.YtkmcfbopilieeaaJoin13
import Derived.Lib.QuietBelow
import Derived.Test.YtkmcfbopilieeaaJoin9
/-! YtkmcfbopilieeaaBest -/
section

namespace Go.Proofs.Ytkmcfbopilieeaa
open Go.RowKit Go.Sort
set_option linter.unusedVariables false

/-- What the best is: none is less, and those before it are more. -/
theorem best_least (m : List dOp) (s : Int) : ∀ k, 1 ≤ k → bestI m s k < k ∧ ∀ j, j < k → maxC m (wayAt m.length s (bestI m s k)) ≤ maxC m (wayAt m.length s j) ∧ (j < bestI m s k → maxC m (wayAt m.length s (bestI m s k)) < maxC m (wayAt m.length s j))
  | 0, h => absurd h (by omega)
  | 1, _ => by
    have e : bestI m s 1 = 0 := by
      show (if _ then 0 else bestI m s 0) = 0
      split <;> rfl
    rw [e]
    refine ⟨by omega, fun j hj => ?_⟩
    obtain rfl : j = 0 := by omega
    exact ⟨Int.le_refl _, fun h => absurd h (by omega)⟩
  | k + 2, _ => by
    have ih := best_least m s (k + 1) (by omega)
    have e : bestI m s (k + 2) = if maxC m (wayAt m.length s (k + 1)) < maxC m (wayAt m.length s (bestI m s (k + 1))) then k + 1 else bestI m s (k + 1) := rfl
    rw [e]
    by_cases h : maxC m (wayAt m.length s (k + 1)) < maxC m (wayAt m.length s (bestI m s (k + 1)))
    · rw [if_pos h]
      refine ⟨by omega, fun j hj => ?_⟩
      by_cases hjk : j < k + 1
      · have := (ih.2 j hjk).1
        exact ⟨by omega, fun _ => by omega⟩
      · obtain rfl : j = k + 1 := by omega
        exact ⟨Int.le_refl _, fun h => absurd h (by omega)⟩
    · rw [if_neg h]
      refine ⟨by omega, fun j hj => ?_⟩
      by_cases hjk : j < k + 1
      · exact ih.2 j hjk
      · obtain rfl : j = k + 1 := by omega
        exact ⟨by omega, fun h => absurd h (by omega)⟩

/-- A model and a number were drawn. -/
def DrewModY (w : World) (e : Ending) (w' : World) : Prop := ∃ a n c m y, e = .returned (.tuple #[.agg #[.slice a n c], .int .i64 y]) ∧ (shModel.bulk m ≤ 1048576 ∧ 0 ≤ y ∧ y < 6) ∧ shModel.reads (Under w'.heap.size) w' [.slice a n c] m ∧ Below w.heap.size w w'
set_option maxRecDepth 100000 in
set_option maxHeartbeats 1600000 in
theorem drawBestCuts_e (w : World) (a : Option Addr) (cap : Nat) (bs : List UInt8) (hc : CodeIn w.heap.size w a bs) :
    Calls Try.prog 13 #[.slice a bs.length cap] w (DrewModY w) := by
  have hal : Below w.heap.size w (w.alloc (.cells #[.slice none 0 0] 26 (0, 0))) := (Below.refl _ _).alloc (Nat.le_refl _) _
  have HC := Lib.hid ((hc.below hal).le hal.size)
  have hb0 := heap_alloc_new w (.cells #[.slice none 0 0] 26 (0, 0))
  have hs0 : (w.alloc (.cells #[.slice none 0 0] 26 (0, 0))).heap.size = w.heap.size + 1 := by simp
  have HA := Lib.hid hal
  have HB0 := Lib.hid hb0
  clear hc hal hb0
  go_enter Try.func13, Try.ntmps13
  go_wp2_with fail
  generalize w.alloc (.cells #[.slice none 0 0] 26 (0, 0)) = wa at HC HA HB0 hs0 ⊢
  refine (l1New_e _ a cap bs HC.out).mono ?_
  rintro e w1 ⟨rfl, hcu, hg1⟩
  have hs1 := hg1.size
  rw [hs0] at hcu
  have hlt := hcu.lt
  have R0 := Lib.hid ((hg1.block w.heap.size (by omega) (fun e => by cases e)).trans HB0.out)
  have HT1 := Lib.hid (HA.out.trans (((Below.refl wa.heap.size wa).grown hg1 (Nat.le_refl _) (fun k h => by cases h)).mono (by omega : w.heap.size ≤ wa.heap.size)))
  clear hg1 HA HB0 HC
  go_wp2_with fail
  refine (l6Any_e _ _ _ hcu).mono ?_
  rintro e w2 ⟨av, n, cv, m, rfl, ⟨n9, hn, hcv1, hcv2, hsm⟩, hli, ht2⟩
  have hs2 := ht2.size
  have hbm := smallM_bulk8 hsm (by omega)
  obtain ⟨a', c', e', -, -, hla⟩ := hli.listFrom8
  simp only [Value.slice.injEq] at e'
  obtain ⟨rfl, -, rfl⟩ := e'
  rw [hn] at hla
  have R02 := Lib.hid ((ht2.block (by omega) (by omega)).trans R0.out)
  have HT2 := Lib.hid (HT1.out.trans (ht2.below (by omega) (by omega)))
  have hrf : Hid (ListAt shOp (fun b => w1.heap.size ≤ b ∧ b < w2.heap.size) w2 av n m) := Lib.hid hla
  have C2 := Lib.hid ht2.cu
  clear R0 HT1 hli hla ht2 hsm
  go_upto_region 3 with fail
  have hal : Below w2.heap.size w2 (w2.alloc (.cells #[.slice av n cv] 26 (0, 0))) := (Below.refl _ _).alloc (Nat.le_refl _) _
  have hbn := heap_alloc_new w2 (.cells #[.slice av n cv] 26 (0, 0))
  have hbs : (w2.alloc (.cells #[.slice av n cv] 26 (0, 0))).heap.size = w2.heap.size + 1 := by simp
  have R03 := Lib.hid ((hal.block _ (by omega)).trans R02.out)
  have HT3 := Lib.hid (HT2.out.trans (hal.mono (by omega)))
  have C3 := Lib.hid (C2.out.below hal)
  have L3 : Hid (ListAt shOp (fun b => w1.heap.size ≤ b ∧ b < w2.heap.size) (w2.alloc (.cells #[.slice av n cv] 26 (0, 0))) av n m) := Lib.hid (ListAt.keep hrf.out fun b hb => hal.block b hb.2)
  clear R02 HT2 C2 hal hrf
  generalize w2.alloc (.cells #[.slice av n cv] 26 (0, 0)) = w3 at hbn hbs R03 HT3 C3 L3 ⊢
  have yb := box1 hbn
  have hdr : Below w3.heap.size w3 w3.drew := (Below.refl _ _).drew
  have hsd : w3.heap.size ≤ w3.drew.heap.size := hdr.size
  have HD := Lib.hid hdr
  have CD := Lib.hid (C3.out.below hdr)
  have XD : Hid (w3.drew.heap[w2.heap.size]? = some (.cells #[.slice av n cv] 26 (0, 0))) := Lib.hid hbn
  have ne1 : ¬ w2.heap.size = w.heap.size := by omega
  have ne2 : ¬ w.heap.size = w2.heap.size := by omega
  clear hdr hbn
  go_region_held3 (fun w' => w'.cell? ⟨w2.heap.size, 0, none⟩ = some (.slice av n cv))
    (first | go_keep | with_reducible assumption)
    (first
      | (go_at_call 44; (with_reducible refine (l1Below_e _ _ _ 6 (by omega) CD.out).mono ?_); rintro e w4 ⟨y, rfl, hy, ht4⟩; have hs4 := ht4.size; have HT4 := Lib.hid ht4; have HXL := Lib.hid hy; have R04 := Lib.hid ((ht4.block (by omega) (by omega)).trans ((HD.out.block _ (by omega)).trans R03.out)); have yb4 := box1 ((ht4.block (by omega) (by omega)).trans XD.out); have p0 := box1 R04.out; have q0 := frozen_of_row w4 w.heap.size 0 _ _ R04.out; clear ht4 hy))
  go_wp2_with fail
  refine bodyPost_ret (results_row_tmp rfl _ _ w.heap.size 26 #[.slice av n cv] (0, 0) _ rfl ?_ Try.underlying26 rfl (by kernel_rfl)) rfl ?_
  · exact heap_setCell_same w4 w.heap.size 0 _ _ _ R04.out
  refine ⟨av, n, cv, m, y, rfl, ⟨hbm, HXL.out.1, HXL.out.2⟩, ?_, (HT3.out.trans ((HD.out.mono (by omega : w.heap.size ≤ w3.heap.size)).trans (HT4.out.below (by omega) (by omega)))).setCell (Nat.le_refl _) _⟩
  · refine shModel_reads.2 ⟨av, n, cv, rfl, hcv1, hcv2, ListAt.sub (ListAt.keep (ListAt.keep (ListAt.keep L3.out fun b hb => HD.out.block b (by have := hb.2; omega)) fun b hb => HT4.out.block (by have := hb.2; omega) (by have := hb.1; omega)) fun b hb => heap_setCell_other _ _ _ _ (by show b ≠ w.heap.size; have := hb.1; omega)) fun b hb => ?_⟩
    show b < _
    simp only [size_set1'']
    have := hb.2
    omega
/-- The law, at a code that isn't too long. -/
theorem bestB_no {m : List dOp} {s : Int} (h : bestB m s = false) : bestC m s = [] := by
  unfold bestC
  rw [h]
  rfl
set_option maxRecDepth 100000 in
set_option maxHeartbeats 6400000 in
theorem lawBest_small (w : World) (p : Option Addr) (cap : Nat) (bs : List UInt8) (hc : CodeIn w.heap.size w p bs) :
    Calls Try.prog 3 #[.slice p bs.length cap] w fun e w' => e = .returned (.bool true) ∧ Below w.heap.size w w' := by
  have HC0 := Lib.hid hc
  clear hc
  go_enter Try.func3, Try.ntmps3
  go_wp2_with fail
  refine (big_no p cap bs HC0.out.room _).mono ?_
  rintro e w' ⟨rfl, rfl⟩
  go_wp2_with fail
  refine (drawBestCuts_e _ p cap bs HC0.out).mono ?_
  rintro e w1 ⟨a, n, c, m, k, rfl, ⟨hbm, k0, k6⟩, hrm, hb⟩
  have hs1 := hb.size
  have hal : Below w1.heap.size w1 (w1.alloc (.cells #[.slice a n c] 26 (0, 0))) := (Below.refl _ _).alloc (Nat.le_refl _) _
  have hk := heap_alloc_new w1 (.cells #[.slice a n c] 26 (0, 0))
  have hs2 : w1.heap.size < (w1.alloc (.cells #[.slice a n c] 26 (0, 0))).heap.size := by simp
  obtain ⟨a', n', c', e', g1, g2, hlm⟩ := shModel_reads.1 hrm
  cases e'
  have hbm' : (Shape.list shOp).bulk m ≤ 1048576 := by rw [← shModel_bulk]; exact hbm
  have HL := Lib.hid fun (wx : World) (h : Below w1.heap.size w1 wx) => (hlm.below h (Nat.le_refl _)).le h.size
  have HN := Lib.hid hlm.1
  have T1 := Lib.hid hb
  have A2 := Lib.hid hal
  have K2 := Lib.hid hk
  have HBM := Lib.hid hbm'
  clear hrm hb hal hk hlm HC0 hbm hbm'
  go_upto_region 4 with fail
  generalize w1.alloc (.cells #[.slice a n c] 26 (0, 0)) = w2 at A2 K2 hs2 ⊢
  obtain ⟨d, hd⟩ : ∃ d, bestB m k = d := ⟨_, rfl⟩
  obtain ⟨l, hl⟩ : ∃ l, bestC m k = l := ⟨_, rfl⟩
  obtain ⟨nl, hnl⟩ : ∃ nl, l.length = nl := ⟨_, rfl⟩
  have HC := Lib.hid (implBestCuts_o w2 a n c m (HL.out w2 A2.out) g1 g2 HBM.out k)
  rw [hd, hl] at HC
  have HD := Lib.hid hd
  have HLL := Lib.hid hl
  have HNL := Lib.hid hnl
  have hn7 : nl ≤ 7 := by
    rw [← hnl, ← hl]
    unfold bestC
    split
    · exact way_short _ _ _
    · simp
  have z2 := box1 K2.out
  clear hd hl hnl
  go_wp2_with fail
  refine HC.out.mono ?_
  rintro e w3 ⟨v, rfl, hrow, hb⟩
  have hs3 : w1.heap.size < w3.heap.size := Nat.lt_of_lt_of_le hs2 hb.size
  obtain ⟨al, cl, rfl, -⟩ := hrow.form
  rw [HNL.out] at hrow ⊢
  have T3 := Lib.hid (A2.out.trans (hb.mono A2.out.size))
  have K3 := Lib.hid ((hb.block w1.heap.size hs2).trans K2.out)
  have I3 := Lib.hid (hrow.ints HNL.out (by omega))
  clear hb hrow z2 HC K2 A2
  have HMO := Lib.hid fun (wx : World) (h : Below w1.heap.size w1 wx) => specModelOk_c wx a n c m (HL.out wx h) g1 g2 HBM.out
  obtain ⟨mo, hmo⟩ : ∃ mo, modelOkB m = mo := ⟨_, rfl⟩
  simp only [hmo] at HMO
  have HC := Lib.hid (HMO.out w3 T3.out)
  have z3 := box1 K3.out
  by_cases hok : mo = true ∧ 1 ≤ k ∧ k ≤ (n : Int)
  · obtain ⟨rfl, h1k, hkn⟩ := hok
    obtain ⟨s, rfl⟩ : ∃ s : Nat, k = s := ⟨k.toNat, by omega⟩
    have hbb : bestB m (s : Int) = true := by
      unfold bestB inB
      rw [hmo, HN.out]
      simp
      omega
    obtain rfl : d = true := by rw [← HD.out, hbb]
    have hm8 := cutsOk_has (m := m) (l := []) (by unfold cutsOkB; rw [hmo]; rfl)
    rw [HN.out] at hm8
    have s1 : 1 ≤ s := by omega
    have sn : s ≤ n := by omega
    have n8 : n ≤ 8 := hm8.2.2.1
    obtain ⟨N, hN⟩ : ∃ N, (ways n s).length = N := ⟨_, rfl⟩
    have hw := ways_at s1 sn n8
    have hwy := waysI_yes s1 sn n8
    obtain ⟨b, hbi⟩ : ∃ b, bestI m s N = b := ⟨_, rfl⟩
    have hN1 := hw.some
    have hN35 := hw.few
    rw [hN] at hN1 hN35
    have hlb : l = wayAt n s b := by
      rw [← HLL.out]
      unfold bestC
      rw [if_pos hbb, HN.out, hwy, hN, hbi]
    have hbl := best_least m s N hN1
    rw [hbi, HN.out, ← hlb] at hbl
    have hbg := wayAt_get s1 sn n8 (show b < (ways n s).length by rw [hN]; exact hbl.1)
    rw [← hlb] at hbg
    have hlen := hw.len b l hbg
    rw [HNL.out] at hlen
    have hcl : cutsOkB m l = true := by
      unfold cutsOkB
      rw [hmo, HN.out, hlen.2]
      rfl
    obtain ⟨Mb, hMb⟩ : ∃ Mb, maxC m l = Mb := ⟨_, rfl⟩
    rw [hMb] at hbl
    have HBL := Lib.hid hbl
    have HHN := Lib.hid hN
    have HWY := Lib.hid hwy
    have HLB := Lib.hid hlb
    have HCW := Lib.hid fun (x : List Int) (hx : cutsB n x = true) => (show cutsOkB m x = true by unfold cutsOkB; rw [hmo, HN.out, hx]; rfl)
    have HW := Lib.hid hw
    obtain rfl : nl = s - 1 := hlen.1
    have hgk : decide ((s : Int) ≥ 1) = true := decide_eq_true (by omega)
    have hlk : decide ((s : Int) ≤ (n : Int)) = true := decide_eq_true (by omega)
    have hsw : wrap64 ((s : Int) - 1) = ((s - 1 : Nat) : Int) := by rw [IntWalk.wrap64_in _ (by omega)]; omega
    have hss : (((s - 1 : Nat) : Int) != ((s - 1 : Nat) : Int)) = false := by simp
    have HCL := Lib.hid fun (wx : World) (h : Below w3.heap.size w3 wx) => specCutsOk_c wx a n c m (HL.out wx (T3.out.trans (h.mono T3.out.size))) g1 g2 HBM.out al (s - 1) cl l ((I3.out.below h (Nat.le_refl _)).le h.size)
    have HML := Lib.hid fun (wx : World) (h : Below w3.heap.size w3 wx) => specMaxCost_c wx a n c m (HL.out wx (T3.out.trans (h.mono T3.out.size))) g1 g2 HBM.out al (s - 1) cl l ((I3.out.below h (Nat.le_refl _)).le h.size)
    have HMI := Lib.hid fun (wx : World) (h : Below w3.heap.size w3 wx) => implMaxCost_c wx a n c m (HL.out wx (T3.out.trans (h.mono T3.out.size))) g1 g2 HBM.out al (s - 1) cl l ((I3.out.below h (Nat.le_refl _)).le h.size)
    simp only [hcl] at HCL
    simp only [hMb] at HML HMI
    have HALL := Lib.hid fun (wx : World) => implAllCuts_o wx n s
    simp only [hwy] at HALL
    clear hbb hm8 hw hwy hlb hbl hbg hlen hcl hN hbi hMb HD hmo k0 k6 h1k hkn
    go_wp2_with fail
    refine HC.out.mono ?_
    rintro e w4 ⟨rfl, hb⟩
    have B4 := Lib.hid hb
    have z4 := box1 ((hb.block w1.heap.size hs3).trans K3.out)
    have hs4 := hb.size
    have HC4 := Lib.hid (HCL.out w4 hb)
    clear hb z3 HC
    go_wp2_with fail
    refine HC4.out.mono ?_
    rintro e w5 ⟨rfl, hb⟩
    have B5 := Lib.hid (B4.out.trans (hb.mono hs4))
    have z5 := box1 ((B5.out.block w1.heap.size hs3).trans K3.out)
    have hs5 := B5.out.size
    clear hb z4 HC4
    go_wp2_with fail
    refine (HALL.out w5).mono ?_
    rintro e w6 ⟨v, rfl, hlist, hb⟩
    have B6 := Lib.hid (B5.out.trans (hb.mono hs5))
    have z6 := box1 ((B6.out.block w1.heap.size hs3).trans K3.out)
    obtain ⟨av, cv, rfl, -, -, -⟩ := hlist.list (by decide)
    rw [HHN.out]
    have HLI := Lib.hid hlist
    rw [HHN.out] at HLI
    have hs6 := B6.out.size
    have HC6 := Lib.hid (HML.out w6 B6.out)
    clear hb z5 hlist
    go_wp2_with fail
    refine HC6.out.mono ?_
    rintro e w7 ⟨rfl, hb⟩
    have hs7 := hb.size
    have B7 := Lib.hid (B6.out.trans (hb.mono hs6))
    have L7 := Lib.hid hb
    clear hb z6 HC6
    go_wp2_with fail
    go_loopw [9, 10] (fun t i wr => ∃ (q : Nat) (bh : Bool), q ≤ N ∧ i = .int .i64 q ∧ t = .bool bh ∧ (b < q → bh = true) ∧ Below w7.heap.size w7 wr) (fun _ i _ => N - (intOf i).toNat)
    case atStart => exact ⟨0, false, Nat.zero_le _, rfl, rfl, fun h => absurd h (by omega), Below.refl _ _⟩
    case round =>
      obtain ⟨q, bh, hq, rfl, rfl, hbh, hbq⟩ := hrel
      have BQ := Lib.hid (B7.out.trans (hbq.mono (by omega)))
      have LQ := Lib.hid (L7.out.trans (hbq.mono hs7))
      have HQ := Lib.hid hbq
      have HBH := Lib.hid hbh
      have hsq := hbq.size
      have KQ := Lib.hid ((BQ.out.block w1.heap.size hs3).trans K3.out)
      have hsw1 : w1.heap.size < wr.heap.size := by omega
      clear hbq hbh
      by_cases hqn : q < N
      · have hqd : decide ((q : Int) < (N : Int)) = true := decide_eq_true (by omega)
        obtain ⟨x, hx⟩ : ∃ x, (ways n s)[q]? = some x := ⟨_, List.getElem?_eq_getElem (by rw [HHN.out]; exact hqn)⟩
        have hxl := HW.out.len q x hx
        have hxw : wayAt n s q = x := by
          have h1 := wayAt_get s1 sn n8 (show q < (ways n s).length by rw [HHN.out]; exact hqn)
          rw [hx] at h1
          exact (Option.some.inj h1).symm
        have hle := HBL.out.2 q hqn
        rw [hxw] at hle
        obtain ⟨C, hC⟩ : ∃ C, maxC m x = C := ⟨_, rfl⟩
        have hcx := HCW.out x hxl.2
        have hqb : q = b → x = l := fun h => by rw [HLB.out, ← h, hxw]
        obtain ⟨g, ax, nx, cx, rfl, -, -, hg, hce, hxi⟩ := HLI.out.at8 q x hx (by omega)
        have hnx : nx = s - 1 := hxi.len.symm.trans hxl.1
        rw [hnx] at hce hxi
        have hxl7 : x.length = s - 1 := hxl.1
        have HMX := Lib.hid fun (wx : World) (h : Below w6.heap.size w6 wx) => specMaxCost_c wx a n c m (HL.out wx (T3.out.trans ((B6.out.trans (h.mono hs6)).mono T3.out.size))) g1 g2 HBM.out ax (s - 1) cx x ((hxi.below h (Nat.le_refl _)).le h.size)
        have HCX := Lib.hid fun (wx : World) (h : Below w6.heap.size w6 wx) => specCutsOk_c wx a n c m (HL.out wx (T3.out.trans ((B6.out.trans (h.mono hs6)).mono T3.out.size))) g1 g2 HBM.out ax (s - 1) cx x ((hxi.below h (Nat.le_refl _)).le h.size)
        have HSX := Lib.hid fun (wx : World) (h : Below w6.heap.size w6 wx) => sameInts_any wx ax (s - 1) cx x al (s - 1) cl l ((hxi.below h (Nat.le_refl _)).le h.size) ((I3.out.below (B6.out.trans (h.mono hs6)) (Nat.le_refl _)).le (B6.out.trans (h.mono hs6)).size)
        rw [hC] at hle
        simp only [hC] at HMX
        simp only [hcx] at HCX
        have HCE := Lib.hid fun (wx : World) (h : Below w6.heap.size w6 wx) => (h.cell (p := ⟨g, q, none⟩) hg).trans hce
        have kx := HCE.out wr LQ.out
        have HLE := Lib.hid hle
        have HQB := Lib.hid hqb
        have hcm : decide (C < Mb) = false := decide_eq_false (by omega)
        obtain ⟨ee, hee⟩ : ∃ ee, decide (x = l) = ee := ⟨_, rfl⟩
        simp only [hee] at HSX
        have HEE := Lib.hid hee
        clear hx hxl hxw hle hC hcx hqb hce hxi hnx hxl7 hee
        go_upto_region 17 with fail
        have kb := cell_regrown (box1 KQ.out)
        have kc := cell_regrown kx
        have cC1 := fun q os => Calls.regrown_of (w := wr) (d := q) (os := os) (HMX.out _ (LQ.out.trans ((below_regrown wr q os).mono LQ.out.size)))
        have CC1 := Lib.hid cC1
        clear cC1
        refine wp_region_quiet_below (by kernel_rfl) (by kernel_rfl) ?_
        repeat (go_big_quiet_step (with_reducible exact CC1.out _ _))
        refine wpQuiet_nil ?_
        intro _ hw'
        obtain ⟨⟨dq, osq⟩, hw''⟩ := hw'
        subst hw''
        have hwq := below_regrown wr dq osq
        generalize grow (redrawn wr dq) osq = wa at hwq ⊢
        have Q8 := Lib.hid (HQ.out.trans (hwq.mono hsq))
        have L8 := Lib.hid (LQ.out.trans (hwq.mono LQ.out.size))
        have K8 := Lib.hid ((hwq.block w1.heap.size hsw1).trans KQ.out)
        have hsa := hwq.size
        clear hwq CC1 kb kc kx
        have kx := HCE.out wa L8.out
        have HC8 := Lib.hid (HSX.out wa L8.out)
        go_wp2_with fail
        refine HC8.out.mono ?_
        rintro e wb ⟨rfl, hb⟩
        have hsb := hb.size
        have Q9 := Lib.hid (Q8.out.trans (hb.mono (by omega)))
        have L9 := Lib.hid (L8.out.trans (hb.mono L8.out.size))
        have K9 := Lib.hid ((hb.block w1.heap.size (by omega)).trans K8.out)
        have hsw9 : w1.heap.size < wb.heap.size := by omega
        clear hb kx HC8
        by_cases hcb : C = Mb
        · have hce1 : (C == Mb) = true := by simp [hcb]
          cases ee
          · have hbh : bh = true := by
              have h1 := of_decide_eq_false HEE.out
              have h2 : ¬ q < b := fun h => by have := HLE.out.2 h; omega
              have h3 : ¬ q = b := fun h => h1 (HQB.out h)
              exact HBH.out (by omega)
            obtain rfl := hbh
            have kx := HCE.out wb L9.out
            go_upto_region 20 with fail
            have kb := cell_regrown (box1 K9.out)
            have kc := cell_regrown kx
            have cC1 := fun q os => Calls.regrown_of (w := wb) (d := q) (os := os) (HCX.out _ (L9.out.trans ((below_regrown wb q os).mono L9.out.size)))
            have CC1 := Lib.hid cC1
            clear cC1
            refine wp_region_quiet_below (by kernel_rfl) (by kernel_rfl) ?_
            repeat (go_big_quiet_step (with_reducible exact CC1.out _ _))
            refine wpQuiet_nil ?_
            intro _ hw'
            obtain ⟨⟨dq, osq⟩, hw''⟩ := hw'
            subst hw''
            have hwq := below_regrown wb dq osq
            generalize grow (redrawn wb dq) osq = wf at hwq ⊢
            have QF := Lib.hid (Q9.out.trans (hwq.mono (by omega)))
            clear hwq CC1 kb kc kx
            go_wp2_with fail
            go_roundw
            case rel => exact ⟨q + 1, true, by omega, by go_num, rfl, fun _ => rfl, QF.out⟩
            case measure => simp [intOf]; omega
          · skip
            have kx := HCE.out wb L9.out
            go_upto_region 20 with fail
            have kb := cell_regrown (box1 K9.out)
            have kc := cell_regrown kx
            have cC1 := fun q os => Calls.regrown_of (w := wb) (d := q) (os := os) (HCX.out _ (L9.out.trans ((below_regrown wb q os).mono L9.out.size)))
            have CC1 := Lib.hid cC1
            clear cC1
            refine wp_region_quiet_below (by kernel_rfl) (by kernel_rfl) ?_
            repeat (go_big_quiet_step (with_reducible exact CC1.out _ _))
            refine wpQuiet_nil ?_
            intro _ hw'
            obtain ⟨⟨dq, osq⟩, hw''⟩ := hw'
            subst hw''
            have hwq := below_regrown wb dq osq
            generalize grow (redrawn wb dq) osq = wf at hwq ⊢
            have QF := Lib.hid (Q9.out.trans (hwq.mono (by omega)))
            clear hwq CC1 kb kc kx
            go_wp2_with fail
            go_roundw
            case rel => exact ⟨q + 1, true, by omega, by go_num, rfl, fun _ => rfl, QF.out⟩
            case measure => simp [intOf]; omega
        · have hce1 : (C == Mb) = false := by simp [hcb]
          cases ee
          · have hnb : ¬ q = b := fun h => of_decide_eq_false HEE.out (HQB.out h)
            have HNB := Lib.hid (fun h : b < q + 1 => HBH.out (by omega : b < q))
            clear hnb
            have kx := HCE.out wb L9.out
            go_upto_region 20 with fail
            have kb := cell_regrown (box1 K9.out)
            have kc := cell_regrown kx
            have cC1 := fun q os => Calls.regrown_of (w := wb) (d := q) (os := os) (HCX.out _ (L9.out.trans ((below_regrown wb q os).mono L9.out.size)))
            have CC1 := Lib.hid cC1
            clear cC1
            refine wp_region_quiet_below (by kernel_rfl) (by kernel_rfl) ?_
            repeat (go_big_quiet_step (with_reducible exact CC1.out _ _))
            refine wpQuiet_nil ?_
            intro _ hw'
            obtain ⟨⟨dq, osq⟩, hw''⟩ := hw'
            subst hw''
            have hwq := below_regrown wb dq osq
            generalize grow (redrawn wb dq) osq = wf at hwq ⊢
            have QF := Lib.hid (Q9.out.trans (hwq.mono (by omega)))
            clear hwq CC1 kb kc kx
            go_wp2_with fail
            go_roundw
            case rel => exact ⟨q + 1, bh, by omega, by go_num, rfl, HNB.out, QF.out⟩
            case measure => simp [intOf]; omega
          · skip
            have kx := HCE.out wb L9.out
            go_upto_region 20 with fail
            have kb := cell_regrown (box1 K9.out)
            have kc := cell_regrown kx
            have cC1 := fun q os => Calls.regrown_of (w := wb) (d := q) (os := os) (HCX.out _ (L9.out.trans ((below_regrown wb q os).mono L9.out.size)))
            have CC1 := Lib.hid cC1
            clear cC1
            refine wp_region_quiet_below (by kernel_rfl) (by kernel_rfl) ?_
            repeat (go_big_quiet_step (with_reducible exact CC1.out _ _))
            refine wpQuiet_nil ?_
            intro _ hw'
            obtain ⟨⟨dq, osq⟩, hw''⟩ := hw'
            subst hw''
            have hwq := below_regrown wb dq osq
            generalize grow (redrawn wb dq) osq = wf at hwq ⊢
            have QF := Lib.hid (Q9.out.trans (hwq.mono (by omega)))
            clear hwq CC1 kb kc kx
            go_wp2_with fail
            go_roundw
            case rel => exact ⟨q + 1, true, by omega, by go_num, rfl, fun _ => rfl, QF.out⟩
            case measure => simp [intOf]; omega
      · obtain rfl : q = N := by omega
        obtain rfl : bh = true := HBH.out (HBL.out.1)
        have hqd : decide ((q : Int) < (q : Int)) = false := decide_eq_false (by omega)
        have hmm : (Mb == Mb) = true := by simp
        have zq := box1 KQ.out
        have HCQ := Lib.hid (HMI.out wr BQ.out)
        go_wp2_with fail
        refine HCQ.out.mono ?_
        rintro e we ⟨rfl, hb⟩
        have T9 := Lib.hid (T1.out.trans ((T3.out.trans ((BQ.out.trans (hb.mono (by omega))).mono T3.out.size)).mono hs1))
        clear hb zq
        go_wp2_with fail
        go_ret
        exact ⟨rfl, T9.out⟩
  · have hbb : bestB m k = false := by
      unfold bestB inB
      rw [hmo, HN.out]
      cases mo
      · rfl
      · have hok' : ¬ (1 ≤ k ∧ k ≤ (n : Int)) := fun h => hok ⟨rfl, h⟩
        simp
        omega
    obtain rfl : d = false := by rw [← HD.out, hbb]
    have hl0 : l = [] := by rw [← HLL.out, bestB_no hbb]
    obtain rfl : nl = 0 := by rw [← HNL.out, hl0]; rfl
    clear hbb hl0 HD HLL hmo
    cases mo
    · clear hok
      go_wp2_with fail
      refine HC.out.mono ?_
      rintro e w4 ⟨rfl, hb⟩
      have T4 := Lib.hid (T1.out.trans ((T3.out.trans (hb.mono (by omega))).mono hs1))
      have z4 := box1 ((hb.block w1.heap.size hs3).trans K3.out)
      clear hb z3
      go_wp2_with fail
      go_ret
      exact ⟨rfl, T4.out⟩
    · by_cases c1 : 1 ≤ k
      · have d1 : decide (k ≥ 1) = true := decide_eq_true c1
        have c2 : ¬ k ≤ (n : Int) := fun h => hok ⟨rfl, c1, h⟩
        have d2 : decide (k ≤ (n : Int)) = false := decide_eq_false c2
        clear hok
        go_wp2_with fail
        refine HC.out.mono ?_
        rintro e w4 ⟨rfl, hb⟩
        have T4 := Lib.hid (T1.out.trans ((T3.out.trans (hb.mono (by omega))).mono hs1))
        have z4 := box1 ((hb.block w1.heap.size hs3).trans K3.out)
        clear hb z3
        go_wp2_with fail
        go_ret
        exact ⟨rfl, T4.out⟩
      · have d1 : decide (k ≥ 1) = false := decide_eq_false c1
        clear hok
        go_wp2_with fail
        refine HC.out.mono ?_
        rintro e w4 ⟨rfl, hb⟩
        have T4 := Lib.hid (T1.out.trans ((T3.out.trans (hb.mono (by omega))).mono hs1))
        have z4 := box1 ((hb.block w1.heap.size hs3).trans K3.out)
        clear hb z3
        go_wp2_with fail
        go_ret
        exact ⟨rfl, T4.out⟩
theorem lawBest_big (w : World) (a : Option Addr) (len cap : Nat) (hm : len ≤ 9223372036854775807) (hbig : 1048576 < len) :
    Calls Try.prog 3 #[.slice a len cap] w fun e w' => e = .returned (.bool true) ∧ Below w.heap.size w w' := by
  go_enter Try.func3, Try.ntmps3
  go_wp2_with fail
  refine (big_yes a len cap hbig hm _).mono ?_
  rintro e w' ⟨rfl, rfl⟩
  go_wp2_with fail
  go_ret
  exact ⟨rfl, Below.refl _ _⟩
theorem lawBest (w : World) (a : Option Addr) (len cap : Nat) (hm : len ≤ 9223372036854775807)
    (hb : ∃ bs : List UInt8, bs.length = len ∧ ∀ j (hj : j < bs.length), ∃ b o, a = some ⟨b, o, none⟩ ∧ b < w.heap.size ∧ w.cell? ⟨b, o + j, none⟩ = some (.int .u8 (bs[j].toNat : Int))) :
    Calls Try.prog 3 #[.slice a len cap] w fun e w' => e = .returned (.bool true) ∧ Below w.heap.size w w' :=
  law_of _ w a len cap hm hb (lawBest_big w a len cap hm) (fun bs hc => lawBest_small w a cap bs hc)
end Go.Proofs.Ytkmcfbopilieeaa

end

/-! YtkmcfbopilieeaaIntRow -/
section

namespace Go.Proofs.Ytkmcfbopilieeaa
open Go.RowKit
set_option linter.unusedVariables false

/-- What is told of a row that came in. -/
def CameIn (W : World) (a : Option Addr) (len : Nat) : Prop := ∃ xs : List Int, xs.length = len ∧ ∀ j, j < len → ∃ b o, a = some ⟨b, o, none⟩ ∧ b < W.heap.size ∧ W.cell? ⟨b, o + j, none⟩ = some (.int .i64 (xs.getD j 0))
theorem cameIn_nil (W : World) : CameIn W none 0 := ⟨[], rfl, fun j hj => absurd hj (Nat.not_lt_zero _)⟩
theorem cameIn_row (W : World) (x : Addr) (len : Nat) (zs : List Int) (hl : len ≤ zs.length) (hcell : ∀ i, i < zs.length → W.cell? (x.add i) = some (.int .i64 (zs.getD i 0))) : CameIn W (some x) len := by
  refine ⟨zs.take len, by simp [hl], fun j hj => ?_⟩
  obtain ⟨b, off, spot⟩ := x
  have hc := hcell j (by omega)
  have hspot : spot = none := by
    have := World.cell?_spot (hcell 0 (by omega))
    simpa [Addr.add] using this
  subst hspot
  rw [Addr.add_lit] at hc
  refine ⟨b, off, rfl, World.block_lt_of_cell? W _ hc, ?_⟩
  rw [hc]
  simp [List.getD, hj]
end Go.Proofs.Ytkmcfbopilieeaa

end
