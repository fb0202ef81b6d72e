/-
  What is let in: the program's PeakOf (mkadmi.py).
-/
import Derived.Test.YtkflinobmagiiaaJoin46
import Derived.Lib.QuietBelow
import Derived.Deep.QuietTactic
import Derived.BigQuiet
namespace Go.Proofs.Ytkflinobmagiiaa
open Go.RowKit Go.Sort
set_option linter.unusedVariables false
set_option linter.unusedSimpArgs false

set_option maxRecDepth 100000 in
set_option maxHeartbeats 3200000 in
theorem implPeakOf_d (w : World) (es : List Value) (x : dConfig) (h : shConfig.reads (Under w.heap.size) w es x) (hb : shConfig.bulk x ≤ 1048576) (s micro : Int) :
    Calls Try.prog 13 #[.agg es.toArray, .int .i64 s, .int .i64 micro] w fun e w' => e = .returned ((.int .i64 (peakN x.1 x.2.1 x.2.2.1 x.2.2.2.1 s micro))) ∧ Below w.heap.size w w' := by
  obtain ⟨m, l, ds, r, cp, lm⟩ := x
  obtain ⟨a0, n0, c0, a1, n1, c1, a2, n2, c2, a3, n3, c3, a4, n4, c4, rfl, hp, hq, hm, hbm, hl, ⟨hr0, hr⟩, hcp, hlm⟩ := conf_in h hb
  try dsimp only
  have hal : Below w.heap.size w (w.alloc (.cells #[.slice a0 n0 c0, .slice a1 n1 c1, .int .i64 ds, .slice a2 n2 c2, .slice a3 n3 c3, .slice a4 n4 c4] 30 (0, 0))) := (Below.refl _ _).alloc (Nat.le_refl _) _
  have hb0 := heap_alloc_new w (.cells #[.slice a0 n0 c0, .slice a1 n1 c1, .int .i64 ds, .slice a2 n2 c2, .slice a3 n3 c3, .slice a4 n4 c4] 30 (0, 0))
  have hs0 : (w.alloc (.cells #[.slice a0 n0 c0, .slice a1 n1 c1, .int .i64 ds, .slice a2 n2 c2, .slice a3 n3 c3, .slice a4 n4 c4] 30 (0, 0))).heap.size = w.heap.size + 1 := by simp
  have HRD := Lib.hid fun (wx : World) (hx : Below w.heap.size w wx) => Shape.le _ (Shape.below _ h hx (Nat.le_refl _)) hx.size
  have HBK := Lib.hid hb
  have HMM := Lib.hid fun (wx : World) (hx : Below w.heap.size w wx) => (hm.below hx (Nat.le_refl _)).le hx.size
  have HLL := Lib.hid fun (wx : World) (hx : Below w.heap.size w wx) => (hl.below hx (Nat.le_refl _)).le hx.size
  have HMN := Lib.hid hm.1
  have HM := Lib.hid hm
  have HR := Lib.hid hr
  have HLN := Lib.hid hl.len
  have HA := Lib.hid hal
  have HB0 := Lib.hid hb0
  have hn1 : n1 ≤ 1048576 := hl.room
  have hn2 := hr0
  clear hal hb0 hr0
  obtain ⟨f, t, ef, et, hok⟩ := range_ok m l s
  have hpo := partA_ok ef et hok
  have HOK := Lib.hid hok
  have HPO := Lib.hid hpo
  have HPT := Lib.hid fun (wx : World) (hx : Below w.heap.size w wx) => implPart_d wx _ _ (Shape.le _ (Shape.below _ h hx (Nat.le_refl _)) hx.size) hb s
  have hfv : fullN m l s = fullT m f t := by unfold fullN; rw [ef, et, Int.toNat_natCast, Int.toNat_natCast]
  have hv : peakN m l ds r s micro = peakT m (redoB r s) ds ((n1 : Int) + 1) s micro f t := by unfold peakN; rw [ef, et, Int.toNat_natCast, Int.toNat_natCast, hl.len]
  have hsv : savedN m l r s = savedT m (redoB r s) f t := by unfold savedN; rw [ef, et, Int.toNat_natCast, Int.toNat_natCast]
  have hgi := hpo.ins
  have hgo := hpo.outs
  obtain ⟨q, hq'⟩ : ∃ q, partN m l s = q := ⟨_, rfl⟩
  rw [hq'] at hgi hgo
  have HQ := Lib.hid hq'
  have HGI := Lib.hid hgi
  have HGO := Lib.hid hgo
  have HFW := Lib.hid fun (wx : World) (hx : Below w.heap.size w wx) => implFullWords_d wx _ _ (Shape.le _ (Shape.below _ h hx (Nat.le_refl _)) hx.size) hb s
  have HSW := Lib.hid fun (wx : World) (hx : Below w.heap.size w wx) => implSavedWords_d wx _ _ (Shape.le _ (Shape.below _ h hx (Nat.le_refl _)) hx.size) hb s
  have HST := Lib.hid fun (wx : World) (hx : Below w.heap.size w wx) => implStagesOf_d wx _ _ (Shape.le _ (Shape.below _ h hx (Nat.le_refl _)) hx.size) hb
  have HRD2 := Lib.hid fun (wx : World) (hx : Below w.heap.size w wx) => implRedoes_d wx _ _ (Shape.le _ (Shape.below _ h hx (Nat.le_refl _)) hx.size) hb s
  dsimp only at HFW HSW HRD2 HST
  simp only [hfv] at HFW
  simp only [hsv] at HSW
  obtain ⟨V, hV⟩ : ∃ V, fullT m f t = V := ⟨_, rfl⟩
  simp only [hV] at HFW
  obtain ⟨RB, hRB⟩ : ∃ b, redoB r s = b := ⟨_, rfl⟩
  simp only [hRB] at HRD2 HSW
  obtain ⟨SV, hSV⟩ : ∃ V, savedT m RB f t = V := ⟨_, rfl⟩
  simp only [hSV] at HSW
  obtain ⟨N, hN⟩ : ∃ N, stagesN m l = N := ⟨_, rfl⟩
  simp only [hN] at HST
  rw [hRB] at hv
  have HN := Lib.hid hN
  have HSV := Lib.hid hSV
  have HV := Lib.hid hV
  have HPV := Lib.hid hv
  clear h hb hm hbm hl hr hcp hlm hp hq
  clear hok hpo hfv hsv ef et HRD HLL HMM HM HR hgi hgo hq' hV hSV hRB hv hN
  go_enter Try.func13, Try.ntmps13
  go_upto_region 1 with fail
  generalize w.alloc (.cells #[.slice a0 n0 c0, .slice a1 n1 c1, .int .i64 ds, .slice a2 n2 c2, .slice a3 n3 c3, .slice a4 n4 c4] 30 (0, 0)) = wa at HA HB0 hs0 ⊢
  obtain ⟨z0, z1, z2, z3, z4, z5⟩ := box6 HB0.out
  go_wp2_with fail
  refine (HST.out wa HA.out).mono ?_
  rintro e w1 ⟨rfl, hb⟩
  clear z0 z1 z2 z3 z4 z5
  have hs1 := hb.size
  have HBX := Lib.hid ((hb.block w.heap.size (by omega)).trans HB0.out)
  have HW1 := Lib.hid (HA.out.trans (hb.mono HA.out.size))
  have hal := (Below.refl w1.heap.size w1).alloc (Nat.le_refl _) (.cells #[.int .i64 N, .int .i64 s, .int .i64 micro, .bool false] 61 (0, 0))
  have hk := heap_alloc_new w1 (.cells #[.int .i64 N, .int .i64 s, .int .i64 micro, .bool false] 61 (0, 0))
  have hs2 : (w1.alloc (.cells #[.int .i64 N, .int .i64 s, .int .i64 micro, .bool false] 61 (0, 0))).heap.size = w1.heap.size + 1 := by simp
  have HK := Lib.hid hk
  have HAL := Lib.hid hal
  clear hb hal hk
  obtain ⟨tb, htb⟩ : ∃ b, taskB N s micro = b := ⟨_, rfl⟩
  have HTB := Lib.hid htb
  have HTO := Lib.hid fun wx => implTaskOk_any wx N s micro false
  simp only [htb] at HTO
  clear htb
  go_upto_region 2 with fail
  generalize w1.alloc (.cells #[.int .i64 N, .int .i64 s, .int .i64 micro, .bool false] 61 (0, 0)) = w2 at HK HAL hs2 ⊢
  have HW2 := Lib.hid (HW1.out.trans (HAL.out.mono HW1.out.size))
  have HB2 := Lib.hid ((HAL.out.block w.heap.size (by omega)).trans HBX.out)
  obtain ⟨y0, y1, y2, y3⟩ := box4 HK.out
  go_wp2_with fail
  refine (HTO.out w2).mono ?_
  rintro e w3 ⟨rfl, hb⟩
  clear y0 y1 y2 y3
  have hs3 := hb.size
  have HW3 := Lib.hid (HW2.out.trans (hb.mono HW2.out.size))
  have HB3 := Lib.hid ((hb.block w.heap.size (by omega)).trans HB2.out)
  have HK3 := Lib.hid ((hb.block w1.heap.size (by omega)).trans HK.out)
  clear hb
  cases tb
  · have HRE := Lib.hid (show peakN m l ds r s micro = 0 by
      rw [HPV.out]
      refine if_neg fun hh => ?_
      have hth := HOK.out.there hh.1
      have hco := (stageB_has hth.1).1
      have hNN := HN.out
      unfold stagesN at hNN
      rw [if_pos hco] at hNN
      have hln := HLN.out
      have := taskB_yes (n := N) (s := s) (m := micro) (by omega) (by omega) (by omega) (by omega) hh.2.1 hh.2.2.1
      rw [HTB.out] at this
      cases this)
    go_wp2_with fail
    go_ret
    exact ⟨by rw [HRE.out]; rfl, HW3.out⟩
  · obtain ⟨g1, g2, g3, g4, g5, g6⟩ := taskB_has HTB.out
    have hco : cutsOkB m l = true := by
      cases hc : cutsOkB m l with
      | true => rfl
      | false =>
        have hNN := HN.out
        unfold stagesN at hNN
        rw [hc, if_neg (by decide)] at hNN
        omega
    have hNN : N = (n1 : Int) + 1 := by
      rw [← HN.out, ← HLN.out]
      exact if_pos hco
    obtain ⟨j, rfl⟩ : ∃ j : Nat, s = j := ⟨s.toNat, by omega⟩
    have hlt : f < t := HOK.out.some (stageB_yes hco (by have := HLN.out; omega))
    have hsz := HOK.out.sizes
    have hsv := saved_in HOK.out RB
    rw [HSV.out] at hsv
    rw [HV.out] at hsz hsv
    obtain ⟨K, hK⟩ : ∃ K, underN ds ((n1 : Int) + 1) j micro = K := ⟨_, rfl⟩
    have hK5 := under_in (ds := ds) (n := (n1 : Int) + 1) (s := j) g5 g6 (by omega)
    rw [hK] at hK5
    have hmu := mul_in (A := 5) (B := 54) (by omega) hK5.2.1 hsv.1 hsv.2.2
    obtain ⟨P, hP⟩ : ∃ P, K * SV = P := ⟨_, rfl⟩
    rw [hP] at hmu
    obtain ⟨I, hI⟩ : ∃ I, inF m f t = I := ⟨_, rfl⟩
    obtain ⟨O, hO⟩ : ∃ O, outF m f t = O := ⟨_, rfl⟩
    rw [hI, hO] at hsz
    obtain ⟨hI0, hI6, hO0, hO6, -, -, hV54, -⟩ := hsz
    obtain ⟨X, hX⟩ : ∃ X, max I O = X := ⟨_, rfl⟩
    have hX6 : 0 ≤ X ∧ X ≤ 6 := by omega
    obtain ⟨Z, hZ⟩ : ∃ Z, P + X = Z := ⟨_, rfl⟩
    have HE := Lib.hid (show peakN m l ds r (j : Int) micro = Z + (if RB = true then V else 0) by
      rw [HPV.out]
      unfold peakT
      rw [if_pos ⟨hlt, g5, g6, by omega⟩, hK, HSV.out, hP, hI, hO, HV.out, hX, hZ])
    have hGI := HGI.out
    have hGO := HGO.out
    rw [hI] at hGI
    rw [hO] at hGO
    have HWU := Lib.hid fun wx => implWarmUp_any wx ds N j micro
    obtain ⟨U, hU⟩ : ∃ U, warmN ds N j micro = U := ⟨_, rfl⟩
    have hUK : min micro (U + 1) = K ∧ 0 ≤ U ∧ U ≤ 5 := by
      rw [← hU, ← hK, hNN]
      unfold warmN underN
      rw [if_pos (by rw [← hNN]; exact HTB.out)]
      split <;> omega
    simp only [hU] at HWU
    have HUK := Lib.hid hUK.1
    have hU0 := hUK.2
    have hmx : (if I < O then O else I) = X := by rw [← hX]; split <;> omega
    have HBD := Lib.hid (show (0 ≤ P ∧ P ≤ 270) ∧ (0 ≤ V ∧ V ≤ 54) from ⟨by omega, by omega⟩)
    have HP := Lib.hid hP
    have HZ := Lib.hid hZ
    have HX6 := Lib.hid hX6
    have HGI2 := Lib.hid hGI
    have HGO2 := Lib.hid hGO
    have HMX := Lib.hid hmx
    clear hco hNN hlt hsv hK hK5 hmu hP hI hO hI0 hI6 hO0 hO6 hV54 hX hX6 hZ hGI hGO hU hUK hmx g1 g2 g3 g4 g5 g6
    obtain ⟨y0, y1, y2, y3⟩ := box4 HK3.out
    obtain ⟨z0, z1, z2, z3, z4, z5⟩ := box6 HB3.out
    go_upto_region 4 with fail
    go_cut [8] (fun t wx => t = .int .i64 K ∧ Below w3.heap.size w3 wx)
    case first =>
      go_wp2_with fail
      refine (HWU.out w3).mono ?_
      rintro e w4 ⟨rfl, hb⟩
      have HB := Lib.hid hb
      have hwu : wrap64 (U + 1) = U + 1 := IntWalk.wrap64_in _ (by omega)
      clear hb
      go_wp2_with fail
      all_goals
        go_meet
        case rel => exact ⟨by congr 1; have := HUK.out; omega, HB.out⟩
    case rest =>
      obtain ⟨rfl, hb⟩ := hcut
      have hs4 := hb.size
      have HW4 := Lib.hid (HW3.out.trans (hb.mono HW3.out.size))
      have HB4 := Lib.hid ((hb.block w.heap.size (by omega)).trans HB3.out)
      clear hb y0 y1 y2 y3 z0 z1 z2 z3 z4 z5
      obtain ⟨z0, z1, z2, z3, z4, z5⟩ := box6 HB4.out
      go_wp2_with fail
      refine (HPT.out wc HW4.out).mono ?_
      rintro e w5 ⟨ap, np, cp', rfl, hn8, hnc, hcc, hlp, hb⟩
      have hlq : ListAt shOp (Under w5.heap.size) w5 ap np q := by rw [← HQ.out]; exact hlp.le hb.size
      have HLQ := Lib.hid hlq
      have hs5 := hb.size
      have HW5 := Lib.hid (HW4.out.trans (hb.mono HW4.out.size))
      have HB5 := Lib.hid ((hb.block w.heap.size (by omega)).trans HB4.out)
      clear hb hlq hlp hnc hcc z0 z1 z2 z3 z4 z5
      obtain ⟨z0, z1, z2, z3, z4, z5⟩ := box6 HB5.out
      go_wp2_with fail
      refine (HSW.out w5 HW5.out).mono ?_
      rintro e w6 ⟨rfl, hb⟩
      have HL6 := Lib.hid ((HLQ.out.below hb (Nat.le_refl _)).le hb.size)
      have hs6 := hb.size
      have HW6 := Lib.hid (HW5.out.trans (hb.mono HW5.out.size))
      have HB6 := Lib.hid ((hb.block w.heap.size (by omega)).trans HB5.out)
      have hin := implIn_c w6 ap np cp' q HL6.out hn8
      have hout := implOut_c w6 ap np cp' q HL6.out hn8
      rw [HGI2.out] at hin
      rw [HGO2.out] at hout
      have HIN := Lib.hid hin
      have HOUT := Lib.hid hout
      have hwp : wrap64 (K * SV) = P := by rw [HP.out]; exact IntWalk.wrap64_in _ (by have := HBD.out; omega)
      clear hb hin hout z0 z1 z2 z3 z4 z5
      go_wp2_with fail
      refine HIN.out.mono ?_
      rintro e w7 ⟨rfl, rfl⟩
      go_wp2_with fail
      refine HOUT.out.mono ?_
      rintro e w7 ⟨rfl, rfl⟩
      obtain ⟨z0, z1, z2, z3, z4, z5⟩ := box6 HB6.out
      have hmx := HMX.out
      have hwx : wrap64 (P + X) = Z := by rw [HZ.out]; exact IntWalk.wrap64_in _ (by have := HBD.out; have := HX6.out; have := HZ.out; omega)
      clear hn8
      go_wp2_with fail
      refine (HRD2.out _ HW6.out).mono ?_
      rintro e w7 ⟨rfl, hb⟩
      have hs7 := hb.size
      have HW7 := Lib.hid (HW6.out.trans (hb.mono HW6.out.size))
      have HB7 := Lib.hid ((hb.block w.heap.size (by omega)).trans HB6.out)
      clear hb z0 z1 z2 z3 z4 z5
      cases RB
      · have HRE := Lib.hid (show peakN m l ds r (j : Int) micro = Z by rw [HE.out, if_neg (by decide)]; omega)
        go_wp2_with fail
        go_ret
        exact ⟨by rw [HRE.out]; rfl, HW7.out⟩
      · have HRE := Lib.hid (show peakN m l ds r (j : Int) micro = Z + V by rw [HE.out, if_pos rfl])
        have hwv : wrap64 (Z + V) = Z + V := IntWalk.wrap64_in _ (by have := HBD.out; have := HX6.out; have := HZ.out; omega)
        obtain ⟨z0, z1, z2, z3, z4, z5⟩ := box6 HB7.out
        go_wp2_with fail
        refine (HFW.out _ HW7.out).mono ?_
        rintro e w8 ⟨rfl, hb⟩
        have HW8 := Lib.hid (HW7.out.trans (hb.mono HW7.out.size))
        clear hb
        go_wp2_with fail
        go_ret
        exact ⟨by rw [HRE.out, hwv]; rfl, HW8.out⟩
end Go.Proofs.Ytkflinobmagiiaa
