/-
  What is let in: the model's PeakOf (mkadms.py).
-/
import Derived.Test.YtkflinobmagiiaaJoin36
import Derived.Lib.QuietBelow
import Derived.Deep.QuietTactic
import Derived.BigQuiet
namespace Go.Proofs.Ytkflinobmagiiaa
open Go.RowKit Go.Sort
set_option linter.unusedVariables false
set_option linter.unusedSimpArgs false

set_option maxRecDepth 100000 in
set_option maxHeartbeats 3200000 in
theorem specPeakOf_d (w : World) (es : List Value) (x : dConfig) (h : shConfig.reads (Under w.heap.size) w es x) (hb : shConfig.bulk x ≤ 1048576) (s micro : Int) :
    Calls Try.prog 16 #[.agg es.toArray, .int .i64 s, .int .i64 micro] w fun e w' => e = .returned ((.int .i64 (peakN x.1 x.2.1 x.2.2.1 x.2.2.2.1 s micro))) ∧ Below w.heap.size w w' := by
  obtain ⟨m, l, ds, r, cp, lm⟩ := x
  obtain ⟨a0, n0, c0, a1, n1, c1, a2, n2, c2, a3, n3, c3, a4, n4, c4, rfl, hp, hq, hm, hbm, hl, ⟨hr0, hr⟩, hcp, hlm⟩ := conf_in h hb
  dsimp only
  have hal : Below w.heap.size w (w.alloc (.cells #[.slice a0 n0 c0, .slice a1 n1 c1, .int .i64 ds, .slice a2 n2 c2, .slice a3 n3 c3, .slice a4 n4 c4] 30 (0, 0))) := (Below.refl _ _).alloc (Nat.le_refl _) _
  have hb0 := heap_alloc_new w (.cells #[.slice a0 n0 c0, .slice a1 n1 c1, .int .i64 ds, .slice a2 n2 c2, .slice a3 n3 c3, .slice a4 n4 c4] 30 (0, 0))
  have hs0 : (w.alloc (.cells #[.slice a0 n0 c0, .slice a1 n1 c1, .int .i64 ds, .slice a2 n2 c2, .slice a3 n3 c3, .slice a4 n4 c4] 30 (0, 0))).heap.size = w.heap.size + 1 := by simp
  have HRD := Lib.hid fun (wx : World) (hx : Below w.heap.size w wx) => Shape.le _ (Shape.below _ h hx (Nat.le_refl _)) hx.size
  have HBK := Lib.hid hb
  have HMM := Lib.hid fun (wx : World) (hx : Below w.heap.size w wx) => (hm.below hx (Nat.le_refl _)).le hx.size
  have HLL := Lib.hid fun (wx : World) (hx : Below w.heap.size w wx) => (hl.below hx (Nat.le_refl _)).le hx.size
  have HMN := Lib.hid hm.1
  have HM := Lib.hid hm
  have HR := Lib.hid hr
  have HLN := Lib.hid hl.len
  have HA := Lib.hid hal
  have HB0 := Lib.hid hb0
  have hn1 : n1 ≤ 1048576 := hl.room
  have hn2 := hr0
  clear hal hb0 hr0
  obtain ⟨f, t, ef, et, hok⟩ := range_ok m l s
  have HC := Lib.hid fun (wx : World) (hx : Below w.heap.size w wx) => specStageRange_c wx a0 n0 c0 m ((hm.below hx (Nat.le_refl _)).le hx.size) hp hq hbm a1 n1 c1 l ((hl.below hx (Nat.le_refl _)).le hx.size) s
  simp only [ef, et] at HC
  have hft := hok.le
  have htn : t ≤ n0 := by rw [← hm.1]; exact hok.top
  have hn0 : n0 ≤ 1048576 := by rw [bulk_list shOp hm] at hbm; omega
  have HOK := Lib.hid hok
  have hv : peakN m l ds r s micro = peakT m (redoB r s) ds ((n1 : Int) + 1) s micro f t := by unfold peakN; rw [ef, et, Int.toNat_natCast, Int.toNat_natCast, hl.len]
  have hfv : fullN m l s = fullT m f t := by unfold fullN; rw [ef, et, Int.toNat_natCast, Int.toNat_natCast]
  have hsv : savedN m l r s = savedT m (redoB r s) f t := by unfold savedN; rw [ef, et, Int.toNat_natCast, Int.toNat_natCast]
  have HFW := Lib.hid fun (wx : World) (hx : Below w.heap.size w wx) => specFullWords_d wx _ _ (Shape.le _ (Shape.below _ h hx (Nat.le_refl _)) hx.size) hb s
  have HSW := Lib.hid fun (wx : World) (hx : Below w.heap.size w wx) => specSavedWords_d wx _ _ (Shape.le _ (Shape.below _ h hx (Nat.le_refl _)) hx.size) hb s
  dsimp only at HFW HSW
  simp only [hfv] at HFW
  simp only [hsv] at HSW
  obtain ⟨V, hV⟩ : ∃ V, fullT m f t = V := ⟨_, rfl⟩
  simp only [hV] at HFW
  obtain ⟨SV, hSV⟩ : ∃ V, savedT m (redoB r s) f t = V := ⟨_, rfl⟩
  simp only [hSV] at HSW
  have HV := Lib.hid hV
  have HSV := Lib.hid hSV
  have HPV := Lib.hid hv
  have HRL := Lib.hid hr.1
  clear h hb hm hbm hl hr hcp hlm hp hq
  clear hok ef et hv hfv hsv hV hSV HRD HLL HMM
  go_enter Try.func16, Try.ntmps16
  go_upto_region 1 with fail
  generalize w.alloc (.cells #[.slice a0 n0 c0, .slice a1 n1 c1, .int .i64 ds, .slice a2 n2 c2, .slice a3 n3 c3, .slice a4 n4 c4] 30 (0, 0)) = wa at HA HB0 hs0 ⊢
  obtain ⟨z0, z1, -, -, -, -⟩ := box6 HB0.out
  go_wp2_with fail
  refine (HC.out wa HA.out).mono ?_
  rintro e w1 ⟨rfl, hb⟩
  clear z0 z1
  have hs1 := hb.size
  have HB1 := Lib.hid ((hb.block w.heap.size (by omega)).trans HB0.out)
  obtain ⟨z0, z1, z2, z3, z4, z5⟩ := box6 HB1.out
  have HW1 := Lib.hid (HA.out.trans (hb.mono HA.out.size))
  clear hb
  have HI1 := Lib.hid fun wx => l1In_any micro 1 5 wx
  have HI2 := Lib.hid fun wx => l1In_any ((n1 : Int) + 1) 1 4 wx
  obtain ⟨p1, hp1⟩ : ∃ p, inB 1 5 micro = p := ⟨_, rfl⟩
  obtain ⟨p2, hp2⟩ : ∃ p, inB 1 4 ((n1 : Int) + 1) = p := ⟨_, rfl⟩
  simp only [hp1] at HI1
  simp only [hp2] at HI2
  by_cases hlt : f < t
  · have hg : decide ((t : Int) ≤ (f : Int)) = false := decide_eq_false (by omega)
    cases p1
    · have HRE := Lib.hid (show peakT m (redoB r s) ds ((n1 : Int) + 1) s micro f t = 0 from if_neg fun hh => by rw [inB_yes hh.2.1 hh.2.2.1] at hp1; cases hp1)
      clear hp1 hp2
      go_wp2_with fail
      refine (HI1.out _).mono ?_
      rintro e w2 ⟨rfl, rfl⟩
      go_wp2_with fail
      go_ret
      exact ⟨by rw [HPV.out, HRE.out]; rfl, HW1.out⟩
    · cases p2
      · have HRE := Lib.hid (show peakT m (redoB r s) ds ((n1 : Int) + 1) s micro f t = 0 from if_neg fun hh => by rw [inB_yes (by omega) hh.2.2.2] at hp2; cases hp2)
        clear hp1 hp2
        go_wp2_with fail
        refine (HI1.out _).mono ?_
        rintro e w2 ⟨rfl, rfl⟩
        go_wp2_with fail
        refine (HI2.out _).mono ?_
        rintro e w2 ⟨rfl, rfl⟩
        go_wp2_with fail
        go_ret
        exact ⟨by rw [HPV.out, HRE.out]; rfl, HW1.out⟩
      · obtain ⟨hm1, hm5⟩ := inB_has hp1
        obtain ⟨-, hn4⟩ := inB_has hp2
        have hth := HOK.out.there hlt
        have hs0' := hth.2.2.2.1
        have hsn := hth.2.2.2.2.1
        rw [HLN.out] at hsn
        obtain ⟨j, rfl⟩ : ∃ j : Nat, s = j := ⟨s.toNat, by omega⟩
        obtain ⟨K, hK⟩ : ∃ K, underN ds ((n1 : Int) + 1) j micro = K := ⟨_, rfl⟩
        have hK5 := under_in (ds := ds) (n := (n1 : Int) + 1) (s := j) hm1 hm5 (by omega)
        rw [hK] at hK5
        have hsz := HOK.out.sizes
        have hsv := saved_in HOK.out (redoB r (j : Int))
        rw [HSV.out] at hsv
        rw [HV.out] at hsz hsv
        obtain ⟨I, hI⟩ : ∃ I, inF m f t = I := ⟨_, rfl⟩
        obtain ⟨O, hO⟩ : ∃ O, outF m f t = O := ⟨_, rfl⟩
        rw [hI, hO] at hsz
        obtain ⟨hI0, hI6, hO0, hO6, -, -, hV54, -⟩ := hsz
        have hmu := mul_in (A := 5) (B := 54) (by omega) hK5.2.1 hsv.1 hsv.2.2
        obtain ⟨P, hP⟩ : ∃ P, K * SV = P := ⟨_, rfl⟩
        rw [hP] at hmu
        have HP := Lib.hid hP
        have HK := Lib.hid hK
        have HE := Lib.hid (show peakT m (redoB r (j : Int)) ds ((n1 : Int) + 1) j micro f t = P + max I O + (if redoB r (j : Int) = true then V else 0) by
          unfold peakT
          rw [if_pos ⟨hlt, hm1, hm5, hn4⟩, hK, HSV.out, hP, hI, hO, HV.out])
        have HI := Lib.hid hI
        have HO := Lib.hid hO
        have HBD := Lib.hid (And.intro hK5 hmu)
        clear hp1 hp2 hth hsv hV54 hP hK hI hO hK5 hmu
        go_wp2_with fail
        refine (HI1.out _).mono ?_
        rintro e w2 ⟨rfl, rfl⟩
        go_wp2_with fail
        refine (HI2.out _).mono ?_
        rintro e w2 ⟨rfl, rfl⟩
        go_upto_if 39 with fail
        go_cut [9] (fun t wx => t = .int .i64 K ∧ wx = w1)
        case first =>
          by_cases hds : ds = 2
          · subst hds
            have hK2 := HK.out
            unfold underN at hK2
            rw [if_pos rfl] at hK2
            have hwj : wrap64 ((n1 : Int) + 1 - j) = (n1 : Int) + 1 - j := IntWalk.wrap64_in _ (by omega)
            go_wp2_with fail
            all_goals
              go_meet
              case rel => exact ⟨by congr 1; omega, rfl⟩
          · have hd2 : (ds == 2) = false := by simpa using hds
            have hK2 := HK.out
            unfold underN at hK2
            rw [if_neg hds] at hK2
            subst hK2
            go_wp2_with fail
            go_meet
            case rel => exact ⟨rfl, rfl⟩
        case rest =>
          obtain ⟨rfl, rfl⟩ := hcut
          have hft1 : f < n0 := by omega
          obtain ⟨b, o, rfl, hbB, hc1, -⟩ := op_szA HM.out f hft1
          obtain ⟨q, hq⟩ : ∃ q, t - 1 = q := ⟨_, rfl⟩
          have hqn : q < n0 := by omega
          obtain ⟨b', o', e', hbB', -, hc2⟩ := op_szA HM.out q hqn
          cases e'
          have hIe : (opAt m f).2.1 = I := by rw [← HI.out]; exact (if_pos hlt).symm
          have hOe : (opAt m q).2.2.1 = O := by rw [← HO.out, ← hq]; exact (if_pos hlt).symm
          rw [hIe] at hc1
          rw [hOe] at hc2
          have c1 := (HW1.out.cell (p := ⟨b, o + f * 4 + 1, none⟩) hbB).trans hc1
          have c2 := (HW1.out.cell (p := ⟨b, o + q * 4 + 2, none⟩) hbB').trans hc2
          have hw1 : wrap64 ((t : Int) - 1) = (q : Int) := by rw [IntWalk.wrap64_in _ (by omega)]; omega
          have hw2 : IntKind.i64.wrap ((t : Int) - 1) = (q : Int) := by rw [IntKind.wrap_i64]; omega
          have hwp : wrap64 (K * SV) = P := by rw [HP.out]; exact IntWalk.wrap64_in _ (by have := HBD.out; omega)
          obtain ⟨X, hX⟩ : ∃ X, max I O = X := ⟨_, rfl⟩
          have hX6 : 0 ≤ X ∧ X ≤ 6 := by omega
          have hmx : (if I < O then O else I) = X := by rw [← hX]; split <;> omega
          have hwx : wrap64 (P + X) = P + X := IntWalk.wrap64_in _ (by have := HBD.out; omega)
          have HX := Lib.hid hX
          clear hIe hOe hc1 hc2 hq hX
          go_upto_region 7 with fail
          have hbx := HB1.out
          have k0 := cell_regrown z0
          have k1 := cell_regrown z1
          have k2 := cell_regrown z2
          have k3 := cell_regrown z3
          have k4 := cell_regrown z4
          have k5 := cell_regrown z5
          have k6 := cell_regrown c1
          have k7 := cell_regrown c2
          have cC := fun d os => Calls.regrown_of (w := wc) (d := d) (os := os) (HSW.out _ (HW1.out.trans ((below_regrown wc d os).mono HW1.out.size)))
          have CC := Lib.hid cC
          clear cC z0 z1 z2 z3 z4 z5 c1 c2
          refine wp_region_quiet_below (by kernel_rfl) (by kernel_rfl) ?_
          repeat (go_big_quiet_step (with_reducible first | exact CC.out _ _))
          refine wpQuiet_nil ?_
          intro _ hw'
          obtain ⟨⟨dq, osq⟩, hw''⟩ := hw'
          subst hw''
          have hwq := below_regrown wc dq osq
          generalize grow (redrawn wc dq) osq = wn at hwq ⊢
          have BN := Lib.hid (HW1.out.trans (hwq.mono HW1.out.size))
          have hzn := (hwq.block w.heap.size (by omega)).trans hbx
          obtain ⟨z0, z1, z2, z3, z4, z5⟩ := box6 hzn
          have HFN := Lib.hid (HFW.out wn BN.out)
          obtain ⟨Z, hZ⟩ : ∃ Z, P + X = Z := ⟨_, rfl⟩
          have hZ3 : 0 ≤ Z ∧ Z ≤ 276 := by have := HBD.out; omega
          have hE2 : peakT m (redoB r (j : Int)) ds ((n1 : Int) + 1) j micro f t = Z + (if redoB r (j : Int) = true then V else 0) := by rw [HE.out, HX.out, hZ]
          have HEE := Lib.hid hE2
          have hV5 : 0 ≤ V ∧ V ≤ 54 := by have := HOK.out.sizes; have h2 := HV.out; omega
          have HWX := Lib.hid (show wrap64 (P + X) = Z from hwx.trans hZ)
          clear hwx
          clear k0 k1 k2 k3 k4 k5 k6 k7 hwq CC hzn hbx hw1 hw2 hwp hmx hZ hE2
          go_simp
          by_cases hj : j < n2
          · have hd : decide ((j : Int) < (n2 : Int)) = true := decide_eq_true (by omega)
            have hrd : redoB r (j : Int) = r.getD j false := by unfold redoB; rw [inB_yes (by omega) (by rw [HRL.out]; omega), Int.toNat_natCast]; rfl
            obtain ⟨b2, o2, rfl, hbB2, hc0⟩ := HR.out.mark j hj
            obtain ⟨Y, hY⟩ : ∃ Y, r.getD j false = Y := ⟨_, rfl⟩
            rw [hY] at hc0 hrd
            have HRD := Lib.hid hrd
            have c0 := (BN.out.cell (p := ⟨b2, o2 + j, none⟩) hbB2).trans hc0
            clear hY hrd hc0
            cases Y
            · have HRE := Lib.hid (show peakT m (redoB r (j : Int)) ds ((n1 : Int) + 1) j micro f t = Z by rw [HEE.out, HRD.out, if_neg (by decide)]; omega)
              go_wp2_with fail
              go_ret
              exact ⟨by rw [HPV.out, HRE.out, HWX.out]; rfl, BN.out⟩
            · have HRE := Lib.hid (show peakT m (redoB r (j : Int)) ds ((n1 : Int) + 1) j micro f t = Z + V by rw [HEE.out, HRD.out, if_pos rfl])
              have hwv : wrap64 (Z + V) = Z + V := IntWalk.wrap64_in _ (by omega)
              go_wp2_with fail
              refine HFN.out.mono ?_
              rintro e w3 ⟨rfl, hb3⟩
              have B3 := Lib.hid (BN.out.trans (hb3.mono BN.out.size))
              clear hb3
              go_wp2_with fail
              go_ret
              exact ⟨by rw [HPV.out, HRE.out, HWX.out, hwv]; rfl, B3.out⟩
          · have hd : decide ((j : Int) < (n2 : Int)) = false := decide_eq_false (by omega)
            have hrd : redoB r (j : Int) = false := by unfold redoB; rw [inB_no (by rw [HRL.out]; omega)]; rfl
            have HRE := Lib.hid (show peakT m (redoB r (j : Int)) ds ((n1 : Int) + 1) j micro f t = Z by rw [HEE.out, hrd, if_neg (by decide)]; omega)
            clear hrd
            go_wp2_with fail
            go_ret
            exact ⟨by rw [HPV.out, HRE.out, HWX.out]; rfl, BN.out⟩
  · have hg : decide ((t : Int) ≤ (f : Int)) = true := decide_eq_true (by omega)
    have HRE := Lib.hid (show peakT m (redoB r s) ds ((n1 : Int) + 1) s micro f t = 0 from if_neg fun hh => hlt hh.1)
    clear hp1 hp2
    go_wp2_with fail
    go_ret
    exact ⟨by rw [HPV.out, HRE.out]; rfl, HW1.out⟩
end Go.Proofs.Ytkflinobmagiiaa
