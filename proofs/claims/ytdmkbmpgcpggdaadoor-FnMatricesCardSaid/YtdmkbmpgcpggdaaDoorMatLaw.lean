/-
  The law on tables.
-/
import Derived.Test.YtdmkbmpgcpggdaaDoorDrawMat
import Derived.Test.YtdmkbmpgcpggdaaDoorMatJ
import Derived.Test.YtdmkbmpgcpggdaaDoorMatK
import Derived.Test.YtdmkbmpgcpggdaaDoorVecLawM
namespace Go.Proofs.YtdmkbmpgcpggdaaDoor
open Go.RowKit
set_option linter.unusedVariables false

theorem Row.form3 {base : Nat} {w : World} {v : Value} {n : Nat} {xs : List Int} (h : Row base w v xs) (hl : Hid (xs.length = n)) (hr : n ≤ 1048576) : ∃ a cap, v = .slice a n cap ∧ (n ≤ cap ∧ cap ≤ 9223372036854775807) ∧ IntsIn w.heap.size w a n xs := by
  obtain ⟨a, c, e, hi⟩ := h.form' hl hr
  subst e
  refine ⟨a, c, rfl, ?_, hi⟩
  have hl := hl.out
  rcases h.2 with ⟨e1, h0⟩ | ⟨g, cap, cur, e1, _, _, hc, hm, _⟩
  · cases e1; omega
  · cases e1
    unfold maxLen at hm
    omega
theorem sameMatB_self (r c : Int) (xs : List Int) : sameMatB r c xs r c xs = true := by unfold sameMatB; simp
theorem sameMat_self (w : World) (r c : Int) (a1 : Option Addr) (n1 c1 : Nat) (xs : List Int) (a2 : Option Addr) (c2 : Nat) (h1 : IntsIn w.heap.size w a1 n1 xs) (h2 : IntsIn w.heap.size w a2 n1 xs) :
    Calls Tryd.prog 14 #[.agg #[.int .i64 r, .int .i64 c, .slice a1 n1 c1], .agg #[.int .i64 r, .int .i64 c, .slice a2 n1 c2]] w fun e w' => e = .returned (.bool true) ∧ Below w.heap.size w w' :=
  (specSameMat_any w r c a1 n1 c1 xs r c a2 n1 c2 xs h1 h2).mono fun e w' ⟨he, hb⟩ => ⟨by rw [he, sameMatB_self], hb⟩
theorem sameInts_self (w : World) (a1 : Option Addr) (n1 c1 : Nat) (xs : List Int) (a2 : Option Addr) (c2 : Nat) (h1 : IntsIn w.heap.size w a1 n1 xs) (h2 : IntsIn w.heap.size w a2 n1 xs) :
    Calls Tryd.prog 12 #[.slice a1 n1 c1, .slice a2 n1 c2] w fun e w' => e = .returned (.bool true) ∧ Below w.heap.size w w' :=
  (sameInts_any w a1 n1 c1 xs a2 n1 c2 xs h1 h2).mono fun e w' ⟨he, hb⟩ => ⟨by rw [he, decide_eq_true rfl], hb⟩

set_option maxRecDepth 100000 in
set_option maxHeartbeats 3200000 in
theorem lawMatrices_small (w : World) (p : Option Addr) (cap : Nat) (bs : List UInt8) (hc : CodeIn w.heap.size w p bs) (hE : LaidE w) :
    Calls Tryd.prog 3 #[.slice p bs.length cap] w fun e w' => e = .returned (.bool true) ∧ Below w.heap.size w w' := by
  have HC := Lib.hid hc
  have HE := Lib.hid hE
  have hlt := hE.lt
  clear hc hE
  go_enter Tryd.func3, Tryd.ntmps3
  go_wp2_with fail
  refine (big_no p cap bs HC.out.room _).mono ?_
  rintro e w' ⟨rfl, rfl⟩
  go_wp2_with fail
  refine (drawMatBack_e _ p cap bs HC.out).mono ?_
  rintro e w1 ⟨r, c, vm, xs, vd, ys, rfl, ⟨hx9, hy7⟩, hrm, hrd, hb1⟩
  obtain ⟨nx, hnx⟩ : ∃ nx, xs.length = nx := ⟨_, rfl⟩
  obtain ⟨ny, hny⟩ : ∃ ny, ys.length = ny := ⟨_, rfl⟩
  rw [hnx] at hx9
  rw [hny] at hy7
  obtain ⟨am, cm, rfl, ⟨hcm, hcm'⟩, him⟩ := hrm.form3 (Lib.hid hnx) (by omega)
  obtain ⟨ad, cd, rfl, -, hid⟩ := hrd.form3 (Lib.hid hny) (by omega)
  have s1 := hb1.size
  have T := Lib.hid hb1
  have FM := Lib.hid him
  have FD := Lib.hid hid
  have LX := Lib.hid hnx
  clear hrm hrd him hid hb1 hnx hny
  -- what the calls are to tell
  obtain ⟨Z, hZ⟩ : ∃ Z, mbN r c xs ys = Z := ⟨_, rfl⟩
  obtain ⟨s, hs⟩ : ∃ s, mbB r c xs ys = s := ⟨_, rfl⟩
  have hz := mbN_length r c xs ys
  have hmb := mb_is_mv r c xs ys
  rw [hZ] at hz
  rw [hZ, hs] at hmb
  obtain ⟨nz, hnz⟩ : ∃ nz, Z.length = nz := ⟨_, rfl⟩
  rw [hnz] at hz
  obtain ⟨R, hR⟩ : ∃ R, trR r c xs = R := ⟨_, rfl⟩
  obtain ⟨C, hC⟩ : ∃ C, trC r c xs = C := ⟨_, rfl⟩
  obtain ⟨U, hU⟩ : ∃ U, trN r c xs = U := ⟨_, rfl⟩
  have hu := trN_length r c xs
  rw [hU] at hu
  obtain ⟨nu, hnu⟩ : ∃ nu, U.length = nu := ⟨_, rfl⟩
  rw [hnu] at hu
  rw [hR, hC, hU] at hmb
  have K1 := fun (w : World) (a : Option Addr) (a2 : Option Addr) (c2 : Nat) (h1 : IntsIn w.heap.size w a nx xs) (h2 : IntsIn w.heap.size w a2 ny ys) (hg : LaidE w) => implMatBack_any w r c a nx cm xs a2 ny c2 ys h1 hcm hcm' h2 hg
  rw [hZ, hs] at K1
  have K2 := fun (w : World) (a : Option Addr) (cp : Nat) (hcp : nx ≤ cp) (hcap : cp ≤ 9223372036854775807) (h : IntsIn w.heap.size w a nx xs) => implTranspose_any w r c a nx cp xs h hcp hcap
  rw [hR, hC, hU] at K2
  have K3 := fun (w : World) (a : Option Addr) (cp : Nat) (a2 : Option Addr) (c2 : Nat) (hcp : nu ≤ cp) (hcap : cp ≤ 9223372036854775807) (h1 : IntsIn w.heap.size w a nu U) (h2 : IntsIn w.heap.size w a2 ny ys) (hg : LaidE w) => implMatVec_any w R C a nu cp U a2 ny c2 ys h1 hcp hcap h2 hg
  rw [hmb.1, hmb.2] at K3
  have K4 := fun (w : World) (a : Option Addr) (cp : Nat) (h : IntsIn w.heap.size w a nx xs) => specMatOk_any w r c a nx cp xs h
  have htt := fun (h : matOkB r c xs = true) => tr_tr h
  rw [hR, hC, hU] at htt
  obtain ⟨pm, hpm⟩ : ∃ pm, matOkB r c xs = pm := ⟨_, rfl⟩
  rw [hpm] at K4 htt
  have HK4 := Lib.hid K4
  have HTT := Lib.hid htt
  clear hpm K4 htt
  have HK1 := Lib.hid K1
  have HK2 := Lib.hid K2
  have HK3 := Lib.hid K3
  have LZ := Lib.hid hnz
  have LU := Lib.hid hnu
  clear hZ hs hmb hR hC hU K1 K2 K3 hnz hnu
  go_wp2_with fail
  -- the table's block
  have hk := heap_alloc_new w1 (.cells #[.int .i64 r, .int .i64 c, .slice am nx cm] 26 (0, 0))
  have hb := (Below.refl w1.heap.size w1).alloc (Nat.le_refl _) (.cells #[.int .i64 r, .int .i64 c, .slice am nx cm] 26 (0, 0))
  have s2 : w1.heap.size < (w1.alloc (.cells #[.int .i64 r, .int .i64 c, .slice am nx cm] 26 (0, 0))).heap.size := by simp
  generalize w1.alloc (.cells #[.int .i64 r, .int .i64 c, .slice am nx cm] 26 (0, 0)) = w2 at hk hb s2 ⊢
  replace FM := Lib.hid (FM.out.below hb (Nat.le_refl _))
  replace FD := Lib.hid (FD.out.below hb (Nat.le_refl _))
  replace T := Lib.hid (T.out.trans (hb.mono (by omega)))
  have MB := Lib.hid hk
  clear hk hb
  refine (HK1.out _ _ _ _ (FM.out.le (by omega)) (FD.out.le (by omega)) (HE.out.below hlt T.out)).mono ?_
  rintro e w3 ⟨v3, rfl, hr, hb⟩
  have s3 := hb.size
  obtain ⟨ax, cx, rfl, hi⟩ := hr.form' LZ (by omega)
  have FX := Lib.hid hi
  replace FM := Lib.hid (FM.out.below hb (by omega))
  replace FD := Lib.hid (FD.out.below hb (by omega))
  replace MB := Lib.hid ((hb.block w1.heap.size (by omega)).trans MB.out)
  replace T := Lib.hid (T.out.trans (hb.mono (by omega)))
  clear hr hi hb
  obtain ⟨⟨d0, d1, d2⟩, -⟩ := cells3 MB.out
  go_wp2_with fail
  clear d0 d1 d2
  refine (HK2.out _ _ _ hcm hcm' (FM.out.le (by omega))).mono ?_
  rintro e w4 ⟨v4, rfl, hr, hb⟩
  have s4 := hb.size
  obtain ⟨at4, ct4, rfl, ⟨hct, hct'⟩, hi⟩ := hr.form3 LU (by omega)
  replace FM := Lib.hid (FM.out.below hb (by omega))
  replace FD := Lib.hid (FD.out.below hb (by omega))
  replace FX := Lib.hid (FX.out.below hb (by omega))
  replace MB := Lib.hid ((hb.block w1.heap.size (by omega)).trans MB.out)
  replace T := Lib.hid (T.out.trans (hb.mono (by omega)))
  have FT := Lib.hid hi
  clear hr hi hb
  go_wp2_with fail
  refine (HK3.out _ _ _ _ _ hct hct' FT.out (FD.out.le (by omega)) (HE.out.below hlt T.out)).mono ?_
  rintro e w5 ⟨v5, rfl, hr, hb⟩
  have s5 := hb.size
  obtain ⟨ay, cy, rfl, hi⟩ := hr.form' LZ (by omega)
  have FY := Lib.hid hi
  replace FM := Lib.hid (FM.out.below hb (by omega))
  replace FX := Lib.hid (FX.out.below hb (by omega))
  replace MB := Lib.hid ((hb.block w1.heap.size (by omega)).trans MB.out)
  replace T := Lib.hid (T.out.trans (hb.mono (by omega)))
  clear hr hi hb FT FD
  go_wp2_with fail
  refine (sameInts_self _ _ _ _ _ _ _ (FX.out.le (by omega)) (FY.out.le (by omega))).mono ?_
  rintro e w6 ⟨rfl, hb⟩
  have s6 := hb.size
  replace FM := Lib.hid (FM.out.below hb (by omega))
  replace MB := Lib.hid ((hb.block w1.heap.size (by omega)).trans MB.out)
  replace T := Lib.hid (T.out.trans (hb.mono (by omega)))
  clear hb FX FY
  obtain ⟨⟨d0, d1, d2⟩, -⟩ := cells3 MB.out
  go_upto_region 8 with fail
  go_cut [53] (fun t wx => t = .bool false ∧ Below w6.heap.size w6 wx)
  case first =>
    have hdr : Below w6.heap.size w6 w6.drew := (Below.refl _ _).drew
    have fmd : IntsIn w6.drew.heap.size w6.drew am nx xs := (FM.out.below hdr (by omega)).le (by show w1.heap.size ≤ w6.heap.size; omega)
    have mbd : w6.drew.heap[w1.heap.size]? = some (.cells #[.int .i64 r, .int .i64 c, .slice am nx cm] 26 (0, 0)) := MB.out
    have sd : w6.heap.size ≤ w6.drew.heap.size := hdr.size
    have FMD := Lib.hid fmd
    have MBD := Lib.hid mbd
    have DR := Lib.hid hdr
    clear fmd mbd hdr
    cases pm
    · go_region_law (go_simp; go_at_call 13; (with_reducible refine (HK4.out _ _ _ FMD.out).mono ?_); rintro e wk ⟨rfl, hb⟩; have BK := Lib.hid (DR.out.trans (hb.mono (by omega))); obtain ⟨⟨k0, k1, k2⟩, -⟩ := cells3 ((hb.block w1.heap.size (by omega)).trans MBD.out); clear hb)
      all_goals
        go_wp2_with fail
        go_meet
        case rel => exact ⟨rfl, BK.out⟩
    · have K5 := fun (w : World) (a : Option Addr) (cp : Nat) (hcp : nu ≤ cp) (hcap : cp ≤ 9223372036854775807) (h : IntsIn w.heap.size w a nu U) => implTranspose_any w R C a nu cp U h hcp hcap
      rw [(HTT.out rfl).1, (HTT.out rfl).2.1, (HTT.out rfl).2.2] at K5
      have HK5 := Lib.hid K5
      clear K5
      go_region_law (first
        | (go_simp; go_at_call 13; (with_reducible refine (HK4.out _ _ _ FMD.out).mono ?_); rintro e wk ⟨rfl, hb⟩; have sk := hb.size; have BK := Lib.hid (DR.out.trans (hb.mono (by omega))); have mk := (hb.block w1.heap.size (by omega)).trans MBD.out; obtain ⟨⟨k0, k1, k2⟩, -⟩ := cells3 mk; have MK := Lib.hid mk; have FK := Lib.hid ((FMD.out.below hb (Nat.le_refl _)).le hb.size); clear hb mk)
        | (go_simp; go_at_call 11; (with_reducible refine (HK2.out _ _ _ hcm hcm' FK.out).mono ?_); rintro e wl ⟨vl, rfl, hr, hb⟩; have sl := hb.size; have BL := Lib.hid (BK.out.trans (hb.mono (by omega))); have ml := (hb.block w1.heap.size (by omega)).trans MK.out; obtain ⟨⟨l0, l1, l2⟩, -⟩ := cells3 ml; have ML := Lib.hid ml; have FL := Lib.hid ((FK.out.below hb (Nat.le_refl _)).le hb.size); obtain ⟨al, cl, rfl, ⟨hcl, hcl'⟩, hi⟩ := hr.form3 LU (by omega); have FTL := Lib.hid hi; clear hr hi hb ml)
        | (go_simp; go_at_call 11; (with_reducible refine (HK5.out _ _ _ hcl hcl' FTL.out).mono ?_); rintro e wn ⟨vn, rfl, hr, hb⟩; have sn := hb.size; have BN := Lib.hid (BL.out.trans (hb.mono (by omega))); have mn := (hb.block w1.heap.size (by omega)).trans ML.out; obtain ⟨⟨n0, n1, n2⟩, -⟩ := cells3 mn; have FN := Lib.hid ((FL.out.below hb (Nat.le_refl _)).le hb.size); obtain ⟨an, cn, rfl, hi⟩ := hr.form' LX (by omega); have FTN := Lib.hid hi; clear hr hi hb mn)
        | (go_simp; go_at_call 14; (with_reducible refine (sameMat_self _ _ _ _ _ _ _ _ _ FTN.out FN.out).mono ?_); rintro e wo ⟨rfl, hb⟩; have BO := Lib.hid (BN.out.trans (hb.mono (by omega))); clear hb))
      all_goals
        go_wp2_with fail
        go_meet
        case rel => exact ⟨rfl, BO.out⟩
  case rest =>
    obtain ⟨rfl, hb⟩ := hcut
    clear d0 d1 d2
    obtain ⟨w7, rfl⟩ : ∃ x, x = wc := ⟨_, rfl⟩
    have s7 := hb.size
    replace T := Lib.hid (T.out.trans (hb.mono (by omega)))
    clear hb FM MB HK1 HK2 HK3 HK4 HTT LX LZ LU
    go_wp2_with fail
    refine (drawOuter_e _ p cap bs ((HC.out.below T.out).le T.out.size)).mono ?_
    rintro e w8 ⟨va, us, vb, vs, rfl, ⟨hu7, hv7⟩, hra, hrb, hb⟩
    have s8 := hb.size
    obtain ⟨na, hna⟩ : ∃ na, us.length = na := ⟨_, rfl⟩
    obtain ⟨nb, hnb⟩ : ∃ nb, vs.length = nb := ⟨_, rfl⟩
    rw [hna] at hu7
    rw [hnb] at hv7
    obtain ⟨aa, ca, rfl, hia⟩ := hra.form' (Lib.hid hna) (by omega)
    obtain ⟨ab, cb, rfl, hib⟩ := hrb.form' (Lib.hid hnb) (by omega)
    replace T := Lib.hid (T.out.trans (hb.mono (by omega)))
    have FA := Lib.hid hia
    have FB := Lib.hid hib
    clear hra hrb hia hib hb hna hnb
    have ho := out_tr us vs
    obtain ⟨RO, hRO⟩ : ∃ x, outR us vs = x := ⟨_, rfl⟩
    obtain ⟨CO, hCO⟩ : ∃ x, outC us vs = x := ⟨_, rfl⟩
    obtain ⟨ZO, hZO⟩ : ∃ x, outN us vs = x := ⟨_, rfl⟩
    obtain ⟨uo, huo⟩ : ∃ x, outB us vs = x := ⟨_, rfl⟩
    obtain ⟨RQ, hRQ⟩ : ∃ x, outR vs us = x := ⟨_, rfl⟩
    obtain ⟨CQ, hCQ⟩ : ∃ x, outC vs us = x := ⟨_, rfl⟩
    obtain ⟨ZQ, hZQ⟩ : ∃ x, outN vs us = x := ⟨_, rfl⟩
    have hlo := outN_length us vs
    have hlq := outN_length vs us
    have K6 := fun (w : World) (a : Option Addr) (c : Nat) (a2 : Option Addr) (c2 : Nat) (h1 : IntsIn w.heap.size w a na us) (h2 : IntsIn w.heap.size w a2 nb vs) (hg : LaidE w) => implOuter_any w a na c us a2 nb c2 vs h1 h2 hg
    have K7 := fun (w : World) (a : Option Addr) (c : Nat) (a2 : Option Addr) (c2 : Nat) (h1 : IntsIn w.heap.size w a nb vs) (h2 : IntsIn w.heap.size w a2 na us) (hg : LaidE w) => implOuter_any w a nb c vs a2 na c2 us h1 h2 hg
    rw [hRO, hCO, hZO, huo, hRQ, hCQ, hZQ] at ho
    rw [hRO, hCO, hZO, huo] at K6
    rw [hRQ, hCQ, hZQ, ho.1] at K7
    rw [hZO] at hlo
    rw [hZQ] at hlq
    obtain ⟨no, hno⟩ : ∃ no, ZO.length = no := ⟨_, rfl⟩
    obtain ⟨nq', hnq⟩ : ∃ nq', ZQ.length = nq' := ⟨_, rfl⟩
    rw [hno] at hlo
    rw [hnq] at hlq
    have K8 := fun (w : World) (a : Option Addr) (cp : Nat) (hcp : no ≤ cp) (hcap : cp ≤ 9223372036854775807) (h : IntsIn w.heap.size w a no ZO) => implTranspose_any w RO CO a no cp ZO h hcp hcap
    rw [ho.2.1, ho.2.2.1, ho.2.2.2] at K8
    have HK6 := Lib.hid K6
    have HK7 := Lib.hid K7
    have HK8 := Lib.hid K8
    have LO := Lib.hid hno
    have LQ := Lib.hid hnq
    clear ho hRO hCO hZO huo hRQ hCQ hZQ K6 K7 K8 hno hnq
    go_wp2_with fail
    refine (HK6.out _ _ _ _ _ FA.out FB.out (HE.out.below hlt T.out)).mono ?_
    rintro e w9 ⟨vo, rfl, hr, hb⟩
    have s9 := hb.size
    obtain ⟨ao, co, rfl, ⟨hco, hco'⟩, hi⟩ := hr.form3 LO (by omega)
    have FO := Lib.hid hi
    replace FA := Lib.hid (FA.out.below hb (Nat.le_refl _))
    replace FB := Lib.hid (FB.out.below hb (Nat.le_refl _))
    replace T := Lib.hid (T.out.trans (hb.mono (by omega)))
    clear hr hi hb
    go_wp2_with fail
    have hk := heap_alloc_new w9 (.cells #[.int .i64 RO, .int .i64 CO, .slice ao no co] 26 (0, 0))
    have hb := (Below.refl w9.heap.size w9).alloc (Nat.le_refl _) (.cells #[.int .i64 RO, .int .i64 CO, .slice ao no co] 26 (0, 0))
    have s10 : w9.heap.size < (w9.alloc (.cells #[.int .i64 RO, .int .i64 CO, .slice ao no co] 26 (0, 0))).heap.size := by simp
    generalize w9.alloc (.cells #[.int .i64 RO, .int .i64 CO, .slice ao no co] 26 (0, 0)) = w10 at hk hb s10 ⊢
    have OB := Lib.hid hk
    replace FA := Lib.hid (FA.out.below hb (by omega))
    replace FB := Lib.hid (FB.out.below hb (by omega))
    replace FO := Lib.hid (FO.out.below hb (by omega))
    replace T := Lib.hid (T.out.trans (hb.mono (by omega)))
    clear hk hb
    refine (HK7.out _ _ _ _ _ (FB.out.le (by omega)) (FA.out.le (by omega)) (HE.out.below hlt T.out)).mono ?_
    rintro e w11 ⟨vq, rfl, hr, hb⟩
    have s11 := hb.size
    obtain ⟨aq, cq, rfl, hi⟩ := hr.form' LQ (by omega)
    have FQ := Lib.hid hi
    replace FO := Lib.hid (FO.out.below hb (by omega))
    replace OB := Lib.hid ((hb.block w9.heap.size (by omega)).trans OB.out)
    replace T := Lib.hid (T.out.trans (hb.mono (by omega)))
    clear hr hi hb FA FB
    go_wp2_with fail
    have hk := heap_alloc_new w11 (.cells #[.int .i64 RQ, .int .i64 CQ, .slice aq nq' cq] 26 (0, 0))
    have hb := (Below.refl w11.heap.size w11).alloc (Nat.le_refl _) (.cells #[.int .i64 RQ, .int .i64 CQ, .slice aq nq' cq] 26 (0, 0))
    have s12 : w11.heap.size < (w11.alloc (.cells #[.int .i64 RQ, .int .i64 CQ, .slice aq nq' cq] 26 (0, 0))).heap.size := by simp
    generalize w11.alloc (.cells #[.int .i64 RQ, .int .i64 CQ, .slice aq nq' cq] 26 (0, 0)) = w12 at hk hb s12 ⊢
    have QB := Lib.hid hk
    replace FO := Lib.hid (FO.out.below hb (by omega))
    replace FQ := Lib.hid (FQ.out.below hb (Nat.le_refl _))
    replace OB := Lib.hid ((hb.block w9.heap.size (by omega)).trans OB.out)
    replace T := Lib.hid (T.out.trans (hb.mono (by omega)))
    clear hk hb
    obtain ⟨⟨o0, o1, o2⟩, -⟩ := cells3 OB.out
    obtain ⟨⟨q0, q1, q2⟩, -⟩ := cells3 QB.out
    have hdr : Below w12.heap.size w12 w12.drew := (Below.refl _ _).drew
    have fod : IntsIn w12.drew.heap.size w12.drew ao no ZO := (FO.out.below hdr (by omega)).le (by show w9.heap.size ≤ w12.heap.size; omega)
    have fqd : IntsIn w12.drew.heap.size w12.drew aq nq' ZQ := (FQ.out.below hdr (by omega)).le (by show w11.heap.size ≤ w12.heap.size; omega)
    have qbd : w12.drew.heap[w11.heap.size]? = some (.cells #[.int .i64 RQ, .int .i64 CQ, .slice aq nq' cq] 26 (0, 0)) := QB.out
    have sd : w12.heap.size ≤ w12.drew.heap.size := hdr.size
    have FOD := Lib.hid fod
    have FQD := Lib.hid fqd
    have QBD := Lib.hid qbd
    have DR := Lib.hid (T.out.trans (hdr.mono (by omega)))
    clear hdr fod fqd qbd
    cases uo
    all_goals
      go_region_law (first
        | (go_simp; go_at_call 11; (with_reducible refine (HK8.out _ _ _ hco hco' FOD.out).mono ?_); rintro e wl ⟨vl, rfl, hr, hb⟩; have sl := hb.size; have BL := Lib.hid (DR.out.trans (hb.mono (by omega))); obtain ⟨⟨l0, l1, l2⟩, -⟩ := cells3 ((hb.block w11.heap.size (by omega)).trans QBD.out); have FL := Lib.hid ((FQD.out.below hb (Nat.le_refl _)).le hb.size); obtain ⟨al, cl, rfl, hi⟩ := hr.form' LQ (by omega); have FTL := Lib.hid hi; clear hr hi hb)
        | (go_simp; go_at_call 14; (with_reducible refine (sameMat_self _ _ _ _ _ _ _ _ _ FTL.out FL.out).mono ?_); rintro e wo ⟨rfl, hb⟩; have BO := Lib.hid (BL.out.trans (hb.mono (by omega))); clear hb))
      all_goals
        go_wp2_with fail
        go_ret
        exact ⟨rfl, BO.out⟩

set_option maxRecDepth 100000 in
theorem lawMatrices_big (w : World) (a : Option Addr) (len cap : Nat) (hm : len ≤ 9223372036854775807) (hbig : 1048576 < len) :
    Calls Tryd.prog 3 #[.slice a len cap] w fun e w' => e = .returned (.bool true) ∧ Below w.heap.size w w' := by
  go_enter Tryd.func3, Tryd.ntmps3
  go_wp2_with fail
  refine (big_yes a len cap hbig hm _).mono ?_
  rintro e w' ⟨rfl, rfl⟩
  go_wp2_with fail
  go_ret
  exact ⟨rfl, Below.refl _ _⟩
theorem lawMatrices (w : World) (a : Option Addr) (len cap : Nat) (hm : len ≤ 9223372036854775807) (hE : LaidE w)
    (hb : ∃ bs : List UInt8, bs.length = len ∧ ∀ j (hj : j < bs.length), ∃ b o, a = some ⟨b, o, none⟩ ∧ b < w.heap.size ∧ w.cell? ⟨b, o + j, none⟩ = some (.int .u8 (bs[j].toNat : Int))) :
    Calls Tryd.prog 3 #[.slice a len cap] w fun e w' => e = .returned (.bool true) ∧ Below w.heap.size w w' :=
  law_of _ w a len cap hm hb (lawMatrices_big w a len cap hm) (fun bs hc => lawMatrices_small w a cap bs hc hE)
end Go.Proofs.YtdmkbmpgcpggdaaDoor
