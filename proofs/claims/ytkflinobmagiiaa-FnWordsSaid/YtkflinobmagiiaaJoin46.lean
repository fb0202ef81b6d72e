import Derived.Test.YtkflinobmagiiaaJoin45
import Derived.Lib.QuietBelow
import Derived.Deep.QuietTactic
import Derived.BigQuiet
/-! YtkflinobmagiiaaAdmF -/
section

namespace Go.Proofs.Ytkflinobmagiiaa
open Go.RowKit Go.Sort
set_option linter.unusedVariables false
set_option linter.unusedSimpArgs false

set_option maxRecDepth 100000 in
set_option maxHeartbeats 3200000 in
theorem implFullWords_d (w : World) (es : List Value) (x : dConfig) (h : shConfig.reads (Under w.heap.size) w es x) (hb : shConfig.bulk x ≤ 1048576) (s : Int) :
    Calls Try.prog 14 #[.agg es.toArray, .int .i64 s] w fun e w' => e = .returned ((.int .i64 (fullN x.1 x.2.1 s))) ∧ Below w.heap.size w w' := by
  obtain ⟨m, l, ds, r, cp, lm⟩ := x
  obtain ⟨a0, n0, c0, a1, n1, c1, a2, n2, c2, a3, n3, c3, a4, n4, c4, rfl, hp, hq, hm, hbm, hl, ⟨hr0, hr⟩, hcp, hlm⟩ := conf_in h hb
  try dsimp only
  have hal : Below w.heap.size w (w.alloc (.cells #[.slice a0 n0 c0, .slice a1 n1 c1, .int .i64 ds, .slice a2 n2 c2, .slice a3 n3 c3, .slice a4 n4 c4] 30 (0, 0))) := (Below.refl _ _).alloc (Nat.le_refl _) _
  have hb0 := heap_alloc_new w (.cells #[.slice a0 n0 c0, .slice a1 n1 c1, .int .i64 ds, .slice a2 n2 c2, .slice a3 n3 c3, .slice a4 n4 c4] 30 (0, 0))
  have hs0 : (w.alloc (.cells #[.slice a0 n0 c0, .slice a1 n1 c1, .int .i64 ds, .slice a2 n2 c2, .slice a3 n3 c3, .slice a4 n4 c4] 30 (0, 0))).heap.size = w.heap.size + 1 := by simp
  have HRD := Lib.hid fun (wx : World) (hx : Below w.heap.size w wx) => Shape.le _ (Shape.below _ h hx (Nat.le_refl _)) hx.size
  have HBK := Lib.hid hb
  have HMM := Lib.hid fun (wx : World) (hx : Below w.heap.size w wx) => (hm.below hx (Nat.le_refl _)).le hx.size
  have HLL := Lib.hid fun (wx : World) (hx : Below w.heap.size w wx) => (hl.below hx (Nat.le_refl _)).le hx.size
  have HMN := Lib.hid hm.1
  have HM := Lib.hid hm
  have HR := Lib.hid hr
  have HLN := Lib.hid hl.len
  have HA := Lib.hid hal
  have HB0 := Lib.hid hb0
  have hn1 : n1 ≤ 1048576 := hl.room
  have hn2 := hr0
  clear hal hb0 hr0
  obtain ⟨f, t, ef, et, hok⟩ := range_ok m l s
  have hpo := partA_ok ef et hok
  have HOK := Lib.hid hok
  have HPO := Lib.hid hpo
  have HPT := Lib.hid fun (wx : World) (hx : Below w.heap.size w wx) => implPart_d wx _ _ (Shape.le _ (Shape.below _ h hx (Nat.le_refl _)) hx.size) hb s
  have hfv : fullN m l s = fullT m f t := by unfold fullN; rw [ef, et, Int.toNat_natCast, Int.toNat_natCast]
  have HFV := Lib.hid (hfv.trans hpo.sum.symm)
  have hss := hpo.few
  have hpl := hpo.len
  obtain ⟨q, hq'⟩ : ∃ q, partN m l s = q := ⟨_, rfl⟩
  rw [hq'] at hss hpl HFV
  have HQ := Lib.hid hq'
  have HSS := Lib.hid hss
  clear h hb hm hbm hl hr hcp hlm hp hq
  clear hok hpo hfv ef et HRD HLL HMM HM HR hss hq'
  go_enter Try.func14, Try.ntmps14
  go_upto_region 2 with fail
  generalize w.alloc (.cells #[.slice a0 n0 c0, .slice a1 n1 c1, .int .i64 ds, .slice a2 n2 c2, .slice a3 n3 c3, .slice a4 n4 c4] 30 (0, 0)) = wa at HA HB0 hs0 ⊢
  obtain ⟨z0, z1, z2, z3, z4, z5⟩ := box6 HB0.out
  go_wp2_with fail
  refine (HPT.out wa HA.out).mono ?_
  rintro e w1 ⟨ap, np, cp', rfl, hn8, hnc, hcc, hlp, hb⟩
  clear z0 z1 z2 z3 z4 z5
  have hlq : ListAt shOp (Under w1.heap.size) w1 ap np q := by rw [← HQ.out]; exact hlp.le hb.size
  have HSC := Lib.hid (implSizesA_c w1 ap np cp' q hlq hn8)
  have HW1 := Lib.hid (HA.out.trans (hb.mono HA.out.size))
  have HNQ := Lib.hid (show np = q.length from hlq.1.symm)
  clear hlp hb hlq
  go_wp2_with fail
  refine HSC.out.mono ?_
  rintro e w2 ⟨ar, cr', rfl, hc1, hc2, hr, hb⟩
  have hlen : (sizesA q).length = np + 1 := by rw [HNQ.out]; simp [sizesA]
  obtain ⟨R, hR⟩ : ∃ R, sizesA q = R := ⟨_, rfl⟩
  have hss := HSS.out
  rw [hR] at hr hlen hss
  obtain ⟨ar2, cr2, e', hi⟩ := hr.form
  rw [hlen] at e' hi
  cases e'
  have HI := Lib.hid (hi (by omega))
  have HW2 := Lib.hid (HW1.out.trans (hb.mono HW1.out.size))
  have HSS2 := Lib.hid hss
  have HLN2 := Lib.hid hlen
  have HR := Lib.hid hR
  obtain ⟨N, hN⟩ : ∃ N, np + 1 = N := ⟨_, rfl⟩
  rw [hN] at HI HLN2 ⊢
  have hN9 : N ≤ 9 := by omega
  clear hr hlen hss hR hi hb hc1 hc2 hN hnc hcc hn8 HSC HPT
  go_wp2_with fail
  go_loopw [5, 13] (fun q' i wr => ∃ k : Nat, k ≤ N ∧ i = .int .i64 k ∧ q' = .int .i64 (R.take k).sum ∧ Below w2.heap.size w2 wr) (fun _ i _ => N - (intOf i).toNat)
  case atStart => exact ⟨0, Nat.zero_le _, rfl, rfl, Below.refl _ _⟩
  case round =>
    obtain ⟨k, hk, rfl, rfl, hbw⟩ := hrel
    have hsz := hbw.size
    have hww : Below w.heap.size w wr := HW2.out.trans (hbw.mono HW2.out.size)
    by_cases hkt : k < N
    · obtain ⟨b, o, rfl, hbB, hc0⟩ := HI.out.cells k hkt
      have hb1 := sumA_six (R := R.take k) fun x hx => HSS2.out x (List.mem_of_mem_take hx)
      have hb2 := sumA_six (R := R.take (k + 1)) fun x hx => HSS2.out x (List.mem_of_mem_take hx)
      have hl1 : (R.take k).length ≤ 9 := by rw [List.length_take]; omega
      have hl2 : (R.take (k + 1)).length ≤ 9 := by rw [List.length_take]; omega
      have ht := takeA_sum (R := R) (k := k) (by rw [HLN2.out]; exact hkt)
      obtain ⟨S, hS⟩ : ∃ S, (R.take k).sum = S := ⟨_, rfl⟩
      obtain ⟨I, hI⟩ : ∃ I, R.getD k 0 = I := ⟨_, rfl⟩
      rw [hS, hI] at ht
      rw [hS] at hb1
      rw [hI] at hc0
      have hw0 : wrap64 (S + I) = S + I := IntWalk.wrap64_in _ (by omega)
      have HT := Lib.hid ht
      have HBW := Lib.hid hbw
      have c0 := (hbw.cell (p := ⟨b, o + k, none⟩) hbB).trans hc0
      rw [hS]
      clear hc0 hb1 hb2 hl1 hl2 ht hS hI hww hbw
      go_wp2_with fail
      go_roundw
      case rel => exact ⟨k + 1, by omega, by go_num, by rw [HT.out, hw0], HBW.out⟩
      case measure => simp [intOf]; omega
    · obtain rfl : k = N := by omega
      have hfull : (R.take k).sum = R.sum := by rw [List.take_of_length_le (by rw [HLN2.out]; omega)]
      rw [hfull]
      have HRE := Lib.hid (show fullN m l s = R.sum by rw [HFV.out, HR.out])
      obtain ⟨Z, hZ⟩ : ∃ Z, R.sum = Z := ⟨_, rfl⟩
      rw [hZ] at HRE ⊢
      have HWW := Lib.hid hww
      clear hfull hZ hww hbw
      go_wp2_with fail
      go_ret
      exact ⟨by rw [HRE.out]; rfl, HWW.out⟩
end Go.Proofs.Ytkflinobmagiiaa

end

/-! YtkflinobmagiiaaAdmW -/
section

namespace Go.Proofs.Ytkflinobmagiiaa
open Go.RowKit Go.Sort
set_option linter.unusedVariables false
set_option linter.unusedSimpArgs false

set_option maxRecDepth 100000 in
set_option maxHeartbeats 3200000 in
theorem implSavedWords_d (w : World) (es : List Value) (x : dConfig) (h : shConfig.reads (Under w.heap.size) w es x) (hb : shConfig.bulk x ≤ 1048576) (s : Int) :
    Calls Try.prog 15 #[.agg es.toArray, .int .i64 s] w fun e w' => e = .returned ((.int .i64 (savedN x.1 x.2.1 x.2.2.2.1 s))) ∧ Below w.heap.size w w' := by
  obtain ⟨m, l, ds, r, cp, lm⟩ := x
  obtain ⟨a0, n0, c0, a1, n1, c1, a2, n2, c2, a3, n3, c3, a4, n4, c4, rfl, hp, hq, hm, hbm, hl, ⟨hr0, hr⟩, hcp, hlm⟩ := conf_in h hb
  try dsimp only
  have hal : Below w.heap.size w (w.alloc (.cells #[.slice a0 n0 c0, .slice a1 n1 c1, .int .i64 ds, .slice a2 n2 c2, .slice a3 n3 c3, .slice a4 n4 c4] 30 (0, 0))) := (Below.refl _ _).alloc (Nat.le_refl _) _
  have hb0 := heap_alloc_new w (.cells #[.slice a0 n0 c0, .slice a1 n1 c1, .int .i64 ds, .slice a2 n2 c2, .slice a3 n3 c3, .slice a4 n4 c4] 30 (0, 0))
  have hs0 : (w.alloc (.cells #[.slice a0 n0 c0, .slice a1 n1 c1, .int .i64 ds, .slice a2 n2 c2, .slice a3 n3 c3, .slice a4 n4 c4] 30 (0, 0))).heap.size = w.heap.size + 1 := by simp
  have HRD := Lib.hid fun (wx : World) (hx : Below w.heap.size w wx) => Shape.le _ (Shape.below _ h hx (Nat.le_refl _)) hx.size
  have HBK := Lib.hid hb
  have HMM := Lib.hid fun (wx : World) (hx : Below w.heap.size w wx) => (hm.below hx (Nat.le_refl _)).le hx.size
  have HLL := Lib.hid fun (wx : World) (hx : Below w.heap.size w wx) => (hl.below hx (Nat.le_refl _)).le hx.size
  have HMN := Lib.hid hm.1
  have HM := Lib.hid hm
  have HR := Lib.hid hr
  have HLN := Lib.hid hl.len
  have HA := Lib.hid hal
  have HB0 := Lib.hid hb0
  have hn1 : n1 ≤ 1048576 := hl.room
  have hn2 := hr0
  clear hal hb0 hr0
  obtain ⟨f, t, ef, et, hok⟩ := range_ok m l s
  have hpo := partA_ok ef et hok
  have HOK := Lib.hid hok
  have HPO := Lib.hid hpo
  have HPT := Lib.hid fun (wx : World) (hx : Below w.heap.size w wx) => implPart_d wx _ _ (Shape.le _ (Shape.below _ h hx (Nat.le_refl _)) hx.size) hb s
  have hfv : fullN m l s = fullT m f t := by unfold fullN; rw [ef, et, Int.toNat_natCast, Int.toNat_natCast]
  have hsv : savedN m l r s = savedT m (redoB r s) f t := by unfold savedN; rw [ef, et, Int.toNat_natCast, Int.toNat_natCast]
  have hgi := hpo.ins
  obtain ⟨q, hq'⟩ : ∃ q, partN m l s = q := ⟨_, rfl⟩
  rw [hq'] at hgi
  have HQ := Lib.hid hq'
  have HGI := Lib.hid hgi
  have HFW := Lib.hid fun (wx : World) (hx : Below w.heap.size w wx) => implFullWords_d wx _ _ (Shape.le _ (Shape.below _ h hx (Nat.le_refl _)) hx.size) hb s
  have HRD2 := Lib.hid fun (wx : World) (hx : Below w.heap.size w wx) => implRedoes_d wx _ _ (Shape.le _ (Shape.below _ h hx (Nat.le_refl _)) hx.size) hb s
  dsimp only at HFW HRD2
  simp only [hfv] at HFW
  obtain ⟨V, hV⟩ : ∃ V, fullT m f t = V := ⟨_, rfl⟩
  simp only [hV] at HFW
  obtain ⟨RB, hRB⟩ : ∃ b, redoB r s = b := ⟨_, rfl⟩
  simp only [hRB] at HRD2
  have HSV := Lib.hid (show savedN m l r s = savedT m RB f t by rw [hsv, hRB])
  have HV := Lib.hid hV
  clear h hb hm hbm hl hr hcp hlm hp hq
  clear hok hpo hfv hsv ef et HRD HLL HMM HM HR hgi hq' hV hRB
  go_enter Try.func15, Try.ntmps15
  go_upto_region 1 with fail
  generalize w.alloc (.cells #[.slice a0 n0 c0, .slice a1 n1 c1, .int .i64 ds, .slice a2 n2 c2, .slice a3 n3 c3, .slice a4 n4 c4] 30 (0, 0)) = wa at HA HB0 hs0 ⊢
  obtain ⟨z0, z1, z2, z3, z4, z5⟩ := box6 HB0.out
  go_wp2_with fail
  refine (HRD2.out wa HA.out).mono ?_
  rintro e w1 ⟨rfl, hb⟩
  clear z0 z1 z2 z3 z4 z5
  obtain ⟨z0, z1, z2, z3, z4, z5⟩ := box6 ((hb.block w.heap.size (by omega)).trans HB0.out)
  have HW1 := Lib.hid (HA.out.trans (hb.mono HA.out.size))
  clear hb
  cases RB
  · have HRE := Lib.hid (show savedN m l r s = V by rw [HSV.out]; exact HV.out)
    go_wp2_with fail
    refine (HFW.out w1 HW1.out).mono ?_
    rintro e w2 ⟨rfl, hb⟩
    have HW2 := Lib.hid (HW1.out.trans (hb.mono HW1.out.size))
    clear hb
    go_wp2_with fail
    go_ret
    exact ⟨by rw [HRE.out]; rfl, HW2.out⟩
  · have HRE := Lib.hid (show savedN m l r s = inG q by rw [HSV.out, HGI.out]; rfl)
    go_wp2_with fail
    refine (HPT.out w1 HW1.out).mono ?_
    rintro e w2 ⟨ap, np, cp', rfl, hn8, hnc, hcc, hlp, hb⟩
    have hlq : ListAt shOp (Under w2.heap.size) w2 ap np q := by rw [← HQ.out]; exact hlp.le hb.size
    have HIN := Lib.hid (implIn_c w2 ap np cp' q hlq hn8)
    have HW2 := Lib.hid (HW1.out.trans (hb.mono HW1.out.size))
    obtain ⟨G, hG⟩ : ∃ G, inG q = G := ⟨_, rfl⟩
    rw [hG] at HIN HRE
    clear hlp hlq hb hG hn8 hnc hcc
    go_wp2_with fail
    refine HIN.out.mono ?_
    rintro e w3 ⟨rfl, rfl⟩
    go_wp2_with fail
    go_ret
    exact ⟨by rw [HRE.out]; rfl, HW2.out⟩
end Go.Proofs.Ytkflinobmagiiaa

end
