/-
  What is let in: the program's SavedWords (mkadmi.py).
-/
import Derived.Test.YtkflinobmagiiaaAdmF
import Derived.Lib.QuietBelow
import Derived.Deep.QuietTactic
import Derived.BigQuiet
namespace Go.Proofs.Ytkflinobmagiiaa
open Go.RowKit Go.Sort
set_option linter.unusedVariables false
set_option linter.unusedSimpArgs false

set_option maxRecDepth 100000 in
set_option maxHeartbeats 3200000 in
theorem implSavedWords_d (w : World) (es : List Value) (x : dConfig) (h : shConfig.reads (Under w.heap.size) w es x) (hb : shConfig.bulk x ≤ 1048576) (s : Int) :
    Calls Try.prog 15 #[.agg es.toArray, .int .i64 s] w fun e w' => e = .returned ((.int .i64 (savedN x.1 x.2.1 x.2.2.2.1 s))) ∧ Below w.heap.size w w' := by
  obtain ⟨m, l, ds, r, cp, lm⟩ := x
  obtain ⟨a0, n0, c0, a1, n1, c1, a2, n2, c2, a3, n3, c3, a4, n4, c4, rfl, hp, hq, hm, hbm, hl, ⟨hr0, hr⟩, hcp, hlm⟩ := conf_in h hb
  try dsimp only
  have hal : Below w.heap.size w (w.alloc (.cells #[.slice a0 n0 c0, .slice a1 n1 c1, .int .i64 ds, .slice a2 n2 c2, .slice a3 n3 c3, .slice a4 n4 c4] 30 (0, 0))) := (Below.refl _ _).alloc (Nat.le_refl _) _
  have hb0 := heap_alloc_new w (.cells #[.slice a0 n0 c0, .slice a1 n1 c1, .int .i64 ds, .slice a2 n2 c2, .slice a3 n3 c3, .slice a4 n4 c4] 30 (0, 0))
  have hs0 : (w.alloc (.cells #[.slice a0 n0 c0, .slice a1 n1 c1, .int .i64 ds, .slice a2 n2 c2, .slice a3 n3 c3, .slice a4 n4 c4] 30 (0, 0))).heap.size = w.heap.size + 1 := by simp
  have HRD := Lib.hid fun (wx : World) (hx : Below w.heap.size w wx) => Shape.le _ (Shape.below _ h hx (Nat.le_refl _)) hx.size
  have HBK := Lib.hid hb
  have HMM := Lib.hid fun (wx : World) (hx : Below w.heap.size w wx) => (hm.below hx (Nat.le_refl _)).le hx.size
  have HLL := Lib.hid fun (wx : World) (hx : Below w.heap.size w wx) => (hl.below hx (Nat.le_refl _)).le hx.size
  have HMN := Lib.hid hm.1
  have HM := Lib.hid hm
  have HR := Lib.hid hr
  have HLN := Lib.hid hl.len
  have HA := Lib.hid hal
  have HB0 := Lib.hid hb0
  have hn1 : n1 ≤ 1048576 := hl.room
  have hn2 := hr0
  clear hal hb0 hr0
  obtain ⟨f, t, ef, et, hok⟩ := range_ok m l s
  have hpo := partA_ok ef et hok
  have HOK := Lib.hid hok
  have HPO := Lib.hid hpo
  have HPT := Lib.hid fun (wx : World) (hx : Below w.heap.size w wx) => implPart_d wx _ _ (Shape.le _ (Shape.below _ h hx (Nat.le_refl _)) hx.size) hb s
  have hfv : fullN m l s = fullT m f t := by unfold fullN; rw [ef, et, Int.toNat_natCast, Int.toNat_natCast]
  have hsv : savedN m l r s = savedT m (redoB r s) f t := by unfold savedN; rw [ef, et, Int.toNat_natCast, Int.toNat_natCast]
  have hgi := hpo.ins
  obtain ⟨q, hq'⟩ : ∃ q, partN m l s = q := ⟨_, rfl⟩
  rw [hq'] at hgi
  have HQ := Lib.hid hq'
  have HGI := Lib.hid hgi
  have HFW := Lib.hid fun (wx : World) (hx : Below w.heap.size w wx) => implFullWords_d wx _ _ (Shape.le _ (Shape.below _ h hx (Nat.le_refl _)) hx.size) hb s
  have HRD2 := Lib.hid fun (wx : World) (hx : Below w.heap.size w wx) => implRedoes_d wx _ _ (Shape.le _ (Shape.below _ h hx (Nat.le_refl _)) hx.size) hb s
  dsimp only at HFW HRD2
  simp only [hfv] at HFW
  obtain ⟨V, hV⟩ : ∃ V, fullT m f t = V := ⟨_, rfl⟩
  simp only [hV] at HFW
  obtain ⟨RB, hRB⟩ : ∃ b, redoB r s = b := ⟨_, rfl⟩
  simp only [hRB] at HRD2
  have HSV := Lib.hid (show savedN m l r s = savedT m RB f t by rw [hsv, hRB])
  have HV := Lib.hid hV
  clear h hb hm hbm hl hr hcp hlm hp hq
  clear hok hpo hfv hsv ef et HRD HLL HMM HM HR hgi hq' hV hRB
  go_enter Try.func15, Try.ntmps15
  go_upto_region 1 with fail
  generalize w.alloc (.cells #[.slice a0 n0 c0, .slice a1 n1 c1, .int .i64 ds, .slice a2 n2 c2, .slice a3 n3 c3, .slice a4 n4 c4] 30 (0, 0)) = wa at HA HB0 hs0 ⊢
  obtain ⟨z0, z1, z2, z3, z4, z5⟩ := box6 HB0.out
  go_wp2_with fail
  refine (HRD2.out wa HA.out).mono ?_
  rintro e w1 ⟨rfl, hb⟩
  clear z0 z1 z2 z3 z4 z5
  obtain ⟨z0, z1, z2, z3, z4, z5⟩ := box6 ((hb.block w.heap.size (by omega)).trans HB0.out)
  have HW1 := Lib.hid (HA.out.trans (hb.mono HA.out.size))
  clear hb
  cases RB
  · have HRE := Lib.hid (show savedN m l r s = V by rw [HSV.out]; exact HV.out)
    go_wp2_with fail
    refine (HFW.out w1 HW1.out).mono ?_
    rintro e w2 ⟨rfl, hb⟩
    have HW2 := Lib.hid (HW1.out.trans (hb.mono HW1.out.size))
    clear hb
    go_wp2_with fail
    go_ret
    exact ⟨by rw [HRE.out]; rfl, HW2.out⟩
  · have HRE := Lib.hid (show savedN m l r s = inG q by rw [HSV.out, HGI.out]; rfl)
    go_wp2_with fail
    refine (HPT.out w1 HW1.out).mono ?_
    rintro e w2 ⟨ap, np, cp', rfl, hn8, hnc, hcc, hlp, hb⟩
    have hlq : ListAt shOp (Under w2.heap.size) w2 ap np q := by rw [← HQ.out]; exact hlp.le hb.size
    have HIN := Lib.hid (implIn_c w2 ap np cp' q hlq hn8)
    have HW2 := Lib.hid (HW1.out.trans (hb.mono HW1.out.size))
    obtain ⟨G, hG⟩ : ∃ G, inG q = G := ⟨_, rfl⟩
    rw [hG] at HIN HRE
    clear hlp hlq hb hG hn8 hnc hcc
    go_wp2_with fail
    refine HIN.out.mono ?_
    rintro e w3 ⟨rfl, rfl⟩
    go_wp2_with fail
    go_ret
    exact ⟨by rw [HRE.out]; rfl, HW2.out⟩
end Go.Proofs.Ytkflinobmagiiaa
