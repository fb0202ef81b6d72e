import Derived.Test.YtkflinobmagiiaaJoin38
import Derived.Test.YtkflinobmagiiaaJoin47
import Derived.Test.YtkflinobmagiiaaJoin11
import Derived.Lib.QuietBelow
import Derived.Deep.QuietTactic
import Derived.BigQuiet
import Derived.Test.YtkflinobmagiiaaJoin8
/-! YtkflinobmagiiaaWords -/
section

namespace Go.Proofs.Ytkflinobmagiiaa
open Go.RowKit Go.Sort
set_option linter.unusedVariables false
set_option linter.unusedSimpArgs false

theorem six_below {B X : Nat} {w w1 : World} (h : Below B w w1) (hX : B ≤ X) (u0 u1 u2 u3 u4 u5 : Value) :
    Below B w ((((((w1.setCell ⟨X, 0, none⟩ u0).setCell ⟨X, 1, none⟩ u1).setCell ⟨X, 2, none⟩ u2).setCell ⟨X, 3, none⟩ u3).setCell ⟨X, 4, none⟩ u4).setCell ⟨X, 5, none⟩ u5) :=
  (((((h.setCell (p := ⟨X, 0, none⟩) hX u0).setCell (p := ⟨X, 1, none⟩) hX u1).setCell (p := ⟨X, 2, none⟩) hX u2).setCell (p := ⟨X, 3, none⟩) hX u3).setCell (p := ⟨X, 4, none⟩) hX u4).setCell (p := ⟨X, 5, none⟩) hX u5
set_option maxRecDepth 100000 in
set_option maxHeartbeats 1600000 in
theorem drawPipeNew_e (w : World) (a : Option Addr) (cap : Nat) (bs : List UInt8) (hc : CodeIn w.heap.size w a bs) :
    Calls Try.prog 11 #[.slice a bs.length cap] w fun e w' =>
      ∃ es x ab n c b, e = .returned (.tuple #[.agg (es : List Value).toArray, .slice ab n c]) ∧ (shConfig.bulk x ≤ 1048576 ∧ b.length = n ∧ n ≤ 6 ∧ n ≤ c ∧ c ≤ 9223372036854775807 ∧ SmallB b) ∧
        shConfig.reads (Under w'.heap.size) w' es x ∧ ListAt shPair (Under w'.heap.size) w' ab n b ∧ Below w.heap.size w w' := by
  have hal : Below w.heap.size w (w.alloc (.cells #[.slice none 0 0, .slice none 0 0, .int .i64 0, .slice none 0 0, .slice none 0 0, .slice none 0 0] 30 (0, 0))) := (Below.refl _ _).alloc (Nat.le_refl _) _
  have HC := Lib.hid ((hc.below hal).le hal.size)
  have hb0 := heap_alloc_new w (.cells #[.slice none 0 0, .slice none 0 0, .int .i64 0, .slice none 0 0, .slice none 0 0, .slice none 0 0] 30 (0, 0))
  have hs0 : (w.alloc (.cells #[.slice none 0 0, .slice none 0 0, .int .i64 0, .slice none 0 0, .slice none 0 0, .slice none 0 0] 30 (0, 0))).heap.size = w.heap.size + 1 := by simp
  have HA := Lib.hid hal
  have HB0 := Lib.hid hb0
  clear hc hal hb0
  go_enter Try.func11, Try.ntmps11
  go_wp2_with fail
  generalize w.alloc (.cells #[.slice none 0 0, .slice none 0 0, .int .i64 0, .slice none 0 0, .slice none 0 0, .slice none 0 0] 30 (0, 0)) = wa at HC HA HB0 hs0 ⊢
  refine (l1New_e _ a cap bs HC.out).mono ?_
  rintro e w1 ⟨rfl, hcu, hg1⟩
  have hs1 := hg1.size
  rw [hs0] at hcu
  have hlt := hcu.lt
  have R0 := Lib.hid ((hg1.block w.heap.size (by omega) (fun e => by cases e)).trans HB0.out)
  have HT1 := Lib.hid (HA.out.trans (((Below.refl wa.heap.size wa).grown hg1 (Nat.le_refl _) (fun k h => by cases h)).mono (by omega : w.heap.size ≤ wa.heap.size)))
  clear hg1 HA HB0 HC
  go_wp2_with fail
  refine (l12Any_e _ _ _ hcu).mono ?_
  rintro e w2 ⟨es, x, ab, n, c, b, rfl, hbd, hrd, hbt, ht2⟩
  have hs2 := ht2.size
  obtain ⟨m, l, ds, r, cp, lm⟩ := x
  have HRD := Lib.hid hrd
  obtain ⟨a0, n0, c0, a1, n1, c1, a2, n2, c2, a3, n3, c3, a4, n4, c4, rfl, -⟩ := shConfig_reads.1 hrd
  dsimp only at HRD
  have hR := (ht2.block (k := w.heap.size) (by omega) (by omega)).trans R0.out
  have HT2 := Lib.hid (HT1.out.trans (ht2.below (by omega) (by omega)))
  have HBT := Lib.hid hbt
  have HBD := Lib.hid hbd
  obtain ⟨y0, y1, y2, y3, y4, y5⟩ := box6 hR
  have f0 : w2.frozen? ⟨w.heap.size, 0, none⟩ = false := frozen_of_row _ _ _ _ _ hR
  have f1 : w2.frozen? ⟨w.heap.size, 1, none⟩ = false := frozen_of_row _ _ _ _ _ hR
  have f2 : w2.frozen? ⟨w.heap.size, 2, none⟩ = false := frozen_of_row _ _ _ _ _ hR
  have f3 : w2.frozen? ⟨w.heap.size, 3, none⟩ = false := frozen_of_row _ _ _ _ _ hR
  have f4 : w2.frozen? ⟨w.heap.size, 4, none⟩ = false := frozen_of_row _ _ _ _ _ hR
  have f5 : w2.frozen? ⟨w.heap.size, 5, none⟩ = false := frozen_of_row _ _ _ _ _ hR
  obtain ⟨s1, s2, s3⟩ := six_box hR (.slice a0 n0 c0) (.slice a1 n1 c1) (.int .i64 ds) (.slice a2 n2 c2) (.slice a3 n3 c3) (.slice a4 n4 c4)
  have S1 := Lib.hid s1
  have S2 := Lib.hid s2
  have S3 := Lib.hid s3
  have HWF := Lib.hid (six_below HT2.out (Nat.le_refl w.heap.size) (.slice a0 n0 c0) (.slice a1 n1 c1) (.int .i64 ds) (.slice a2 n2 c2) (.slice a3 n3 c3) (.slice a4 n4 c4))
  clear hrd hbt hbd ht2 hR s1 s2 s3
  go_wp2_with fail
  refine bodyPost_ret (results_row_tmp rfl _ _ w.heap.size 30 #[.slice a0 n0 c0, .slice a1 n1 c1, .int .i64 ds, .slice a2 n2 c2, .slice a3 n3 c3, .slice a4 n4 c4] (0, 0) _ rfl ?_ Try.underlying30 rfl (by kernel_rfl)) rfl ?_
  · exact S1.out
  have hF : ButA (fun b => b = w.heap.size) w2 _ := ⟨Nat.le_of_eq S2.out.symm, fun b h1 _ => S3.out b h1⟩
  have hs5 := S2.out
  exact ⟨[.slice a0 n0 c0, .slice a1 n1 c1, .int .i64 ds, .slice a2 n2 c2, .slice a3 n3 c3, .slice a4 n4 c4], _, ab, n, c, b, rfl, HBD.out,
    shConfig.sub (shConfig.keep HRD.out fun b hb => hF.2 b (by have := hb.1; show ¬ b = w.heap.size; omega) hb.2) fun b hb => by show b < _; have := hb.2; omega,
    (HBT.out.keep fun b hb => hF.2 b (by have := hb.1; show ¬ b = w.heap.size; omega) hb.2).sub fun b hb => by show b < _; have := hb.2; omega, HWF.out⟩
set_option maxRecDepth 100000 in
/-- The number at one of the first two places of a code, or what stands for it. -/
theorem at_fix (bs : List UInt8) (hroom : bs.length ≤ 1048576) (i : Nat) (hi : i = 0 ∨ i = 1) : ∃ z : Nat, z ≤ 255 ∧ ∀ (w : World) (a : Option Addr) (cap : Nat), CodeIn w.heap.size w a bs →
    Calls Try.prog 12 #[.slice a bs.length cap, .int .i64 (i : Int)] w fun e w' => e = .returned (.int .i64 z) ∧ w = w' := by
  by_cases h0 : i < bs.length
  · refine ⟨(bs[i]'h0).toNat, by have := (bs[i]'h0).toNat_lt; omega, fun w a cap hc => ?_⟩
    obtain ⟨b, o, rfl, hbB, hcb⟩ := hc.code i h0
    obtain ⟨D, hD⟩ : ∃ D : Nat, D = (bs[i]'h0).toNat := ⟨_, rfl⟩
    have hb8 : (D : Int) < 256 := by have := (bs[i]'h0).toNat_lt; omega
    rw [← hD] at hcb ⊢
    obtain ⟨N, hN⟩ : ∃ N, bs.length = N := ⟨_, rfl⟩
    rw [hN] at h0 hroom ⊢
    clear hD hc hi hN
    go_enter Try.func12, Try.ntmps12
    go_wp2_with fail
    go_ret
    exact ⟨rfl, rfl⟩
  · obtain ⟨N, hN⟩ : ∃ N, bs.length = N := ⟨_, rfl⟩
    rw [hN] at h0 ⊢
    have hNi : N = 0 ∧ i = 0 ∨ N = 0 ∧ i = 1 ∨ N = 1 ∧ i = 1 := by omega
    clear hN hroom hi
    rcases hNi with ⟨rfl, rfl⟩ | ⟨rfl, rfl⟩ | ⟨rfl, rfl⟩
    · refine ⟨0, by omega, fun w a cap hc => ?_⟩
      clear hc
      go_enter Try.func12, Try.ntmps12
      go_wp2_with fail
      go_ret
      exact ⟨rfl, rfl⟩
    · refine ⟨37, by omega, fun w a cap hc => ?_⟩
      clear hc
      go_enter Try.func12, Try.ntmps12
      go_wp2_with fail
      go_ret
      exact ⟨rfl, rfl⟩
    · refine ⟨48, by omega, fun w a cap hc => ?_⟩
      clear hc
      go_enter Try.func12, Try.ntmps12
      go_wp2_with fail
      go_ret
      exact ⟨rfl, rfl⟩
/-- What is reckoned is enough, and no more than that. -/
theorem words_ok (m : List dOp) (l : List Int) (ds : Int) (r : List Bool) (s k : Int) :
    (0 ≤ savedN m l r s ∧ savedN m l r s ≤ fullN m l s ∧ fullN m l s ≤ 54) ∧ (0 ≤ peakN m l ds r s k ∧ peakN m l ds r s k ≤ 330) ∧ (0 < peakN m l ds r s k → savedN m l r s ≤ peakN m l ds r s k) ∧
    (peakN m l ds r s k ≠ 0 → k < 5 → peakN m l ds r s k ≤ peakN m l ds r s (k + 1) ∧ peakN m l ds r s (k + 1) - peakN m l ds r s k ≤ savedN m l r s ∧ peakN m l ds r s k ≤ k * savedN m l r s + 2 * fullN m l s) := by
  obtain ⟨f, t, ef, et, hok⟩ := range_ok m l s
  have h1 : savedN m l r s = savedT m (redoB r s) f t := by unfold savedN; rw [ef, et, Int.toNat_natCast, Int.toNat_natCast]
  have h2 : fullN m l s = fullT m f t := by unfold fullN; rw [ef, et, Int.toNat_natCast, Int.toNat_natCast]
  have h3 : ∀ q, peakN m l ds r s q = peakT m (redoB r s) ds ((l.length : Int) + 1) s q f t := fun q => by unfold peakN; rw [ef, et, Int.toNat_natCast, Int.toNat_natCast]
  rw [h1, h2, h3, h3]
  have hs := hok.sizes
  have hv := saved_in hok (redoB r s)
  have hp := peak_in hok (redoB r s) ds k
  refine ⟨⟨hv.1, hv.2.1, by omega⟩, hp, fun hpos => ?_, fun hne hk5 => ?_⟩
  · unfold peakT at hpos ⊢
    split at hpos
    · rename_i hcnd
      rw [if_pos hcnd]
      have hu := under_in (ds := ds) (n := (l.length : Int) + 1) (s := s) hcnd.2.1 hcnd.2.2.1 (by have := hok.there hcnd.1; omega)
      have hmul : 1 * savedT m (redoB r s) f t ≤ underN ds ((l.length : Int) + 1) s k * savedT m (redoB r s) f t := Int.mul_le_mul_of_nonneg_right hu.1 hv.1
      rw [Int.one_mul] at hmul
      split <;> omega
    · omega
  · unfold peakT at hne ⊢
    split at hne
    · rename_i hcnd
      have hth := hok.there hcnd.1
      have hc' : f < t ∧ 1 ≤ k + 1 ∧ k + 1 ≤ 5 ∧ (l.length : Int) + 1 ≤ 4 := ⟨hcnd.1, by omega, by omega, hcnd.2.2.2⟩
      rw [if_pos hcnd, if_pos hc']
      have hu := under_in (ds := ds) (n := (l.length : Int) + 1) (s := s) hcnd.2.1 hcnd.2.2.1 (by omega)
      obtain ⟨K, hK⟩ : ∃ K, underN ds ((l.length : Int) + 1) s k = K := ⟨_, rfl⟩
      obtain ⟨V, hV⟩ : ∃ V, savedT m (redoB r s) f t = V := ⟨_, rfl⟩
      have hK' : underN ds ((l.length : Int) + 1) s (k + 1) = K ∨ underN ds ((l.length : Int) + 1) s (k + 1) = K + 1 := by
        rw [← hK]
        unfold underN
        split <;> omega
      rw [hK] at hu
      rw [hV] at hv
      have hmul : K * V ≤ k * V := Int.mul_le_mul_of_nonneg_right hu.2.2 hv.1
      have hadd : (K + 1) * V = K * V + V := by rw [Int.add_mul, Int.one_mul]
      rw [hK, hV]
      rcases hK' with e | e <;> rw [e]
      · refine ⟨by omega, by omega, ?_⟩
        split <;> omega
      · rw [hadd]
        refine ⟨by omega, by omega, ?_⟩
        split <;> omega
    · exact absurd rfl hne
end Go.Proofs.Ytkflinobmagiiaa

end

/-! YtkflinobmagiiaaWordsLaw -/
section

namespace Go.Proofs.Ytkflinobmagiiaa
open Go.RowKit Go.Sort
set_option linter.unusedVariables false
set_option linter.unusedSimpArgs false

set_option maxRecDepth 100000 in
set_option maxHeartbeats 6400000 in
theorem lawWords_small (w : World) (a : Option Addr) (cap : Nat) (bs : List UInt8) (hc : CodeIn w.heap.size w a bs) :
    Calls Try.prog 3 #[.slice a bs.length cap] w fun e w' => e = .returned (.bool true) ∧ Below w.heap.size w w' := by
  have HC := Lib.hid hc
  obtain ⟨za, hza, hat0⟩ := at_fix bs hc.room 0 (.inl rfl)
  obtain ⟨zb, hzb, hat1⟩ := at_fix bs hc.room 1 (.inr rfl)
  have HAT0 := Lib.hid (show ∀ (w : World) (a : Option Addr) (cap : Nat), CodeIn w.heap.size w a bs → Calls Try.prog 12 #[.slice a bs.length cap, .int .i64 0] w fun e w' => e = .returned (.int .i64 za) ∧ w = w' from hat0)
  have HAT1 := Lib.hid (show ∀ (w : World) (a : Option Addr) (cap : Nat), CodeIn w.heap.size w a bs → Calls Try.prog 12 #[.slice a bs.length cap, .int .i64 1] w fun e w' => e = .returned (.int .i64 zb) ∧ w = w' from hat1)
  clear hc hat0 hat1
  go_enter Try.func3, Try.ntmps3
  go_wp2_with fail
  refine (big_no a cap bs HC.out.room _).mono ?_
  rintro e w' ⟨rfl, rfl⟩
  go_wp2_with fail
  refine (drawPipeNew_e _ a cap bs HC.out).mono ?_
  rintro e w1 ⟨es, x, ab, nb, cb, b, rfl, hbd, hrd, -, hbw⟩
  obtain ⟨m, l, ds, r, cp, lm⟩ := x
  have hbk := hbd.1
  have HRD := Lib.hid hrd
  obtain ⟨a0, n0, c0, a1, n1, c1, a2, n2, c2, a3, n3, c3, a4, n4, c4, rfl, -, -, -, -, -, ⟨hn2, -⟩, -, -⟩ := conf_in hrd hbk
  have HBK := Lib.hid hbk
  have hal : Below w1.heap.size w1 (w1.alloc (.cells #[.slice a0 n0 c0, .slice a1 n1 c1, .int .i64 ds, .slice a2 n2 c2, .slice a3 n3 c3, .slice a4 n4 c4] 30 (0, 0))) := (Below.refl _ _).alloc (Nat.le_refl _) _
  have hkb := heap_alloc_new w1 (.cells #[.slice a0 n0 c0, .slice a1 n1 c1, .int .i64 ds, .slice a2 n2 c2, .slice a3 n3 c3, .slice a4 n4 c4] 30 (0, 0))
  have hs1 := hbw.size
  have hs2 : (w1.alloc (.cells #[.slice a0 n0 c0, .slice a1 n1 c1, .int .i64 ds, .slice a2 n2 c2, .slice a3 n3 c3, .slice a4 n4 c4] 30 (0, 0))).heap.size = w1.heap.size + 1 := by simp
  have HA := Lib.hid hal
  have HK := Lib.hid hkb
  have HW1 := Lib.hid hbw
  clear hbd hrd hbw hal hkb hbk
  go_upto_region 4 with fail
  generalize w1.alloc (.cells #[.slice a0 n0 c0, .slice a1 n1 c1, .int .i64 ds, .slice a2 n2 c2, .slice a3 n3 c3, .slice a4 n4 c4] 30 (0, 0)) = w2 at HA HK hs2 ⊢
  have HW2 := Lib.hid (HW1.out.trans (HA.out.mono hs1))
  have RD := Lib.hid fun (wx : World) (hx : Below w1.heap.size w1 wx) => Shape.le _ (Shape.below _ HRD.out hx (Nat.le_refl _)) hx.size
  have HCW := Lib.hid fun (wx : World) (hx : Below w.heap.size w wx) => (HC.out.below hx).le hx.size
  obtain ⟨z0, z1, z2, z3, z4, z5⟩ := box6 HK.out
  have k3 := cell_regrown z3
  have cC := fun d os => Calls.regrown_of (w := w2) (d := d) (os := os) ((HAT0.out _ a cap (HCW.out _ (HW2.out.trans ((below_regrown w2 d os).mono HW2.out.size)))).mono fun e w' hh => ⟨hh.1, hh.2 ▸ Below.refl _ _⟩)
  have CC := Lib.hid cC
  have hne : ¬ ((n2 : Int) + 1 = 0) := by omega
  have hne2 : ((n2 : Int) + 1 == 0) = false := by simp; omega
  clear cC z0 z1 z2 z3 z4 z5
  refine wp_region_quiet_below (by kernel_rfl) (by kernel_rfl) ?_
  repeat (go_big_quiet_step (with_reducible first | exact CC.out _ _))
  refine wpQuiet_nil ?_
  intro _ hw'
  obtain ⟨⟨dq, osq⟩, hw''⟩ := hw'
  subst hw''
  have hwq := below_regrown w2 dq osq
  generalize grow (redrawn w2 dq) osq = w3 at hwq ⊢
  go_simp
  obtain ⟨s, hsd⟩ : ∃ s, (za : Int) % ((n2 : Int) + 1) = s := ⟨_, rfl⟩
  rw [hsd]
  have hsq := hwq.size
  have W3 := Lib.hid (HW2.out.trans (hwq.mono HW2.out.size))
  have HK3 := Lib.hid ((hwq.block w1.heap.size (by omega)).trans HK.out)
  have B13 := Lib.hid (show Below w1.heap.size w1 w3 from HA.out.trans (hwq.mono HA.out.size))
  obtain ⟨M, hM⟩ : ∃ M, (zb : Int) % 5 = M := ⟨_, rfl⟩
  have hM4 : 0 ≤ M ∧ M ≤ 4 := by omega
  clear hsd k3 CC hwq hne hne2 hza
  go_wp2_with fail
  refine (HAT1.out _ a cap (HCW.out _ W3.out)).mono ?_
  rintro e w4 ⟨rfl, rfl⟩
  obtain ⟨k, hk⟩ : ∃ k, 1 + M = k := ⟨_, rfl⟩
  have hk5 : 1 ≤ k ∧ k ≤ 5 := by omega
  obtain ⟨z0, z1, z2, z3, z4, z5⟩ := box6 HK3.out
  have HW := Lib.hid (words_ok m l ds r s k)
  obtain ⟨P, hP⟩ : ∃ P, peakN m l ds r s k = P := ⟨_, rfl⟩
  obtain ⟨V, hV⟩ : ∃ P, fullN m l s = P := ⟨_, rfl⟩
  obtain ⟨SV, hSV⟩ : ∃ P, savedN m l r s = P := ⟨_, rfl⟩
  obtain ⟨P2, hP2⟩ : ∃ P, peakN m l ds r s (k + 1) = P := ⟨_, rfl⟩
  have CP := fun (wx : World) (hx : Below w1.heap.size w1 wx) => implPeakOf_d wx _ _ (RD.out wx hx) HBK.out s k
  have CS := fun (wx : World) (hx : Below w1.heap.size w1 wx) => specPeakOf_d wx _ _ (RD.out wx hx) HBK.out s k
  have CP2 := fun (wx : World) (hx : Below w1.heap.size w1 wx) => implPeakOf_d wx _ _ (RD.out wx hx) HBK.out s (k + 1)
  have CF := fun (wx : World) (hx : Below w1.heap.size w1 wx) => implFullWords_d wx _ _ (RD.out wx hx) HBK.out s
  have CV := fun (wx : World) (hx : Below w1.heap.size w1 wx) => implSavedWords_d wx _ _ (RD.out wx hx) HBK.out s
  dsimp only at CP CS CP2 CF CV
  simp only [hP] at CP CS HW
  simp only [hP2] at CP2 HW
  simp only [hV] at CF HW
  simp only [hSV] at CV HW
  have CP := Lib.hid CP
  have CS := Lib.hid CS
  have CP2 := Lib.hid CP2
  have CF := Lib.hid CF
  have CV := Lib.hid CV
  obtain ⟨⟨hs0, hsv, hv54⟩, ⟨hp0, hp330⟩, hpp, hpn⟩ := HW.out
  have HPN := Lib.hid hpn
  have HPP := Lib.hid hpp
  clear hP hV hSV hP2 HW hpn hpp
  go_wp2_with fail
  refine (CP.out w3 B13.out).mono ?_
  rintro e w4 ⟨rfl, hb⟩
  have hs4 := hb.size
  have W4 := Lib.hid (W3.out.trans (hb.mono W3.out.size))
  have HK4 := Lib.hid ((hb.block w1.heap.size (by omega)).trans HK3.out)
  have B14 := Lib.hid (B13.out.trans (hb.mono B13.out.size))
  clear hb z0 z1 z2 z3 z4 z5 hM hk
  obtain ⟨z0, z1, z2, z3, z4, z5⟩ := box6 HK4.out
  go_wp2_with fail
  refine (CF.out w4 B14.out).mono ?_
  rintro e w5 ⟨rfl, hb⟩
  have hs5 := hb.size
  have W5 := Lib.hid (W4.out.trans (hb.mono W4.out.size))
  have HK5 := Lib.hid ((hb.block w1.heap.size (by omega)).trans HK4.out)
  have B15 := Lib.hid (B14.out.trans (hb.mono B14.out.size))
  clear hb z0 z1 z2 z3 z4 z5
  obtain ⟨z0, z1, z2, z3, z4, z5⟩ := box6 HK5.out
  go_wp2_with fail
  refine (CV.out w5 B15.out).mono ?_
  rintro e w6 ⟨rfl, hb⟩
  have hs6 := hb.size
  have W6 := Lib.hid (W5.out.trans (hb.mono W5.out.size))
  have HK6 := Lib.hid ((hb.block w1.heap.size (by omega)).trans HK5.out)
  have B16 := Lib.hid (B15.out.trans (hb.mono B15.out.size))
  clear hb z0 z1 z2 z3 z4 z5
  obtain ⟨z0, z1, z2, z3, z4, z5⟩ := box6 HK6.out
  have d1 : decide (SV > V) = false := decide_eq_false (by omega)
  have d2 : decide (P < 0) = false := decide_eq_false (by omega)
  by_cases hp : P = 0
  · have d3 : decide (P > 0) = false := decide_eq_false (by omega)
    have d4 : (P == 0) = true := by rw [hp]; rfl
    have d5 : (P == P) = true := by simp
    clear hp
    go_wp2_with fail
    refine (CS.out w6 B16.out).mono ?_
    rintro e w7 ⟨rfl, hb⟩
    have W7 := Lib.hid (W6.out.trans (hb.mono W6.out.size))
    clear hb
    go_wp2_with fail
    go_ret
    exact ⟨rfl, W7.out⟩
  · have d3 : decide (P > 0) = true := decide_eq_true (by omega)
    have d3' : decide (P < SV) = false := decide_eq_false (by have := HPP.out (by omega); omega)
    have d4 : (P == 0) = false := by simpa using hp
    by_cases h5 : k ≥ 5
    · have d5 : decide (k ≥ 5) = true := decide_eq_true h5
      have d6 : (P == P) = true := by simp
      go_wp2_with fail
      refine (CS.out w6 B16.out).mono ?_
      rintro e w7 ⟨rfl, hb⟩
      have W7 := Lib.hid (W6.out.trans (hb.mono W6.out.size))
      clear hb
      go_wp2_with fail
      go_ret
      exact ⟨rfl, W7.out⟩
    · have d5 : decide (k ≥ 5) = false := decide_eq_false h5
      obtain ⟨q1, q2, q3⟩ := HPN.out hp (by omega)
      have hmu := mul_in (A := 5) (B := 54) (show 0 ≤ k by omega) hk5.2 hs0 (show SV ≤ 54 by omega)
      obtain ⟨Q, hQ⟩ : ∃ Q, k * SV = Q := ⟨_, rfl⟩
      rw [hQ] at hmu q3
      have hw1 : wrap64 (k * SV) = Q := by rw [hQ]; exact IntWalk.wrap64_in _ (by omega)
      have HQ := Lib.hid hQ
      have d6 : decide (P2 ≥ P) = true := decide_eq_true q1
      have d7 : decide (P2 - P ≤ SV) = true := decide_eq_true q2
      have d8 : decide (P ≤ Q + 2 * V) = true := decide_eq_true q3
      have hp2 : 0 ≤ P2 ∧ P2 ≤ 384 := by omega
      clear hQ
      go_wp2_with fail
      refine (CP2.out w6 B16.out).mono ?_
      rintro e w7 ⟨rfl, hb⟩
      have hs7 := hb.size
      have W7 := Lib.hid (W6.out.trans (hb.mono W6.out.size))
      have HK7 := Lib.hid ((hb.block w1.heap.size (by omega)).trans HK6.out)
      have B17 := Lib.hid (B16.out.trans (hb.mono B16.out.size))
      clear hb z0 z1 z2 z3 z4 z5
      obtain ⟨z0, z1, z2, z3, z4, z5⟩ := box6 HK7.out
      go_wp2_with fail
      refine (CP2.out w7 B17.out).mono ?_
      rintro e w8 ⟨rfl, hb⟩
      have W8 := Lib.hid (W7.out.trans (hb.mono W7.out.size))
      clear hb
      go_wp2_with fail
      go_ret
      exact ⟨rfl, W8.out⟩
theorem lawWords_big (w : World) (a : Option Addr) (len cap : Nat) (hm : len ≤ 9223372036854775807) (hbig : 1048576 < len) :
    Calls Try.prog 3 #[.slice a len cap] w fun e w' => e = .returned (.bool true) ∧ Below w.heap.size w w' := by
  go_enter Try.func3, Try.ntmps3
  go_wp2_with fail
  refine (big_yes a len cap hbig hm _).mono ?_
  rintro e w' ⟨rfl, rfl⟩
  go_wp2_with fail
  go_ret
  exact ⟨rfl, Below.refl _ _⟩
theorem lawWords (w : World) (a : Option Addr) (len cap : Nat) (hm : len ≤ 9223372036854775807)
    (hb : ∃ bs : List UInt8, bs.length = len ∧ ∀ j (hj : j < bs.length), ∃ b o, a = some ⟨b, o, none⟩ ∧ b < w.heap.size ∧ w.cell? ⟨b, o + j, none⟩ = some (.int .u8 (bs[j].toNat : Int))) :
    Calls Try.prog 3 #[.slice a len cap] w fun e w' => e = .returned (.bool true) ∧ Below w.heap.size w w' :=
  law_of _ w a len cap hm hb (lawWords_big w a len cap hm) (fun bs hc => lawWords_small w a cap bs hc)
end Go.Proofs.Ytkflinobmagiiaa

end

/-! YtkflinobmagiiaaIntRow -/
section

namespace Go.Proofs.Ytkflinobmagiiaa
open Go.RowKit
set_option linter.unusedVariables false

/-- What is told of a row that came in. -/
def CameIn (W : World) (a : Option Addr) (len : Nat) : Prop := ∃ xs : List Int, xs.length = len ∧ ∀ j, j < len → ∃ b o, a = some ⟨b, o, none⟩ ∧ b < W.heap.size ∧ W.cell? ⟨b, o + j, none⟩ = some (.int .i64 (xs.getD j 0))
theorem cameIn_nil (W : World) : CameIn W none 0 := ⟨[], rfl, fun j hj => absurd hj (Nat.not_lt_zero _)⟩
theorem cameIn_row (W : World) (x : Addr) (len : Nat) (zs : List Int) (hl : len ≤ zs.length) (hcell : ∀ i, i < zs.length → W.cell? (x.add i) = some (.int .i64 (zs.getD i 0))) : CameIn W (some x) len := by
  refine ⟨zs.take len, by simp [hl], fun j hj => ?_⟩
  obtain ⟨b, off, spot⟩ := x
  have hc := hcell j (by omega)
  have hspot : spot = none := by
    have := World.cell?_spot (hcell 0 (by omega))
    simpa [Addr.add] using this
  subst hspot
  rw [Addr.add_lit] at hc
  refine ⟨b, off, rfl, World.block_lt_of_cell? W _ hc, ?_⟩
  rw [hc]
  simp [List.getD, hj]
end Go.Proofs.Ytkflinobmagiiaa

end
