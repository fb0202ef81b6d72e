import Derived.Test.YtkflinobmagiiaaAdmM
import Derived.Test.YtkflinobmagiiaaDeepC
import Derived.Test.YtkflinobmagiiaaAdmP
import Derived.Test.YtkflinobmagiiaaModD
import Derived.Test.YtkflinobmagiiaaOpen
import Derived.Lib.QuietBelow
import Derived.Deep.QuietTactic
import Derived.BigQuiet
import Derived.Test.YtkflinobmagiiaaAdmJ
import Derived.Test.YtkflinobmagiiaaModJ
import Derived.Deep.DeepCutAuto
import Derived.Deep.RegionLaw
/-! YtkflinobmagiiaaAdmN -/
section

namespace Go.Proofs.Ytkflinobmagiiaa
open Go.RowKit
set_option linter.unusedVariables false

/-- Has a row so many numbers, each in its range? -/
def capsB (k : Nat) (l : List Int) : Bool := decide (l.length = k) && (List.range l.length).all fun j => inB 1 5 (l.getD j 0)
def limB (P : Int → Int) (k : Nat) (l : List Int) : Bool := decide (l.length = k) && (List.range l.length).all fun j => inB (P (j : Int)) 100000 (l.getD j 0)
/-- The reasons in their order: is each of them against? -/
def againstB (x : dConfig) (b : List dPair) : Nat → Bool
  | 0 => !modelOkB x.1
  | 1 => !batchOkB x.1 b
  | 2 => !(cutsOkB x.1 x.2.1 && decide (x.2.1.length + 1 ≤ 4))
  | 3 => !inB 1 2 x.2.2.1
  | 4 => !decide (x.2.2.2.1.length = x.2.1.length + 1)
  | 5 => !capsB x.2.1.length x.2.2.2.2.1
  | _ => !limB (fun s => peakN x.1 x.2.1 x.2.2.1 x.2.2.2.1 s (b.length : Int)) (x.2.1.length + 1) x.2.2.2.2.2
def firstN (A : Nat → Bool) : Int :=
  if A 0 = true then 1 else if A 1 = true then 2 else if A 2 = true then 3 else if A 3 = true then 4 else if A 4 = true then 5 else if A 5 = true then 6 else if A 6 = true then 7 else 0
def admitN (x : dConfig) (b : List dPair) : Int := firstN (againstB x b)
theorem first_at {A : Nat → Bool} {k : Nat} (hk : k < 7) (h : A k = true) (h0 : ∀ j, j < k → A j = false) : firstN A = (k : Int) + 1 := by
  unfold firstN
  have e : ∀ j, j < k → ¬ A j = true := fun j hj => by rw [h0 j hj]; decide
  match k, hk with
  | 0, _ => rw [if_pos h]; rfl
  | 1, _ => rw [if_neg (e 0 (by omega)), if_pos h]; rfl
  | 2, _ => rw [if_neg (e 0 (by omega)), if_neg (e 1 (by omega)), if_pos h]; rfl
  | 3, _ => rw [if_neg (e 0 (by omega)), if_neg (e 1 (by omega)), if_neg (e 2 (by omega)), if_pos h]; rfl
  | 4, _ => rw [if_neg (e 0 (by omega)), if_neg (e 1 (by omega)), if_neg (e 2 (by omega)), if_neg (e 3 (by omega)), if_pos h]; rfl
  | 5, _ => rw [if_neg (e 0 (by omega)), if_neg (e 1 (by omega)), if_neg (e 2 (by omega)), if_neg (e 3 (by omega)), if_neg (e 4 (by omega)), if_pos h]; rfl
  | 6, _ => rw [if_neg (e 0 (by omega)), if_neg (e 1 (by omega)), if_neg (e 2 (by omega)), if_neg (e 3 (by omega)), if_neg (e 4 (by omega)), if_neg (e 5 (by omega)), if_pos h]; rfl
theorem first_none {A : Nat → Bool} (h0 : ∀ j, j < 7 → A j = false) : firstN A = 0 := by
  unfold firstN
  have e : ∀ j, j < 7 → ¬ A j = true := fun j hj => by rw [h0 j hj]; decide
  rw [if_neg (e 0 (by omega)), if_neg (e 1 (by omega)), if_neg (e 2 (by omega)), if_neg (e 3 (by omega)), if_neg (e 4 (by omega)), if_neg (e 5 (by omega)), if_neg (e 6 (by omega))]
theorem row_all {p : Nat → Bool} {n : Nat} (h : ∀ j, j < n → p j = true) : (List.range n).all p = true := List.all_eq_true.2 fun j hj => h j (List.mem_range.1 hj)
theorem row_some {p : Nat → Bool} {n k : Nat} (hk : k < n) (h : p k = false) : (List.range n).all p = false := List.all_eq_false.2 ⟨k, List.mem_range.2 hk, by rw [h]; decide⟩
theorem caps_len {k : Nat} {l : List Int} (h : l.length ≠ k) : capsB k l = false := by unfold capsB; rw [decide_eq_false h]; rfl
theorem caps_bad {k j : Nat} {l : List Int} (hj : j < l.length) (h : inB 1 5 (l.getD j 0) = false) : capsB k l = false := by unfold capsB; rw [row_some hj h, Bool.and_false]
theorem caps_all {k : Nat} {l : List Int} (hk : l.length = k) (h : ∀ j, j < l.length → inB 1 5 (l.getD j 0) = true) : capsB k l = true := by unfold capsB; rw [decide_eq_true hk, row_all h]; rfl
theorem lim_len {P : Int → Int} {k : Nat} {l : List Int} (h : l.length ≠ k) : limB P k l = false := by unfold limB; rw [decide_eq_false h]; rfl
theorem lim_bad {P : Int → Int} {k j : Nat} {l : List Int} (hj : j < l.length) (h : inB (P (j : Int)) 100000 (l.getD j 0) = false) : limB P k l = false := by unfold limB; rw [row_some (p := fun j => inB (P (j : Int)) 100000 (l.getD j 0)) hj h, Bool.and_false]
theorem lim_all {P : Int → Int} {k : Nat} {l : List Int} (hk : l.length = k) (h : ∀ j, j < l.length → inB (P (j : Int)) 100000 (l.getD j 0) = true) : limB P k l = true := by unfold limB; rw [decide_eq_true hk, row_all (p := fun j => inB (P (j : Int)) 100000 (l.getD j 0)) h]; rfl
end Go.Proofs.Ytkflinobmagiiaa

end

/-! YtkflinobmagiiaaAdmQ -/
section

namespace Go.Proofs.Ytkflinobmagiiaa
open Go.RowKit Go.Sort
set_option linter.unusedVariables false
set_option linter.unusedSimpArgs false

set_option maxRecDepth 100000 in
set_option maxHeartbeats 3200000 in
theorem specAdmit_d (w : World) (es : List Value) (x : dConfig) (h : shConfig.reads (Under w.heap.size) w es x) (hb : shConfig.bulk x ≤ 1048576) (a' : Option Addr) (n' c' : Nat) (ps : List dPair) (h' : ListAt shPair (Under w.heap.size) w a' n' ps) (g1 : n' ≤ c') (g2 : c' ≤ 9223372036854775807) (hb' : (Shape.list shPair).bulk ps ≤ 1048576) :
    Calls Try.prog 25 #[.agg es.toArray, .slice a' n' c'] w fun e w' => e = .returned ((.int .i64 (admitN x ps))) ∧ Below w.heap.size w w' := by
  obtain ⟨m, l, ds, r, cp, lm⟩ := x
  obtain ⟨a0, n0, c0, a1, n1, c1, a2, n2, c2, a3, n3, c3, a4, n4, c4, rfl, hp, hq, hm, hbm, hl, ⟨hr0, hr⟩, hcp, hlm⟩ := conf_in h hb
  try dsimp only
  have hal : Below w.heap.size w (w.alloc (.cells #[.slice a0 n0 c0, .slice a1 n1 c1, .int .i64 ds, .slice a2 n2 c2, .slice a3 n3 c3, .slice a4 n4 c4] 30 (0, 0))) := (Below.refl _ _).alloc (Nat.le_refl _) _
  have hb0 := heap_alloc_new w (.cells #[.slice a0 n0 c0, .slice a1 n1 c1, .int .i64 ds, .slice a2 n2 c2, .slice a3 n3 c3, .slice a4 n4 c4] 30 (0, 0))
  have hs0 : (w.alloc (.cells #[.slice a0 n0 c0, .slice a1 n1 c1, .int .i64 ds, .slice a2 n2 c2, .slice a3 n3 c3, .slice a4 n4 c4] 30 (0, 0))).heap.size = w.heap.size + 1 := by simp
  have HRD := Lib.hid fun (wx : World) (hx : Below w.heap.size w wx) => Shape.le _ (Shape.below _ h hx (Nat.le_refl _)) hx.size
  have HBK := Lib.hid hb
  have HMM := Lib.hid fun (wx : World) (hx : Below w.heap.size w wx) => (hm.below hx (Nat.le_refl _)).le hx.size
  have HLL := Lib.hid fun (wx : World) (hx : Below w.heap.size w wx) => (hl.below hx (Nat.le_refl _)).le hx.size
  have HMN := Lib.hid hm.1
  have HM := Lib.hid hm
  have HR := Lib.hid hr
  have HLN := Lib.hid hl.len
  have HA := Lib.hid hal
  have HB0 := Lib.hid hb0
  have hn1 : n1 ≤ 1048576 := hl.room
  have hn2 := hr0
  clear hal hb0 hr0
  have hmr : ∀ wx, Below w.heap.size w wx → shModel.reads (Under wx.heap.size) wx [.slice a0 n0 c0] m := fun wx hx => shModel_reads.2 ⟨_, _, _, rfl, hp, hq, (hm.below hx (Nat.le_refl _)).le hx.size⟩
  have hbm' : shModel.bulk m ≤ 1048576 := hbm
  have HMO := Lib.hid fun (wx : World) (hx : Below w.heap.size w wx) => specModelOk_d wx _ m (hmr wx hx) hbm'
  have HBO := Lib.hid fun (wx : World) (hx : Below w.heap.size w wx) => specBatchOk_d wx _ m (hmr wx hx) hbm' a' n' c' ps ((h'.below hx (Nat.le_refl _)).le hx.size) g1 g2 hb'
  have HCO := Lib.hid fun (wx : World) (hx : Below w.heap.size w wx) => specCutsOk_c wx a0 n0 c0 m ((hm.below hx (Nat.le_refl _)).le hx.size) hp hq hbm a1 n1 c1 l ((hl.below hx (Nat.le_refl _)).le hx.size)
  have HPK := Lib.hid fun (wx : World) (hx : Below w.heap.size w wx) (k : Int) => specPeakOf_d wx _ _ (Shape.le _ (Shape.below _ h hx (Nat.le_refl _)) hx.size) hb k (n' : Int)
  dsimp only at HPK
  have hA0 : againstB (m, l, ds, r, cp, lm) ps 0 = !modelOkB m := rfl
  have hA1 : againstB (m, l, ds, r, cp, lm) ps 1 = !batchOkB m ps := rfl
  have hA2 : againstB (m, l, ds, r, cp, lm) ps 2 = !(cutsOkB m l && decide (n1 + 1 ≤ 4)) := by rw [← hl.len]; rfl
  have hA3 : againstB (m, l, ds, r, cp, lm) ps 3 = !inB 1 2 ds := rfl
  have hA4 : againstB (m, l, ds, r, cp, lm) ps 4 = !decide (n2 = n1 + 1) := by rw [← hl.len, ← hr.1]; rfl
  have hA5 : againstB (m, l, ds, r, cp, lm) ps 5 = !capsB n1 cp := by rw [← hl.len]; rfl
  have hA6 : againstB (m, l, ds, r, cp, lm) ps 6 = !limB (fun s => peakN m l ds r s (n' : Int)) (n1 + 1) lm := by rw [← hl.len, ← h'.1]; rfl
  obtain ⟨A, hA⟩ : ∃ A, againstB (m, l, ds, r, cp, lm) ps = A := ⟨_, rfl⟩
  have hres : admitN (m, l, ds, r, cp, lm) ps = firstN A := by rw [← hA]; rfl
  rw [hA] at hA0 hA1 hA2 hA3 hA4 hA5 hA6
  rw [hres]
  have HA4 := Lib.hid hA4
  have HA5 := Lib.hid hA5
  have HA6 := Lib.hid hA6
  have HCP := Lib.hid hcp
  have HLM := Lib.hid hlm
  have hn3 := hcp.room
  have hn4 := hlm.room
  obtain ⟨q0, hq0⟩ : ∃ q, modelOkB m = q := ⟨_, rfl⟩
  obtain ⟨q1, hq1⟩ : ∃ q, batchOkB m ps = q := ⟨_, rfl⟩
  obtain ⟨q2, hq2⟩ : ∃ q, cutsOkB m l = q := ⟨_, rfl⟩
  obtain ⟨q3, hq3⟩ : ∃ q, inB 1 2 ds = q := ⟨_, rfl⟩
  simp only [hq0] at HMO
  simp only [hq1] at HBO
  simp only [hq2] at HCO
  have HI3 := Lib.hid fun wx => l1In_any ds 1 2 wx
  simp only [hq3] at HI3
  rw [hq0] at hA0
  rw [hq1] at hA1
  rw [hq2] at hA2
  rw [hq3] at hA3
  have HA0 := Lib.hid hA0
  have HA1 := Lib.hid hA1
  have HA2 := Lib.hid hA2
  have HA3 := Lib.hid hA3
  have hn' : n' ≤ 1048576 := by rw [bulk_list shPair h'] at hb'; omega
  clear h hb hm hbm hl hr hcp hlm hp hq h' hb' hmr hbm' hA hres hA0 hA1 hA2 hA3 hA4 hA5 hA6 hq0 hq1 hq2 hq3 HRD HLL HMM HM HR g1 g2
  go_enter Try.func25, Try.ntmps25
  go_upto_region 1 with fail
  generalize w.alloc (.cells #[.slice a0 n0 c0, .slice a1 n1 c1, .int .i64 ds, .slice a2 n2 c2, .slice a3 n3 c3, .slice a4 n4 c4] 30 (0, 0)) = wa at HA HB0 hs0 ⊢
  obtain ⟨z0, z1, z2, z3, z4, z5⟩ := box6 HB0.out
  go_wp2_with fail
  refine (HMO.out wa HA.out).mono ?_
  rintro e w1 ⟨rfl, hb⟩
  have hs1 := hb.size
  have HW1 := Lib.hid (HA.out.trans (hb.mono HA.out.size))
  have HB1 := Lib.hid ((hb.block w.heap.size (by omega)).trans HB0.out)
  clear hb z0 z1 z2 z3 z4 z5
  cases q0
  · have HRE := Lib.hid (first_at (A := A) (k := 0) (by omega) HA0.out fun j hj => absurd hj (by omega))
    go_wp2_with fail
    go_ret
    exact ⟨by rw [HRE.out]; rfl, HW1.out⟩
  · obtain ⟨z0, z1, z2, z3, z4, z5⟩ := box6 HB1.out
    go_wp2_with fail
    refine (HBO.out w1 HW1.out).mono ?_
    rintro e w2 ⟨rfl, hb⟩
    have hs2 := hb.size
    have HW2 := Lib.hid (HW1.out.trans (hb.mono HW1.out.size))
    have HB2 := Lib.hid ((hb.block w.heap.size (by omega)).trans HB1.out)
    clear hb z0 z1 z2 z3 z4 z5
    cases q1
    · have HRE := Lib.hid (first_at (A := A) (k := 1) (by omega) HA1.out fun j hj => by rw [show j = 0 by omega]; exact HA0.out)
      go_wp2_with fail
      go_ret
      exact ⟨by rw [HRE.out]; rfl, HW2.out⟩
    · obtain ⟨z0, z1, z2, z3, z4, z5⟩ := box6 HB2.out
      go_wp2_with fail
      refine (HCO.out w2 HW2.out).mono ?_
      rintro e w3 ⟨rfl, hb⟩
      have hs3 := hb.size
      have HW3 := Lib.hid (HW2.out.trans (hb.mono HW2.out.size))
      have HB3 := Lib.hid ((hb.block w.heap.size (by omega)).trans HB2.out)
      clear hb z0 z1 z2 z3 z4 z5
      obtain ⟨z0, z1, z2, z3, z4, z5⟩ := box6 HB3.out
      have H01 := Lib.hid (show ∀ j, j < 2 → A j = false from fun j hj => by
        rcases (show j = 0 ∨ j = 1 by omega) with rfl | rfl
        · exact HA0.out
        · exact HA1.out)
      cases q2
      · have HRE := Lib.hid (first_at (A := A) (k := 2) (by omega) HA2.out H01.out)
        go_wp2_with fail
        go_ret
        exact ⟨by rw [HRE.out]; rfl, HW3.out⟩
      · by_cases h4 : n1 + 1 ≤ 4
        · have hd4 : decide ((n1 : Int) + 1 > 4) = false := decide_eq_false (by omega)
          have H02 := Lib.hid (show ∀ j, j < 3 → A j = false from fun j hj => by
            by_cases hj2 : j < 2
            · exact H01.out j hj2
            · obtain rfl : j = 2 := by omega
              rw [HA2.out, decide_eq_true h4]; rfl)
          go_wp2_with fail
          refine (HI3.out w3).mono ?_
          rintro e w4 ⟨rfl, rfl⟩
          cases q3
          · have HRE := Lib.hid (first_at (A := A) (k := 3) (by omega) HA3.out H02.out)
            go_wp2_with fail
            go_ret
            exact ⟨by rw [HRE.out]; rfl, HW3.out⟩
          · have H03 := Lib.hid (show ∀ j, j < 4 → A j = false from fun j hj => by
              by_cases hj2 : j < 3
              · exact H02.out j hj2
              · obtain rfl : j = 3 := by omega
                exact HA3.out)
            by_cases h5 : n2 = n1 + 1
            · have hd5 : ((n2 : Int) != (n1 : Int) + 1) = false := by rw [h5]; simp
              have H04 := Lib.hid (show ∀ j, j < 5 → A j = false from fun j hj => by
                by_cases hj2 : j < 4
                · exact H03.out j hj2
                · obtain rfl : j = 4 := by omega
                  rw [HA4.out, decide_eq_true h5]; rfl)
              have H5 := Lib.hid h5
              clear h5
              by_cases h6 : n3 = n1
              · have hd6 : ((n3 : Int) != (n1 : Int)) = false := by rw [h6]; simp
                have H6 := Lib.hid h6
                clear h6
                go_wp2_with fail
                go_loopw [5] (fun i wr => ∃ k : Nat, k ≤ n3 ∧ i = .int .i64 k ∧ Hid (∀ j, j < k → inB 1 5 (cp.getD j 0) = true) ∧ wr = w3) (fun i _ => n3 - (intOf i).toNat)
                case atStart => exact ⟨0, Nat.zero_le _, rfl, Lib.hid fun j hj => absurd hj (Nat.not_lt_zero _), rfl⟩
                case round =>
                  obtain ⟨k, hk, rfl, hgood, rfl⟩ := hrel
                  by_cases hkt : k < n3
                  · obtain ⟨b, o, rfl, hbB, hc0⟩ := HCP.out.cells k hkt
                    obtain ⟨X, hX⟩ : ∃ X, cp.getD k 0 = X := ⟨_, rfl⟩
                    rw [hX] at hc0
                    have cm := (HW3.out.cell (p := ⟨b, o + k, none⟩) hbB).trans hc0
                    have HI := Lib.hid fun wx => l1In_any X 1 5 wx
                    obtain ⟨p, hp⟩ : ∃ p, inB 1 5 X = p := ⟨_, rfl⟩
                    simp only [hp] at HI
                    have HPX := Lib.hid (show inB 1 5 (cp.getD k 0) = p by rw [hX, hp])
                    clear hX hc0 hp
                    go_wp2_with fail
                    refine (HI.out _).mono ?_
                    rintro e w4 ⟨rfl, rfl⟩
                    cases p
                    · have HRE := Lib.hid (first_at (A := A) (k := 5) (by omega) (by rw [HA5.out, caps_bad (by rw [HCP.out.len]; exact hkt) HPX.out]; rfl) H04.out)
                      go_wp2_with fail
                      go_ret
                      exact ⟨by rw [HRE.out]; rfl, HW3.out⟩
                    · go_wp2_with fail
                      go_roundw
                      case rel =>
                        refine ⟨k + 1, by omega, by go_num, Lib.hid fun j hj => ?_, trivial⟩
                        by_cases e : j = k
                        · subst e; exact HPX.out
                        · exact hgood.out j (by omega)
                      case measure => simp [intOf]; omega
                  · obtain rfl : k = n3 := by omega
                    have H05 := Lib.hid (show ∀ j, j < 6 → A j = false from fun j hj => by
                      by_cases hj2 : j < 5
                      · exact H04.out j hj2
                      · obtain rfl : j = 5 := by omega
                        rw [HA5.out, caps_all (by rw [HCP.out.len]; exact H6.out) (by rw [HCP.out.len]; exact hgood.out)]; rfl)
                    clear hgood
                    by_cases h7 : n4 = n1 + 1
                    · have hd7 : ((n4 : Int) != (n1 : Int) + 1) = false := by rw [h7]; simp
                      have H7 := Lib.hid h7
                      clear h7
                      go_wp2_with fail
                      obtain ⟨w5, rfl⟩ : ∃ y, y = wr := ⟨_, rfl⟩
                      go_loopw [6] (fun i wr => ∃ k : Nat, k ≤ n4 ∧ i = .int .i64 k ∧ Hid (∀ j, j < k → inB (peakN m l ds r (j : Int) (n' : Int)) 100000 (lm.getD j 0) = true) ∧ Below w5.heap.size w5 wr) (fun i _ => n4 - (intOf i).toNat)
                      case atStart => exact ⟨0, Nat.zero_le _, rfl, Lib.hid fun j hj => absurd hj (Nat.not_lt_zero _), Below.refl _ _⟩
                      case round =>
                        obtain ⟨q, hq, rfl, hgood, hbw⟩ := hrel
                        have hsz := hbw.size
                        have HWR := Lib.hid (HW3.out.trans (hbw.mono HW3.out.size))
                        have HBR := Lib.hid ((hbw.block w.heap.size (by omega)).trans HB3.out)
                        have HBW := Lib.hid hbw
                        clear hbw z0 z1 z2 z3 z4 z5
                        obtain ⟨z0, z1, z2, z3, z4, z5⟩ := box6 HBR.out
                        by_cases hqt : q < n4
                        · obtain ⟨b, o, rfl, hbB, hc0⟩ := HLM.out.cells q hqt
                          obtain ⟨X, hX⟩ : ∃ X, lm.getD q 0 = X := ⟨_, rfl⟩
                          rw [hX] at hc0
                          have cm := (HWR.out.cell (p := ⟨b, o + q, none⟩) hbB).trans hc0
                          obtain ⟨PV, hPV⟩ : ∃ V, peakN m l ds r (q : Int) (n' : Int) = V := ⟨_, rfl⟩
                          obtain ⟨p, hp⟩ : ∃ p, inB PV 100000 X = p := ⟨_, rfl⟩
                          have HPX := Lib.hid (show inB (peakN m l ds r (q : Int) (n' : Int)) 100000 (lm.getD q 0) = p by rw [hX, hPV, hp])
                          go_upto_region 23 with fail
                          have k0 := cell_regrown z0
                          have k1 := cell_regrown z1
                          have k2 := cell_regrown z2
                          have k3 := cell_regrown z3
                          have k4 := cell_regrown z4
                          have k5 := cell_regrown z5
                          have k6 := cell_regrown cm
                          have cC := fun d os => Calls.regrown_of (w := wr) (d := d) (os := os) (hPV ▸ HPK.out _ (HWR.out.trans ((below_regrown wr d os).mono HWR.out.size)) (q : Int))
                          have cI := fun d os => Calls.regrown_of (w := wr) (d := d) (os := os) ((l1In_any X PV 100000 (grow (redrawn wr d) os)).mono fun e w' hh => ⟨hh.1, hh.2 ▸ Below.refl _ _⟩)
                          simp only [hp] at cI
                          have CC := Lib.hid cC
                          have CI := Lib.hid cI
                          clear cC cI z0 z1 z2 z3 z4 z5 cm hX hc0 hPV hp
                          refine wp_region_quiet_below (by kernel_rfl) (by kernel_rfl) ?_
                          repeat (go_big_quiet_step (with_reducible first | exact CC.out _ _ | exact CI.out _ _))
                          refine wpQuiet_nil ?_
                          intro _ hw'
                          obtain ⟨⟨dq, osq⟩, hw''⟩ := hw'
                          subst hw''
                          have hwq := below_regrown wr dq osq
                          generalize grow (redrawn wr dq) osq = wn at hwq ⊢
                          have BN := Lib.hid (HBW.out.trans (hwq.mono hsz))
                          have WN := Lib.hid (HW3.out.trans (BN.out.mono HW3.out.size))
                          clear k0 k1 k2 k3 k4 k5 k6 CC CI hwq
                          go_simp
                          cases p
                          · have HRE := Lib.hid (first_at (A := A) (k := 6) (by omega) (by rw [HA6.out, lim_bad (P := fun s => peakN m l ds r s (n' : Int)) (by rw [HLM.out.len]; exact hqt) HPX.out]; rfl) H05.out)
                            go_wp2_with fail
                            go_ret
                            exact ⟨by rw [HRE.out]; rfl, WN.out⟩
                          · go_wp2_with fail
                            go_roundw
                            case rel =>
                              refine ⟨q + 1, by omega, by go_num, Lib.hid fun j hj => ?_, BN.out⟩
                              by_cases e : j = q
                              · subst e; exact HPX.out
                              · exact hgood.out j (by omega)
                            case measure => simp [intOf]; omega
                        · obtain rfl : q = n4 := by omega
                          have HRE := Lib.hid (first_none (A := A) fun j hj => by
                            by_cases hj2 : j < 6
                            · exact H05.out j hj2
                            · obtain rfl : j = 6 := by omega
                              rw [HA6.out, lim_all (P := fun s => peakN m l ds r s (n' : Int)) (by rw [HLM.out.len]; exact H7.out) (by rw [HLM.out.len]; exact hgood.out)]; rfl)
                          clear hgood
                          go_wp2_with fail
                          go_ret
                          exact ⟨by rw [HRE.out]; rfl, HWR.out⟩
                    · have hd7 : ((n4 : Int) != (n1 : Int) + 1) = true := by simpa using (by omega : ¬ (n4 : Int) = (n1 : Int) + 1)
                      have HRE := Lib.hid (first_at (A := A) (k := 6) (by omega) (by rw [HA6.out, lim_len (by rw [HLM.out.len]; exact h7)]; rfl) H05.out)
                      go_wp2_with fail
                      go_ret
                      exact ⟨by rw [HRE.out]; rfl, HW3.out⟩
              · have hd6 : ((n3 : Int) != (n1 : Int)) = true := by simpa using (by omega : ¬ (n3 : Int) = n1)
                have HRE := Lib.hid (first_at (A := A) (k := 5) (by omega) (by rw [HA5.out, caps_len (by rw [HCP.out.len]; exact h6)]; rfl) H04.out)
                go_wp2_with fail
                go_ret
                exact ⟨by rw [HRE.out]; rfl, HW3.out⟩
            · have hd5 : ((n2 : Int) != (n1 : Int) + 1) = true := by simpa using (by omega : ¬ (n2 : Int) = (n1 : Int) + 1)
              have HRE := Lib.hid (first_at (A := A) (k := 4) (by omega) (by rw [HA4.out, decide_eq_false h5]; rfl) H03.out)
              go_wp2_with fail
              go_ret
              exact ⟨by rw [HRE.out]; rfl, HW3.out⟩
        · have hd4 : decide ((n1 : Int) + 1 > 4) = true := decide_eq_true (by omega)
          have HRE := Lib.hid (first_at (A := A) (k := 2) (by omega) (by rw [HA2.out, decide_eq_false h4]; rfl) H01.out)
          go_wp2_with fail
          go_ret
          exact ⟨by rw [HRE.out]; rfl, HW3.out⟩
end Go.Proofs.Ytkflinobmagiiaa

end

/-! YtkflinobmagiiaaAdmR -/
section

namespace Go.Proofs.Ytkflinobmagiiaa
open Go.RowKit Go.Sort
set_option linter.unusedVariables false
set_option linter.unusedSimpArgs false

set_option maxRecDepth 100000 in
set_option maxHeartbeats 3200000 in
theorem implReason1_d (w : World) (es : List Value) (x : dConfig) (h : shConfig.reads (Under w.heap.size) w es x) (hb : shConfig.bulk x ≤ 1048576) (a' : Option Addr) (n' c' : Nat) (ps : List dPair) (h' : ListAt shPair (Under w.heap.size) w a' n' ps) (g1 : n' ≤ c') (g2 : c' ≤ 9223372036854775807) (hb' : (Shape.list shPair).bulk ps ≤ 1048576) :
    Calls Try.prog 74 #[.agg es.toArray, .slice a' n' c'] w fun e w' => e = .returned ((.bool (againstB x ps 0))) ∧ Below w.heap.size w w' := by
  obtain ⟨m, l, ds, r, cp, lm⟩ := x
  obtain ⟨a0, n0, c0, a1, n1, c1, a2, n2, c2, a3, n3, c3, a4, n4, c4, rfl, hp, hq, hm, hbm, hl, ⟨hr0, hr⟩, hcp, hlm⟩ := conf_in h hb
  try dsimp only
  have hal : Below w.heap.size w (w.alloc (.cells #[.slice a0 n0 c0, .slice a1 n1 c1, .int .i64 ds, .slice a2 n2 c2, .slice a3 n3 c3, .slice a4 n4 c4] 30 (0, 0))) := (Below.refl _ _).alloc (Nat.le_refl _) _
  have hb0 := heap_alloc_new w (.cells #[.slice a0 n0 c0, .slice a1 n1 c1, .int .i64 ds, .slice a2 n2 c2, .slice a3 n3 c3, .slice a4 n4 c4] 30 (0, 0))
  have hs0 : (w.alloc (.cells #[.slice a0 n0 c0, .slice a1 n1 c1, .int .i64 ds, .slice a2 n2 c2, .slice a3 n3 c3, .slice a4 n4 c4] 30 (0, 0))).heap.size = w.heap.size + 1 := by simp
  have HRD := Lib.hid fun (wx : World) (hx : Below w.heap.size w wx) => Shape.le _ (Shape.below _ h hx (Nat.le_refl _)) hx.size
  have HBK := Lib.hid hb
  have HMM := Lib.hid fun (wx : World) (hx : Below w.heap.size w wx) => (hm.below hx (Nat.le_refl _)).le hx.size
  have HLL := Lib.hid fun (wx : World) (hx : Below w.heap.size w wx) => (hl.below hx (Nat.le_refl _)).le hx.size
  have HMN := Lib.hid hm.1
  have HM := Lib.hid hm
  have HR := Lib.hid hr
  have HLN := Lib.hid hl.len
  have HA := Lib.hid hal
  have HB0 := Lib.hid hb0
  have hn1 : n1 ≤ 1048576 := hl.room
  have hn2 := hr0
  clear hal hb0 hr0
  have hmr : ∀ wx, Below w.heap.size w wx → shModel.reads (Under wx.heap.size) wx [.slice a0 n0 c0] m := fun wx hx => shModel_reads.2 ⟨_, _, _, rfl, hp, hq, (hm.below hx (Nat.le_refl _)).le hx.size⟩
  have hbm' : shModel.bulk m ≤ 1048576 := hbm
  have HC := Lib.hid fun (wx : World) (hx : Below w.heap.size w wx) => implModelOk_d wx _ m (hmr wx hx) hbm'
  have HV := Lib.hid (show againstB (m, l, ds, r, cp, lm) ps 0 = !modelOkB m from rfl)
  obtain ⟨V, hV⟩ : ∃ V, modelOkB m = V := ⟨_, rfl⟩
  simp only [hV] at HC HV
  clear h hb hm hbm hl hr hcp hlm hp hq h' hb' HRD HLL HMM HM HR g1 g2
  clear hmr hbm' hV
  go_enter Try.func74, Try.ntmps74
  go_upto_region 1 with fail
  generalize w.alloc (.cells #[.slice a0 n0 c0, .slice a1 n1 c1, .int .i64 ds, .slice a2 n2 c2, .slice a3 n3 c3, .slice a4 n4 c4] 30 (0, 0)) = wa at HA HB0 hs0 ⊢
  obtain ⟨z0, z1, z2, z3, z4, z5⟩ := box6 HB0.out
  go_wp2_with fail
  refine (HC.out wa HA.out).mono ?_
  rintro e w1 ⟨rfl, hb⟩
  have HW1 := Lib.hid (HA.out.trans (hb.mono HA.out.size))
  clear hb
  go_wp2_with fail
  go_ret
  exact ⟨by rw [HV.out]; rfl, HW1.out⟩
set_option maxRecDepth 100000 in
set_option maxHeartbeats 3200000 in
theorem implReason2_d (w : World) (es : List Value) (x : dConfig) (h : shConfig.reads (Under w.heap.size) w es x) (hb : shConfig.bulk x ≤ 1048576) (a' : Option Addr) (n' c' : Nat) (ps : List dPair) (h' : ListAt shPair (Under w.heap.size) w a' n' ps) (g1 : n' ≤ c') (g2 : c' ≤ 9223372036854775807) (hb' : (Shape.list shPair).bulk ps ≤ 1048576) :
    Calls Try.prog 75 #[.agg es.toArray, .slice a' n' c'] w fun e w' => e = .returned ((.bool (againstB x ps 1))) ∧ Below w.heap.size w w' := by
  obtain ⟨m, l, ds, r, cp, lm⟩ := x
  obtain ⟨a0, n0, c0, a1, n1, c1, a2, n2, c2, a3, n3, c3, a4, n4, c4, rfl, hp, hq, hm, hbm, hl, ⟨hr0, hr⟩, hcp, hlm⟩ := conf_in h hb
  try dsimp only
  have hal : Below w.heap.size w (w.alloc (.cells #[.slice a0 n0 c0, .slice a1 n1 c1, .int .i64 ds, .slice a2 n2 c2, .slice a3 n3 c3, .slice a4 n4 c4] 30 (0, 0))) := (Below.refl _ _).alloc (Nat.le_refl _) _
  have hb0 := heap_alloc_new w (.cells #[.slice a0 n0 c0, .slice a1 n1 c1, .int .i64 ds, .slice a2 n2 c2, .slice a3 n3 c3, .slice a4 n4 c4] 30 (0, 0))
  have hs0 : (w.alloc (.cells #[.slice a0 n0 c0, .slice a1 n1 c1, .int .i64 ds, .slice a2 n2 c2, .slice a3 n3 c3, .slice a4 n4 c4] 30 (0, 0))).heap.size = w.heap.size + 1 := by simp
  have HRD := Lib.hid fun (wx : World) (hx : Below w.heap.size w wx) => Shape.le _ (Shape.below _ h hx (Nat.le_refl _)) hx.size
  have HBK := Lib.hid hb
  have HMM := Lib.hid fun (wx : World) (hx : Below w.heap.size w wx) => (hm.below hx (Nat.le_refl _)).le hx.size
  have HLL := Lib.hid fun (wx : World) (hx : Below w.heap.size w wx) => (hl.below hx (Nat.le_refl _)).le hx.size
  have HMN := Lib.hid hm.1
  have HM := Lib.hid hm
  have HR := Lib.hid hr
  have HLN := Lib.hid hl.len
  have HA := Lib.hid hal
  have HB0 := Lib.hid hb0
  have hn1 : n1 ≤ 1048576 := hl.room
  have hn2 := hr0
  clear hal hb0 hr0
  have hmr : ∀ wx, Below w.heap.size w wx → shModel.reads (Under wx.heap.size) wx [.slice a0 n0 c0] m := fun wx hx => shModel_reads.2 ⟨_, _, _, rfl, hp, hq, (hm.below hx (Nat.le_refl _)).le hx.size⟩
  have hbm' : shModel.bulk m ≤ 1048576 := hbm
  have HC := Lib.hid fun (wx : World) (hx : Below w.heap.size w wx) => implBatchOk_d wx _ m (hmr wx hx) hbm' a' n' c' ps ((h'.below hx (Nat.le_refl _)).le hx.size) g1 g2 hb'
  have HV := Lib.hid (show againstB (m, l, ds, r, cp, lm) ps 1 = !batchOkB m ps from rfl)
  obtain ⟨V, hV⟩ : ∃ V, batchOkB m ps = V := ⟨_, rfl⟩
  simp only [hV] at HC HV
  clear h hb hm hbm hl hr hcp hlm hp hq h' hb' HRD HLL HMM HM HR g1 g2
  clear hmr hbm' hV
  go_enter Try.func75, Try.ntmps75
  go_upto_region 1 with fail
  generalize w.alloc (.cells #[.slice a0 n0 c0, .slice a1 n1 c1, .int .i64 ds, .slice a2 n2 c2, .slice a3 n3 c3, .slice a4 n4 c4] 30 (0, 0)) = wa at HA HB0 hs0 ⊢
  obtain ⟨z0, z1, z2, z3, z4, z5⟩ := box6 HB0.out
  go_wp2_with fail
  refine (HC.out wa HA.out).mono ?_
  rintro e w1 ⟨rfl, hb⟩
  have HW1 := Lib.hid (HA.out.trans (hb.mono HA.out.size))
  clear hb
  go_wp2_with fail
  go_ret
  exact ⟨by rw [HV.out]; rfl, HW1.out⟩
set_option maxRecDepth 100000 in
set_option maxHeartbeats 3200000 in
theorem implReason3_d (w : World) (es : List Value) (x : dConfig) (h : shConfig.reads (Under w.heap.size) w es x) (hb : shConfig.bulk x ≤ 1048576) (a' : Option Addr) (n' c' : Nat) (ps : List dPair) (h' : ListAt shPair (Under w.heap.size) w a' n' ps) (g1 : n' ≤ c') (g2 : c' ≤ 9223372036854775807) (hb' : (Shape.list shPair).bulk ps ≤ 1048576) :
    Calls Try.prog 77 #[.agg es.toArray, .slice a' n' c'] w fun e w' => e = .returned ((.bool (againstB x ps 2))) ∧ Below w.heap.size w w' := by
  obtain ⟨m, l, ds, r, cp, lm⟩ := x
  obtain ⟨a0, n0, c0, a1, n1, c1, a2, n2, c2, a3, n3, c3, a4, n4, c4, rfl, hp, hq, hm, hbm, hl, ⟨hr0, hr⟩, hcp, hlm⟩ := conf_in h hb
  try dsimp only
  have hal : Below w.heap.size w (w.alloc (.cells #[.slice a0 n0 c0, .slice a1 n1 c1, .int .i64 ds, .slice a2 n2 c2, .slice a3 n3 c3, .slice a4 n4 c4] 30 (0, 0))) := (Below.refl _ _).alloc (Nat.le_refl _) _
  have hb0 := heap_alloc_new w (.cells #[.slice a0 n0 c0, .slice a1 n1 c1, .int .i64 ds, .slice a2 n2 c2, .slice a3 n3 c3, .slice a4 n4 c4] 30 (0, 0))
  have hs0 : (w.alloc (.cells #[.slice a0 n0 c0, .slice a1 n1 c1, .int .i64 ds, .slice a2 n2 c2, .slice a3 n3 c3, .slice a4 n4 c4] 30 (0, 0))).heap.size = w.heap.size + 1 := by simp
  have HRD := Lib.hid fun (wx : World) (hx : Below w.heap.size w wx) => Shape.le _ (Shape.below _ h hx (Nat.le_refl _)) hx.size
  have HBK := Lib.hid hb
  have HMM := Lib.hid fun (wx : World) (hx : Below w.heap.size w wx) => (hm.below hx (Nat.le_refl _)).le hx.size
  have HLL := Lib.hid fun (wx : World) (hx : Below w.heap.size w wx) => (hl.below hx (Nat.le_refl _)).le hx.size
  have HMN := Lib.hid hm.1
  have HM := Lib.hid hm
  have HR := Lib.hid hr
  have HLN := Lib.hid hl.len
  have HA := Lib.hid hal
  have HB0 := Lib.hid hb0
  have hn1 : n1 ≤ 1048576 := hl.room
  have hn2 := hr0
  clear hal hb0 hr0
  have HC := Lib.hid fun (wx : World) (hx : Below w.heap.size w wx) => implStagesOf_d wx _ _ (Shape.le _ (Shape.below _ h hx (Nat.le_refl _)) hx.size) hb
  dsimp only at HC
  have hv : againstB (m, l, ds, r, cp, lm) ps 2 = !(cutsOkB m l && decide (n1 + 1 ≤ 4)) := by rw [← hl.len]; rfl
  obtain ⟨q, hq'⟩ : ∃ q, cutsOkB m l = q := ⟨_, rfl⟩
  rw [hq'] at hv
  have hN : stagesN m l = if q = true then (n1 : Int) + 1 else 0 := by unfold stagesN; rw [hq', hl.len]
  obtain ⟨N, hN'⟩ : ∃ N, stagesN m l = N := ⟨_, rfl⟩
  rw [hN'] at hN
  simp only [hN'] at HC
  have HV := Lib.hid hv
  have HN := Lib.hid hN
  clear h hb hm hbm hl hr hcp hlm hp hq h' hb' HRD HLL HMM HM HR g1 g2
  clear hv hN hN' hq'
  go_enter Try.func77, Try.ntmps77
  go_upto_region 1 with fail
  generalize w.alloc (.cells #[.slice a0 n0 c0, .slice a1 n1 c1, .int .i64 ds, .slice a2 n2 c2, .slice a3 n3 c3, .slice a4 n4 c4] 30 (0, 0)) = wa at HA HB0 hs0 ⊢
  obtain ⟨z0, z1, z2, z3, z4, z5⟩ := box6 HB0.out
  go_wp2_with fail
  refine (HC.out wa HA.out).mono ?_
  rintro e w1 ⟨rfl, hb⟩
  have HW1 := Lib.hid (HA.out.trans (hb.mono HA.out.size))
  have HB1 := Lib.hid ((hb.block w.heap.size (by omega)).trans HB0.out)
  clear hb z0 z1 z2 z3 z4 z5
  obtain ⟨z0, z1, z2, z3, z4, z5⟩ := box6 HB1.out
  cases q
  · have hNN : N = 0 := HN.out
    have hd : decide (N < 1) = true := decide_eq_true (by omega)
    clear hNN
    go_wp2_with fail
    go_ret
    exact ⟨by rw [HV.out]; rfl, HW1.out⟩
  · have hNN : N = (n1 : Int) + 1 := HN.out
    have hd : decide (N < 1) = false := decide_eq_false (by omega)
    have HNN := Lib.hid hNN
    clear hNN
    by_cases h4 : n1 + 1 ≤ 4
    · have hd4 : decide (N > 4) = false := decide_eq_false (by have := HNN.out; omega)
      go_wp2_with fail
      refine (HC.out w1 HW1.out).mono ?_
      rintro e w2 ⟨rfl, hb⟩
      have HW2 := Lib.hid (HW1.out.trans (hb.mono HW1.out.size))
      clear hb
      go_wp2_with fail
      go_ret
      exact ⟨by rw [HV.out, decide_eq_true h4]; rfl, HW2.out⟩
    · have hd4 : decide (N > 4) = true := decide_eq_true (by have := HNN.out; omega)
      go_wp2_with fail
      refine (HC.out w1 HW1.out).mono ?_
      rintro e w2 ⟨rfl, hb⟩
      have HW2 := Lib.hid (HW1.out.trans (hb.mono HW1.out.size))
      clear hb
      go_wp2_with fail
      go_ret
      exact ⟨by rw [HV.out, decide_eq_false h4]; rfl, HW2.out⟩
set_option maxRecDepth 100000 in
set_option maxHeartbeats 3200000 in
theorem implReason4_d (w : World) (es : List Value) (x : dConfig) (h : shConfig.reads (Under w.heap.size) w es x) (hb : shConfig.bulk x ≤ 1048576) (a' : Option Addr) (n' c' : Nat) (ps : List dPair) (h' : ListAt shPair (Under w.heap.size) w a' n' ps) (g1 : n' ≤ c') (g2 : c' ≤ 9223372036854775807) (hb' : (Shape.list shPair).bulk ps ≤ 1048576) :
    Calls Try.prog 78 #[.agg es.toArray, .slice a' n' c'] w fun e w' => e = .returned ((.bool (againstB x ps 3))) ∧ Below w.heap.size w w' := by
  obtain ⟨m, l, ds, r, cp, lm⟩ := x
  obtain ⟨a0, n0, c0, a1, n1, c1, a2, n2, c2, a3, n3, c3, a4, n4, c4, rfl, hp, hq, hm, hbm, hl, ⟨hr0, hr⟩, hcp, hlm⟩ := conf_in h hb
  try dsimp only
  have hal : Below w.heap.size w (w.alloc (.cells #[.slice a0 n0 c0, .slice a1 n1 c1, .int .i64 ds, .slice a2 n2 c2, .slice a3 n3 c3, .slice a4 n4 c4] 30 (0, 0))) := (Below.refl _ _).alloc (Nat.le_refl _) _
  have hb0 := heap_alloc_new w (.cells #[.slice a0 n0 c0, .slice a1 n1 c1, .int .i64 ds, .slice a2 n2 c2, .slice a3 n3 c3, .slice a4 n4 c4] 30 (0, 0))
  have hs0 : (w.alloc (.cells #[.slice a0 n0 c0, .slice a1 n1 c1, .int .i64 ds, .slice a2 n2 c2, .slice a3 n3 c3, .slice a4 n4 c4] 30 (0, 0))).heap.size = w.heap.size + 1 := by simp
  have HRD := Lib.hid fun (wx : World) (hx : Below w.heap.size w wx) => Shape.le _ (Shape.below _ h hx (Nat.le_refl _)) hx.size
  have HBK := Lib.hid hb
  have HMM := Lib.hid fun (wx : World) (hx : Below w.heap.size w wx) => (hm.below hx (Nat.le_refl _)).le hx.size
  have HLL := Lib.hid fun (wx : World) (hx : Below w.heap.size w wx) => (hl.below hx (Nat.le_refl _)).le hx.size
  have HMN := Lib.hid hm.1
  have HM := Lib.hid hm
  have HR := Lib.hid hr
  have HLN := Lib.hid hl.len
  have HA := Lib.hid hal
  have HB0 := Lib.hid hb0
  have hn1 : n1 ≤ 1048576 := hl.room
  have hn2 := hr0
  clear hal hb0 hr0
  have hv : againstB (m, l, ds, r, cp, lm) ps 3 = !inB 1 2 ds := rfl
  clear h hb hm hbm hl hr hcp hlm hp hq h' hb' HRD HLL HMM HM HR g1 g2
  clear HBK HMN HLN
  go_enter Try.func78, Try.ntmps78
  go_upto_region 1 with fail
  generalize w.alloc (.cells #[.slice a0 n0 c0, .slice a1 n1 c1, .int .i64 ds, .slice a2 n2 c2, .slice a3 n3 c3, .slice a4 n4 c4] 30 (0, 0)) = wa at HA HB0 hs0 ⊢
  obtain ⟨z0, z1, z2, z3, z4, z5⟩ := box6 HB0.out
  by_cases h1 : ds = 1
  · subst h1
    have HV := Lib.hid hv
    clear hv
    go_wp2_with fail
    go_ret
    exact ⟨by rw [HV.out]; rfl, HA.out⟩
  · by_cases h2 : ds = 2
    · subst h2
      have HV := Lib.hid hv
      clear hv h1
      go_wp2_with fail
      go_ret
      exact ⟨by rw [HV.out]; rfl, HA.out⟩
    · have hd1 : (ds != 1) = true := by simpa using h1
      have hd2 : (ds != 2) = true := by simpa using h2
      rw [inB_no (by omega)] at hv
      have HV := Lib.hid hv
      clear hv
      go_wp2_with fail
      go_ret
      exact ⟨by rw [HV.out]; rfl, HA.out⟩
set_option maxRecDepth 100000 in
set_option maxHeartbeats 3200000 in
theorem implReason5_d (w : World) (es : List Value) (x : dConfig) (h : shConfig.reads (Under w.heap.size) w es x) (hb : shConfig.bulk x ≤ 1048576) (a' : Option Addr) (n' c' : Nat) (ps : List dPair) (h' : ListAt shPair (Under w.heap.size) w a' n' ps) (g1 : n' ≤ c') (g2 : c' ≤ 9223372036854775807) (hb' : (Shape.list shPair).bulk ps ≤ 1048576) (hcv : cutsOkB x.1 x.2.1 = true) :
    Calls Try.prog 79 #[.agg es.toArray, .slice a' n' c'] w fun e w' => e = .returned ((.bool (againstB x ps 4))) ∧ Below w.heap.size w w' := by
  obtain ⟨m, l, ds, r, cp, lm⟩ := x
  obtain ⟨a0, n0, c0, a1, n1, c1, a2, n2, c2, a3, n3, c3, a4, n4, c4, rfl, hp, hq, hm, hbm, hl, ⟨hr0, hr⟩, hcp, hlm⟩ := conf_in h hb
  try dsimp only
  have hal : Below w.heap.size w (w.alloc (.cells #[.slice a0 n0 c0, .slice a1 n1 c1, .int .i64 ds, .slice a2 n2 c2, .slice a3 n3 c3, .slice a4 n4 c4] 30 (0, 0))) := (Below.refl _ _).alloc (Nat.le_refl _) _
  have hb0 := heap_alloc_new w (.cells #[.slice a0 n0 c0, .slice a1 n1 c1, .int .i64 ds, .slice a2 n2 c2, .slice a3 n3 c3, .slice a4 n4 c4] 30 (0, 0))
  have hs0 : (w.alloc (.cells #[.slice a0 n0 c0, .slice a1 n1 c1, .int .i64 ds, .slice a2 n2 c2, .slice a3 n3 c3, .slice a4 n4 c4] 30 (0, 0))).heap.size = w.heap.size + 1 := by simp
  have HRD := Lib.hid fun (wx : World) (hx : Below w.heap.size w wx) => Shape.le _ (Shape.below _ h hx (Nat.le_refl _)) hx.size
  have HBK := Lib.hid hb
  have HMM := Lib.hid fun (wx : World) (hx : Below w.heap.size w wx) => (hm.below hx (Nat.le_refl _)).le hx.size
  have HLL := Lib.hid fun (wx : World) (hx : Below w.heap.size w wx) => (hl.below hx (Nat.le_refl _)).le hx.size
  have HMN := Lib.hid hm.1
  have HM := Lib.hid hm
  have HR := Lib.hid hr
  have HLN := Lib.hid hl.len
  have HA := Lib.hid hal
  have HB0 := Lib.hid hb0
  have hn1 : n1 ≤ 1048576 := hl.room
  have hn2 := hr0
  clear hal hb0 hr0
  have HC := Lib.hid fun (wx : World) (hx : Below w.heap.size w wx) => implStagesOf_d wx _ _ (Shape.le _ (Shape.below _ h hx (Nat.le_refl _)) hx.size) hb
  dsimp only at HC
  replace hcv : cutsOkB m l = true := hcv
  have hN : stagesN m l = (n1 : Int) + 1 := by unfold stagesN; rw [if_pos hcv, hl.len]
  simp only [hN] at HC
  have hv : againstB (m, l, ds, r, cp, lm) ps 4 = !decide (n2 = n1 + 1) := by rw [← hl.len, ← hr.1]; rfl
  have HV := Lib.hid hv
  clear h hb hm hbm hl hr hcp hlm hp hq h' hb' HRD HLL HMM HM HR g1 g2
  clear hv hN hcv
  go_enter Try.func79, Try.ntmps79
  go_upto_region 1 with fail
  generalize w.alloc (.cells #[.slice a0 n0 c0, .slice a1 n1 c1, .int .i64 ds, .slice a2 n2 c2, .slice a3 n3 c3, .slice a4 n4 c4] 30 (0, 0)) = wa at HA HB0 hs0 ⊢
  obtain ⟨z0, z1, z2, z3, z4, z5⟩ := box6 HB0.out
  by_cases h5 : n2 = n1 + 1
  · have hd5 : ((n2 : Int) != (n1 : Int) + 1) = false := by rw [h5]; simp
    have HE := Lib.hid (show againstB (m, l, ds, r, cp, lm) ps 4 = false by rw [HV.out, decide_eq_true h5]; rfl)
    clear h5 HV
    have k0 := cell_regrown z0
    have k1 := cell_regrown z1
    have k2 := cell_regrown z2
    have k3 := cell_regrown z3
    have k4 := cell_regrown z4
    have k5 := cell_regrown z5
    have cC := fun d os => Calls.regrown_of (w := wa) (d := d) (os := os) (HC.out _ (HA.out.trans ((below_regrown wa d os).mono HA.out.size)))
    have CC := Lib.hid cC
    clear cC z0 z1 z2 z3 z4 z5
    refine wp_region_quiet_below (by kernel_rfl) (by kernel_rfl) ?_
    repeat (go_big_quiet_step (with_reducible first | exact CC.out _ _))
    refine wpQuiet_nil ?_
    intro _ hw'
    obtain ⟨⟨dq, osq⟩, hw''⟩ := hw'
    subst hw''
    have hwq := below_regrown wa dq osq
    generalize grow (redrawn wa dq) osq = wn at hwq ⊢
    have hsn := hwq.size
    have WN := Lib.hid (HA.out.trans (hwq.mono HA.out.size))
    have HBN := Lib.hid ((hwq.block w.heap.size (by omega)).trans HB0.out)
    clear k0 k1 k2 k3 k4 k5 CC hwq
    go_simp
    go_wp2_with fail
    go_ret
    exact ⟨by rw [HE.out]; rfl, WN.out⟩
  · have hd5 : ((n2 : Int) != (n1 : Int) + 1) = true := by simpa using (by omega : ¬ (n2 : Int) = (n1 : Int) + 1)
    have HE := Lib.hid (show againstB (m, l, ds, r, cp, lm) ps 4 = true by rw [HV.out, decide_eq_false h5]; rfl)
    clear h5 HV
    have k0 := cell_regrown z0
    have k1 := cell_regrown z1
    have k2 := cell_regrown z2
    have k3 := cell_regrown z3
    have k4 := cell_regrown z4
    have k5 := cell_regrown z5
    have cC := fun d os => Calls.regrown_of (w := wa) (d := d) (os := os) (HC.out _ (HA.out.trans ((below_regrown wa d os).mono HA.out.size)))
    have CC := Lib.hid cC
    clear cC z0 z1 z2 z3 z4 z5
    refine wp_region_quiet_below (by kernel_rfl) (by kernel_rfl) ?_
    repeat (go_big_quiet_step (with_reducible first | exact CC.out _ _))
    refine wpQuiet_nil ?_
    intro _ hw'
    obtain ⟨⟨dq, osq⟩, hw''⟩ := hw'
    subst hw''
    have hwq := below_regrown wa dq osq
    generalize grow (redrawn wa dq) osq = wn at hwq ⊢
    have hsn := hwq.size
    have WN := Lib.hid (HA.out.trans (hwq.mono HA.out.size))
    have HBN := Lib.hid ((hwq.block w.heap.size (by omega)).trans HB0.out)
    clear k0 k1 k2 k3 k4 k5 CC hwq
    go_simp
    go_wp2_with fail
    go_ret
    exact ⟨by rw [HE.out]; rfl, WN.out⟩
set_option maxRecDepth 100000 in
set_option maxHeartbeats 3200000 in
theorem implCapsOk_d (w : World) (es : List Value) (x : dConfig) (h : shConfig.reads (Under w.heap.size) w es x) (hb : shConfig.bulk x ≤ 1048576) :
    Calls Try.prog 81 #[.agg es.toArray] w fun e w' => e = .returned ((.bool (capsB x.2.1.length x.2.2.2.2.1))) ∧ Below w.heap.size w w' := by
  obtain ⟨m, l, ds, r, cp, lm⟩ := x
  obtain ⟨a0, n0, c0, a1, n1, c1, a2, n2, c2, a3, n3, c3, a4, n4, c4, rfl, hp, hq, hm, hbm, hl, ⟨hr0, hr⟩, hcp, hlm⟩ := conf_in h hb
  try dsimp only
  have hal : Below w.heap.size w (w.alloc (.cells #[.slice a0 n0 c0, .slice a1 n1 c1, .int .i64 ds, .slice a2 n2 c2, .slice a3 n3 c3, .slice a4 n4 c4] 30 (0, 0))) := (Below.refl _ _).alloc (Nat.le_refl _) _
  have hb0 := heap_alloc_new w (.cells #[.slice a0 n0 c0, .slice a1 n1 c1, .int .i64 ds, .slice a2 n2 c2, .slice a3 n3 c3, .slice a4 n4 c4] 30 (0, 0))
  have hs0 : (w.alloc (.cells #[.slice a0 n0 c0, .slice a1 n1 c1, .int .i64 ds, .slice a2 n2 c2, .slice a3 n3 c3, .slice a4 n4 c4] 30 (0, 0))).heap.size = w.heap.size + 1 := by simp
  have HRD := Lib.hid fun (wx : World) (hx : Below w.heap.size w wx) => Shape.le _ (Shape.below _ h hx (Nat.le_refl _)) hx.size
  have HBK := Lib.hid hb
  have HMM := Lib.hid fun (wx : World) (hx : Below w.heap.size w wx) => (hm.below hx (Nat.le_refl _)).le hx.size
  have HLL := Lib.hid fun (wx : World) (hx : Below w.heap.size w wx) => (hl.below hx (Nat.le_refl _)).le hx.size
  have HMN := Lib.hid hm.1
  have HM := Lib.hid hm
  have HR := Lib.hid hr
  have HLN := Lib.hid hl.len
  have HA := Lib.hid hal
  have HB0 := Lib.hid hb0
  have hn1 : n1 ≤ 1048576 := hl.room
  have hn2 := hr0
  clear hal hb0 hr0
  have HCP := Lib.hid hcp
  have hn3 := hcp.room
  have hll : l.length = n1 := hl.len
  rw [hll]
  clear h hb hm hbm hl hr hcp hlm hp hq
  clear hll HRD HLL HMM HM HR
  go_enter Try.func81, Try.ntmps81
  go_upto_region 1 with fail
  generalize w.alloc (.cells #[.slice a0 n0 c0, .slice a1 n1 c1, .int .i64 ds, .slice a2 n2 c2, .slice a3 n3 c3, .slice a4 n4 c4] 30 (0, 0)) = wa at HA HB0 hs0 ⊢
  obtain ⟨z0, z1, z2, z3, z4, z5⟩ := box6 HB0.out
  by_cases h6 : n3 = n1
  · have hd6 : ((n3 : Int) != (n1 : Int)) = false := by rw [h6]; simp
    have H6 := Lib.hid h6
    clear h6
    go_wp2_with fail
    go_loopw [15] (fun i wr => ∃ k : Nat, k ≤ n3 ∧ i = .int .i64 k ∧ Hid (∀ j, j < k → inB 1 5 (cp.getD j 0) = true) ∧ wr = wa) (fun i _ => n3 - (intOf i).toNat)
    case atStart => exact ⟨0, Nat.zero_le _, rfl, Lib.hid fun j hj => absurd hj (Nat.not_lt_zero _), rfl⟩
    case round =>
      obtain ⟨k, hk, rfl, hgood, rfl⟩ := hrel
      by_cases hkt : k < n3
      · obtain ⟨b, o, rfl, hbB, hc0⟩ := HCP.out.cells k hkt
        obtain ⟨X, hX⟩ : ∃ X, cp.getD k 0 = X := ⟨_, rfl⟩
        rw [hX] at hc0
        have cm := (HA.out.cell (p := ⟨b, o + k, none⟩) hbB).trans hc0
        have HX := Lib.hid hX
        clear hX hc0
        by_cases h1 : X < 1
        · have hd1 : decide (X < 1) = true := decide_eq_true h1
          have HRE := Lib.hid (show capsB n1 cp = false from caps_bad (by rw [HCP.out.len]; exact hkt) (by rw [HX.out]; exact inB_no (.inl h1)))
          clear h1
          go_wp2_with fail
          go_ret
          exact ⟨by rw [HRE.out]; rfl, HA.out⟩
        · have hd1 : decide (X < 1) = false := decide_eq_false h1
          by_cases h5 : X > 5
          · have hd5 : decide (X > 5) = true := decide_eq_true h5
            have HRE := Lib.hid (show capsB n1 cp = false from caps_bad (by rw [HCP.out.len]; exact hkt) (by rw [HX.out]; exact inB_no (.inr h5)))
            go_wp2_with fail
            go_ret
            exact ⟨by rw [HRE.out]; rfl, HA.out⟩
          · have hd5 : decide (X > 5) = false := decide_eq_false h5
            have HIN := Lib.hid (show inB 1 5 (cp.getD k 0) = true by rw [HX.out]; exact inB_yes (by omega) (by omega))
            go_wp2_with fail
            go_roundw
            case rel =>
              refine ⟨k + 1, by omega, by go_num, Lib.hid fun j hj => ?_, trivial⟩
              by_cases e : j = k
              · subst e; exact HIN.out
              · exact hgood.out j (by omega)
            case measure => simp [intOf]; omega
      · obtain rfl : k = n3 := by omega
        have HRE := Lib.hid (show capsB n1 cp = true from caps_all (by rw [HCP.out.len]; exact H6.out) (by rw [HCP.out.len]; exact hgood.out))
        clear hgood
        go_wp2_with fail
        go_ret
        exact ⟨by rw [HRE.out]; rfl, HA.out⟩
  · have hd6 : ((n3 : Int) != (n1 : Int)) = true := by simpa using (by omega : ¬ (n3 : Int) = n1)
    have HRE := Lib.hid (show capsB n1 cp = false from caps_len (by rw [HCP.out.len]; exact h6))
    go_wp2_with fail
    go_ret
    exact ⟨by rw [HRE.out]; rfl, HA.out⟩
set_option maxRecDepth 100000 in
set_option maxHeartbeats 3200000 in
theorem implLimitsOk_d (w : World) (es : List Value) (x : dConfig) (h : shConfig.reads (Under w.heap.size) w es x) (hb : shConfig.bulk x ≤ 1048576) (micro : Int) (hcv : cutsOkB x.1 x.2.1 = true) :
    Calls Try.prog 83 #[.agg es.toArray, .int .i64 micro] w fun e w' => e = .returned ((.bool (limB (fun s => peakN x.1 x.2.1 x.2.2.1 x.2.2.2.1 s micro) (x.2.1.length + 1) x.2.2.2.2.2))) ∧ Below w.heap.size w w' := by
  obtain ⟨m, l, ds, r, cp, lm⟩ := x
  obtain ⟨a0, n0, c0, a1, n1, c1, a2, n2, c2, a3, n3, c3, a4, n4, c4, rfl, hp, hq, hm, hbm, hl, ⟨hr0, hr⟩, hcp, hlm⟩ := conf_in h hb
  try dsimp only
  have hal : Below w.heap.size w (w.alloc (.cells #[.slice a0 n0 c0, .slice a1 n1 c1, .int .i64 ds, .slice a2 n2 c2, .slice a3 n3 c3, .slice a4 n4 c4] 30 (0, 0))) := (Below.refl _ _).alloc (Nat.le_refl _) _
  have hb0 := heap_alloc_new w (.cells #[.slice a0 n0 c0, .slice a1 n1 c1, .int .i64 ds, .slice a2 n2 c2, .slice a3 n3 c3, .slice a4 n4 c4] 30 (0, 0))
  have hs0 : (w.alloc (.cells #[.slice a0 n0 c0, .slice a1 n1 c1, .int .i64 ds, .slice a2 n2 c2, .slice a3 n3 c3, .slice a4 n4 c4] 30 (0, 0))).heap.size = w.heap.size + 1 := by simp
  have HRD := Lib.hid fun (wx : World) (hx : Below w.heap.size w wx) => Shape.le _ (Shape.below _ h hx (Nat.le_refl _)) hx.size
  have HBK := Lib.hid hb
  have HMM := Lib.hid fun (wx : World) (hx : Below w.heap.size w wx) => (hm.below hx (Nat.le_refl _)).le hx.size
  have HLL := Lib.hid fun (wx : World) (hx : Below w.heap.size w wx) => (hl.below hx (Nat.le_refl _)).le hx.size
  have HMN := Lib.hid hm.1
  have HM := Lib.hid hm
  have HR := Lib.hid hr
  have HLN := Lib.hid hl.len
  have HA := Lib.hid hal
  have HB0 := Lib.hid hb0
  have hn1 : n1 ≤ 1048576 := hl.room
  have hn2 := hr0
  clear hal hb0 hr0
  have HC := Lib.hid fun (wx : World) (hx : Below w.heap.size w wx) => implStagesOf_d wx _ _ (Shape.le _ (Shape.below _ h hx (Nat.le_refl _)) hx.size) hb
  dsimp only at HC
  replace hcv : cutsOkB m l = true := hcv
  have hN : stagesN m l = (n1 : Int) + 1 := by unfold stagesN; rw [if_pos hcv, hl.len]
  simp only [hN] at HC
  have HPK := Lib.hid fun (wx : World) (hx : Below w.heap.size w wx) (k : Int) => implPeakOf_d wx _ _ (Shape.le _ (Shape.below _ h hx (Nat.le_refl _)) hx.size) hb k micro
  dsimp only at HPK
  have HLM := Lib.hid hlm
  have hn4 := hlm.room
  have hll : l.length = n1 := hl.len
  rw [hll]
  clear h hb hm hbm hl hr hcp hlm hp hq
  clear hll HRD HLL HMM HM HR hN hcv
  go_enter Try.func83, Try.ntmps83
  go_upto_region 1 with fail
  generalize w.alloc (.cells #[.slice a0 n0 c0, .slice a1 n1 c1, .int .i64 ds, .slice a2 n2 c2, .slice a3 n3 c3, .slice a4 n4 c4] 30 (0, 0)) = wa at HA HB0 hs0 ⊢
  obtain ⟨z0, z1, z2, z3, z4, z5⟩ := box6 HB0.out
  by_cases h7 : n4 = n1 + 1
  · have hd7 : ((n4 : Int) != (n1 : Int) + 1) = false := by rw [h7]; simp
    have H7 := Lib.hid h7
    clear h7
    have k0 := cell_regrown z0
    have k1 := cell_regrown z1
    have k2 := cell_regrown z2
    have k3 := cell_regrown z3
    have k4 := cell_regrown z4
    have k5 := cell_regrown z5
    have cC := fun d os => Calls.regrown_of (w := wa) (d := d) (os := os) (HC.out _ (HA.out.trans ((below_regrown wa d os).mono HA.out.size)))
    have CC := Lib.hid cC
    clear cC z0 z1 z2 z3 z4 z5
    refine wp_region_quiet_below (by kernel_rfl) (by kernel_rfl) ?_
    repeat (go_big_quiet_step (with_reducible first | exact CC.out _ _))
    refine wpQuiet_nil ?_
    intro _ hw'
    obtain ⟨⟨dq, osq⟩, hw''⟩ := hw'
    subst hw''
    have hwq := below_regrown wa dq osq
    generalize grow (redrawn wa dq) osq = wn at hwq ⊢
    have hsn := hwq.size
    have WN := Lib.hid (HA.out.trans (hwq.mono HA.out.size))
    have HBN := Lib.hid ((hwq.block w.heap.size (by omega)).trans HB0.out)
    clear k0 k1 k2 k3 k4 k5 CC hwq
    go_simp
    obtain ⟨z0, z1, z2, z3, z4, z5⟩ := box6 HBN.out
    go_wp2_with fail
    go_loopw [16] (fun i wr => ∃ k : Nat, k ≤ n4 ∧ i = .int .i64 k ∧ Hid (∀ j, j < k → inB (peakN m l ds r (j : Int) micro) 100000 (lm.getD j 0) = true) ∧ Below wn.heap.size wn wr) (fun i _ => n4 - (intOf i).toNat)
    case atStart => exact ⟨0, Nat.zero_le _, rfl, Lib.hid fun j hj => absurd hj (Nat.not_lt_zero _), Below.refl _ _⟩
    case round =>
      obtain ⟨q, hq, rfl, hgood, hbw⟩ := hrel
      have hsz := hbw.size
      have HWR := Lib.hid (WN.out.trans (hbw.mono WN.out.size))
      have HBR := Lib.hid ((hbw.block w.heap.size (by omega)).trans HBN.out)
      have HBW := Lib.hid hbw
      clear hbw z0 z1 z2 z3 z4 z5
      obtain ⟨z0, z1, z2, z3, z4, z5⟩ := box6 HBR.out
      by_cases hqt : q < n4
      · obtain ⟨b, o, rfl, hbB, hc0⟩ := HLM.out.cells q hqt
        obtain ⟨X, hX⟩ : ∃ X, lm.getD q 0 = X := ⟨_, rfl⟩
        rw [hX] at hc0
        have cm := (HWR.out.cell (p := ⟨b, o + q, none⟩) hbB).trans hc0
        have hcp' := HPK.out wr HWR.out (q : Int)
        obtain ⟨PV, hPV⟩ : ∃ V, peakN m l ds r (q : Int) micro = V := ⟨_, rfl⟩
        rw [hPV] at hcp'
        have HCP' := Lib.hid hcp'
        have HX := Lib.hid hX
        have HPV := Lib.hid hPV
        clear hX hc0 hcp' hPV
        go_wp2_with fail
        refine HCP'.out.mono ?_
        rintro e w2 ⟨rfl, hb⟩
        have HB2 := Lib.hid (HBW.out.trans (hb.mono hsz))
        have HW2 := Lib.hid (HWR.out.trans (hb.mono HWR.out.size))
        clear hb cm z0 z1 z2 z3 z4 z5
        by_cases h1 : X < PV
        · have hd1 : decide (X < PV) = true := decide_eq_true h1
          have HRE := Lib.hid (show limB (fun s => peakN m l ds r s micro) (n1 + 1) lm = false from lim_bad (P := fun s => peakN m l ds r s micro) (by rw [HLM.out.len]; exact hqt) (by rw [HX.out]; show inB (peakN m l ds r (q : Int) micro) _ _ = false; rw [HPV.out]; exact inB_no (.inl h1)))
          clear h1
          go_wp2_with fail
          go_ret
          exact ⟨by rw [HRE.out]; rfl, HW2.out⟩
        · have hd1 : decide (X < PV) = false := decide_eq_false h1
          by_cases h5 : X > 100000
          · have hd5 : decide (X > 100000) = true := decide_eq_true h5
            have HRE := Lib.hid (show limB (fun s => peakN m l ds r s micro) (n1 + 1) lm = false from lim_bad (P := fun s => peakN m l ds r s micro) (by rw [HLM.out.len]; exact hqt) (by rw [HX.out]; exact inB_no (.inr h5)))
            go_wp2_with fail
            go_ret
            exact ⟨by rw [HRE.out]; rfl, HW2.out⟩
          · have hd5 : decide (X > 100000) = false := decide_eq_false h5
            have HIN := Lib.hid (show inB (peakN m l ds r (q : Int) micro) 100000 (lm.getD q 0) = true by rw [HX.out, HPV.out]; exact inB_yes (by omega) (by omega))
            clear h1 h5
            go_wp2_with fail
            go_roundw
            case rel =>
              refine ⟨q + 1, by omega, by go_num, Lib.hid fun j hj => ?_, HB2.out⟩
              by_cases e : j = q
              · subst e; exact HIN.out
              · exact hgood.out j (by omega)
            case measure => simp [intOf]; omega
      · obtain rfl : q = n4 := by omega
        have HRE := Lib.hid (show limB (fun s => peakN m l ds r s micro) (n1 + 1) lm = true from lim_all (P := fun s => peakN m l ds r s micro) (by rw [HLM.out.len]; exact H7.out) (by rw [HLM.out.len]; exact hgood.out))
        clear hgood
        go_wp2_with fail
        go_ret
        exact ⟨by rw [HRE.out]; rfl, HWR.out⟩
  · have hd7 : ((n4 : Int) != (n1 : Int) + 1) = true := by simpa using (by omega : ¬ (n4 : Int) = (n1 : Int) + 1)
    have HRE := Lib.hid (show limB (fun s => peakN m l ds r s micro) (n1 + 1) lm = false from lim_len (by rw [HLM.out.len]; exact h7))
    have k0 := cell_regrown z0
    have k1 := cell_regrown z1
    have k2 := cell_regrown z2
    have k3 := cell_regrown z3
    have k4 := cell_regrown z4
    have k5 := cell_regrown z5
    have cC := fun d os => Calls.regrown_of (w := wa) (d := d) (os := os) (HC.out _ (HA.out.trans ((below_regrown wa d os).mono HA.out.size)))
    have CC := Lib.hid cC
    clear cC z0 z1 z2 z3 z4 z5
    refine wp_region_quiet_below (by kernel_rfl) (by kernel_rfl) ?_
    repeat (go_big_quiet_step (with_reducible first | exact CC.out _ _))
    refine wpQuiet_nil ?_
    intro _ hw'
    obtain ⟨⟨dq, osq⟩, hw''⟩ := hw'
    subst hw''
    have hwq := below_regrown wa dq osq
    generalize grow (redrawn wa dq) osq = wn at hwq ⊢
    have hsn := hwq.size
    have WN := Lib.hid (HA.out.trans (hwq.mono HA.out.size))
    have HBN := Lib.hid ((hwq.block w.heap.size (by omega)).trans HB0.out)
    clear k0 k1 k2 k3 k4 k5 CC hwq
    go_simp
    go_wp2_with fail
    go_ret
    exact ⟨by rw [HRE.out]; rfl, WN.out⟩
set_option maxRecDepth 100000 in
set_option maxHeartbeats 3200000 in
theorem implReason6_d (w : World) (es : List Value) (x : dConfig) (h : shConfig.reads (Under w.heap.size) w es x) (hb : shConfig.bulk x ≤ 1048576) (a' : Option Addr) (n' c' : Nat) (ps : List dPair) (h' : ListAt shPair (Under w.heap.size) w a' n' ps) (g1 : n' ≤ c') (g2 : c' ≤ 9223372036854775807) (hb' : (Shape.list shPair).bulk ps ≤ 1048576) :
    Calls Try.prog 80 #[.agg es.toArray, .slice a' n' c'] w fun e w' => e = .returned ((.bool (againstB x ps 5))) ∧ Below w.heap.size w w' := by
  obtain ⟨m, l, ds, r, cp, lm⟩ := x
  obtain ⟨a0, n0, c0, a1, n1, c1, a2, n2, c2, a3, n3, c3, a4, n4, c4, rfl, hp, hq, hm, hbm, hl, ⟨hr0, hr⟩, hcp, hlm⟩ := conf_in h hb
  try dsimp only
  have hal : Below w.heap.size w (w.alloc (.cells #[.slice a0 n0 c0, .slice a1 n1 c1, .int .i64 ds, .slice a2 n2 c2, .slice a3 n3 c3, .slice a4 n4 c4] 30 (0, 0))) := (Below.refl _ _).alloc (Nat.le_refl _) _
  have hb0 := heap_alloc_new w (.cells #[.slice a0 n0 c0, .slice a1 n1 c1, .int .i64 ds, .slice a2 n2 c2, .slice a3 n3 c3, .slice a4 n4 c4] 30 (0, 0))
  have hs0 : (w.alloc (.cells #[.slice a0 n0 c0, .slice a1 n1 c1, .int .i64 ds, .slice a2 n2 c2, .slice a3 n3 c3, .slice a4 n4 c4] 30 (0, 0))).heap.size = w.heap.size + 1 := by simp
  have HRD := Lib.hid fun (wx : World) (hx : Below w.heap.size w wx) => Shape.le _ (Shape.below _ h hx (Nat.le_refl _)) hx.size
  have HBK := Lib.hid hb
  have HMM := Lib.hid fun (wx : World) (hx : Below w.heap.size w wx) => (hm.below hx (Nat.le_refl _)).le hx.size
  have HLL := Lib.hid fun (wx : World) (hx : Below w.heap.size w wx) => (hl.below hx (Nat.le_refl _)).le hx.size
  have HMN := Lib.hid hm.1
  have HM := Lib.hid hm
  have HR := Lib.hid hr
  have HLN := Lib.hid hl.len
  have HA := Lib.hid hal
  have HB0 := Lib.hid hb0
  have hn1 : n1 ≤ 1048576 := hl.room
  have hn2 := hr0
  clear hal hb0 hr0
  have hmr : ∀ wx, Below w.heap.size w wx → shModel.reads (Under wx.heap.size) wx [.slice a0 n0 c0] m := fun wx hx => shModel_reads.2 ⟨_, _, _, rfl, hp, hq, (hm.below hx (Nat.le_refl _)).le hx.size⟩
  have hbm' : shModel.bulk m ≤ 1048576 := hbm
  have HC := Lib.hid fun (wx : World) (hx : Below w.heap.size w wx) => implCapsOk_d wx _ _ (Shape.le _ (Shape.below _ h hx (Nat.le_refl _)) hx.size) hb
  dsimp only at HC
  have HV := Lib.hid (show againstB (m, l, ds, r, cp, lm) ps 5 = !capsB l.length cp from rfl)
  obtain ⟨V, hV⟩ : ∃ V, capsB l.length cp = V := ⟨_, rfl⟩
  simp only [hV] at HC HV
  clear h hb hm hbm hl hr hcp hlm hp hq h' hb' HRD HLL HMM HM HR g1 g2
  clear hmr hbm' hV
  go_enter Try.func80, Try.ntmps80
  go_upto_region 1 with fail
  generalize w.alloc (.cells #[.slice a0 n0 c0, .slice a1 n1 c1, .int .i64 ds, .slice a2 n2 c2, .slice a3 n3 c3, .slice a4 n4 c4] 30 (0, 0)) = wa at HA HB0 hs0 ⊢
  obtain ⟨z0, z1, z2, z3, z4, z5⟩ := box6 HB0.out
  go_wp2_with fail
  refine (HC.out wa HA.out).mono ?_
  rintro e w1 ⟨rfl, hb⟩
  have HW1 := Lib.hid (HA.out.trans (hb.mono HA.out.size))
  clear hb
  go_wp2_with fail
  go_ret
  exact ⟨by rw [HV.out]; rfl, HW1.out⟩
set_option maxRecDepth 100000 in
set_option maxHeartbeats 3200000 in
theorem implReason7_d (w : World) (es : List Value) (x : dConfig) (h : shConfig.reads (Under w.heap.size) w es x) (hb : shConfig.bulk x ≤ 1048576) (a' : Option Addr) (n' c' : Nat) (ps : List dPair) (h' : ListAt shPair (Under w.heap.size) w a' n' ps) (g1 : n' ≤ c') (g2 : c' ≤ 9223372036854775807) (hb' : (Shape.list shPair).bulk ps ≤ 1048576) (hcv : cutsOkB x.1 x.2.1 = true) :
    Calls Try.prog 82 #[.agg es.toArray, .slice a' n' c'] w fun e w' => e = .returned ((.bool (againstB x ps 6))) ∧ Below w.heap.size w w' := by
  obtain ⟨m, l, ds, r, cp, lm⟩ := x
  obtain ⟨a0, n0, c0, a1, n1, c1, a2, n2, c2, a3, n3, c3, a4, n4, c4, rfl, hp, hq, hm, hbm, hl, ⟨hr0, hr⟩, hcp, hlm⟩ := conf_in h hb
  try dsimp only
  have hal : Below w.heap.size w (w.alloc (.cells #[.slice a0 n0 c0, .slice a1 n1 c1, .int .i64 ds, .slice a2 n2 c2, .slice a3 n3 c3, .slice a4 n4 c4] 30 (0, 0))) := (Below.refl _ _).alloc (Nat.le_refl _) _
  have hb0 := heap_alloc_new w (.cells #[.slice a0 n0 c0, .slice a1 n1 c1, .int .i64 ds, .slice a2 n2 c2, .slice a3 n3 c3, .slice a4 n4 c4] 30 (0, 0))
  have hs0 : (w.alloc (.cells #[.slice a0 n0 c0, .slice a1 n1 c1, .int .i64 ds, .slice a2 n2 c2, .slice a3 n3 c3, .slice a4 n4 c4] 30 (0, 0))).heap.size = w.heap.size + 1 := by simp
  have HRD := Lib.hid fun (wx : World) (hx : Below w.heap.size w wx) => Shape.le _ (Shape.below _ h hx (Nat.le_refl _)) hx.size
  have HBK := Lib.hid hb
  have HMM := Lib.hid fun (wx : World) (hx : Below w.heap.size w wx) => (hm.below hx (Nat.le_refl _)).le hx.size
  have HLL := Lib.hid fun (wx : World) (hx : Below w.heap.size w wx) => (hl.below hx (Nat.le_refl _)).le hx.size
  have HMN := Lib.hid hm.1
  have HM := Lib.hid hm
  have HR := Lib.hid hr
  have HLN := Lib.hid hl.len
  have HA := Lib.hid hal
  have HB0 := Lib.hid hb0
  have hn1 : n1 ≤ 1048576 := hl.room
  have hn2 := hr0
  clear hal hb0 hr0
  have hmr : ∀ wx, Below w.heap.size w wx → shModel.reads (Under wx.heap.size) wx [.slice a0 n0 c0] m := fun wx hx => shModel_reads.2 ⟨_, _, _, rfl, hp, hq, (hm.below hx (Nat.le_refl _)).le hx.size⟩
  have hbm' : shModel.bulk m ≤ 1048576 := hbm
  have HC := Lib.hid fun (wx : World) (hx : Below w.heap.size w wx) => implLimitsOk_d wx _ _ (Shape.le _ (Shape.below _ h hx (Nat.le_refl _)) hx.size) hb (n' : Int) hcv
  dsimp only at HC
  have HV := Lib.hid (show againstB (m, l, ds, r, cp, lm) ps 6 = !limB (fun s => peakN m l ds r s (n' : Int)) (l.length + 1) lm by rw [← h'.1]; rfl)
  obtain ⟨V, hV⟩ : ∃ V, limB (fun s => peakN m l ds r s (n' : Int)) (l.length + 1) lm = V := ⟨_, rfl⟩
  simp only [hV] at HC HV
  have hn' : n' ≤ 1048576 := by rw [bulk_list shPair h'] at hb'; omega
  clear h hb hm hbm hl hr hcp hlm hp hq h' hb' HRD HLL HMM HM HR g1 g2
  clear hmr hbm' hV hcv
  go_enter Try.func82, Try.ntmps82
  go_upto_region 1 with fail
  generalize w.alloc (.cells #[.slice a0 n0 c0, .slice a1 n1 c1, .int .i64 ds, .slice a2 n2 c2, .slice a3 n3 c3, .slice a4 n4 c4] 30 (0, 0)) = wa at HA HB0 hs0 ⊢
  obtain ⟨z0, z1, z2, z3, z4, z5⟩ := box6 HB0.out
  go_wp2_with fail
  refine (HC.out wa HA.out).mono ?_
  rintro e w1 ⟨rfl, hb⟩
  have HW1 := Lib.hid (HA.out.trans (hb.mono HA.out.size))
  clear hb
  go_wp2_with fail
  go_ret
  exact ⟨by rw [HV.out]; rfl, HW1.out⟩
end Go.Proofs.Ytkflinobmagiiaa

end

/-! YtkflinobmagiiaaAdmT -/
section

namespace Go.Proofs.Ytkflinobmagiiaa
open Go.RowKit Go.Sort
set_option linter.unusedVariables false
set_option linter.unusedSimpArgs false

theorem box2A {w : World} {g : Nat} {x y : Value} {T : TypeId} (h : w.heap[g]? = some (.cells #[x, y] T (0, 0))) : w.cell? ⟨g, 0, none⟩ = some x ∧ w.cell? ⟨g, 1, none⟩ = some y := ⟨by rw [cell_of_row _ _ _ _ _ _ h]; rfl, by rw [cell_of_row _ _ _ _ _ _ h]; rfl⟩
theorem eg_reason1 : ∀ args w, (callFunc 74 args).run Try.prog w = .ok (.enter 74 args) w := enters_of Try.func74 (by kernel_rfl) rfl
theorem eg_reason2 : ∀ args w, (callFunc 75 args).run Try.prog w = .ok (.enter 75 args) w := enters_of Try.func75 (by kernel_rfl) rfl
theorem eg_reason3 : ∀ args w, (callFunc 77 args).run Try.prog w = .ok (.enter 77 args) w := enters_of Try.func77 (by kernel_rfl) rfl
theorem eg_reason4 : ∀ args w, (callFunc 78 args).run Try.prog w = .ok (.enter 78 args) w := enters_of Try.func78 (by kernel_rfl) rfl
theorem eg_reason5 : ∀ args w, (callFunc 79 args).run Try.prog w = .ok (.enter 79 args) w := enters_of Try.func79 (by kernel_rfl) rfl
theorem eg_reason6 : ∀ args w, (callFunc 80 args).run Try.prog w = .ok (.enter 80 args) w := enters_of Try.func80 (by kernel_rfl) rfl
theorem eg_reason7 : ∀ args w, (callFunc 82 args).run Try.prog w = .ok (.enter 82 args) w := enters_of Try.func82 (by kernel_rfl) rfl
set_option maxRecDepth 100000 in
theorem implReasons_c (w : World) :
    Calls Try.prog 57 #[] w fun e w' => e = .returned (.slice (some ⟨w.heap.size, 0, none⟩) 7 7) ∧ w' = w.alloc (.cells #[.int .i64 1, .func (.func 74) #[] #[], .int .i64 2, .func (.func 75) #[] #[], .int .i64 3, .func (.func 77) #[] #[], .int .i64 4, .func (.func 78) #[] #[], .int .i64 5, .func (.func 79) #[] #[], .int .i64 6, .func (.func 80) #[] #[], .int .i64 7, .func (.func 82) #[] #[]] 94 (0, 0)) := by
  go_enter Try.func57, Try.ntmps57
  go_wp2_with fail
  go_ret
  exact ⟨rfl, rfl⟩
theorem against_cuts {x : dConfig} {b : List dPair} (h : againstB x b 2 = false) : cutsOkB x.1 x.2.1 = true := by
  have h2 : (!(cutsOkB x.1 x.2.1 && decide (x.2.1.length + 1 ≤ 4))) = false := h
  simp only [Bool.not_eq_false', Bool.and_eq_true] at h2
  exact h2.1
set_option maxRecDepth 100000 in
set_option maxHeartbeats 3200000 in
theorem implAdmit_d (w : World) (es : List Value) (x : dConfig) (h : shConfig.reads (Under w.heap.size) w es x) (hb : shConfig.bulk x ≤ 1048576) (a' : Option Addr) (n' c' : Nat) (ps : List dPair) (h' : ListAt shPair (Under w.heap.size) w a' n' ps) (g1 : n' ≤ c') (g2 : c' ≤ 9223372036854775807) (hb' : (Shape.list shPair).bulk ps ≤ 1048576) :
    Calls Try.prog 27 #[.agg es.toArray, .slice a' n' c'] w fun e w' => e = .returned ((.int .i64 (admitN x ps))) ∧ Below w.heap.size w w' := by
  obtain ⟨m, l, ds, r, cp, lm⟩ := x
  obtain ⟨a0, n0, c0, a1, n1, c1, a2, n2, c2, a3, n3, c3, a4, n4, c4, rfl, hp, hq, hm, hbm, hl, ⟨hr0, hr⟩, hcp, hlm⟩ := conf_in h hb
  try dsimp only
  have hal : Below w.heap.size w (w.alloc (.cells #[.slice a0 n0 c0, .slice a1 n1 c1, .int .i64 ds, .slice a2 n2 c2, .slice a3 n3 c3, .slice a4 n4 c4] 30 (0, 0))) := (Below.refl _ _).alloc (Nat.le_refl _) _
  have hb0 := heap_alloc_new w (.cells #[.slice a0 n0 c0, .slice a1 n1 c1, .int .i64 ds, .slice a2 n2 c2, .slice a3 n3 c3, .slice a4 n4 c4] 30 (0, 0))
  have hs0 : (w.alloc (.cells #[.slice a0 n0 c0, .slice a1 n1 c1, .int .i64 ds, .slice a2 n2 c2, .slice a3 n3 c3, .slice a4 n4 c4] 30 (0, 0))).heap.size = w.heap.size + 1 := by simp
  have HRD := Lib.hid fun (wx : World) (hx : Below w.heap.size w wx) => Shape.le _ (Shape.below _ h hx (Nat.le_refl _)) hx.size
  have HBK := Lib.hid hb
  have HMM := Lib.hid fun (wx : World) (hx : Below w.heap.size w wx) => (hm.below hx (Nat.le_refl _)).le hx.size
  have HLL := Lib.hid fun (wx : World) (hx : Below w.heap.size w wx) => (hl.below hx (Nat.le_refl _)).le hx.size
  have HMN := Lib.hid hm.1
  have HM := Lib.hid hm
  have HR := Lib.hid hr
  have HLN := Lib.hid hl.len
  have HA := Lib.hid hal
  have HB0 := Lib.hid hb0
  have hn1 : n1 ≤ 1048576 := hl.room
  have hn2 := hr0
  clear hal hb0 hr0
  have HRP := Lib.hid fun (wx : World) (hx : Below w.heap.size w wx) => (h'.below hx (Nat.le_refl _)).le hx.size
  have HK1 := fun (wx : World) (hx : Below w.heap.size w wx) => implReason1_d wx _ _ (Shape.le _ (Shape.below _ h hx (Nat.le_refl _)) hx.size) hb a' n' c' ps ((h'.below hx (Nat.le_refl _)).le hx.size) g1 g2 hb'
  have HK2 := fun (wx : World) (hx : Below w.heap.size w wx) => implReason2_d wx _ _ (Shape.le _ (Shape.below _ h hx (Nat.le_refl _)) hx.size) hb a' n' c' ps ((h'.below hx (Nat.le_refl _)).le hx.size) g1 g2 hb'
  have HK3 := fun (wx : World) (hx : Below w.heap.size w wx) => implReason3_d wx _ _ (Shape.le _ (Shape.below _ h hx (Nat.le_refl _)) hx.size) hb a' n' c' ps ((h'.below hx (Nat.le_refl _)).le hx.size) g1 g2 hb'
  have HK4 := fun (wx : World) (hx : Below w.heap.size w wx) => implReason4_d wx _ _ (Shape.le _ (Shape.below _ h hx (Nat.le_refl _)) hx.size) hb a' n' c' ps ((h'.below hx (Nat.le_refl _)).le hx.size) g1 g2 hb'
  have HK5 := fun (wx : World) (hx : Below w.heap.size w wx) (hcv : cutsOkB (m, l, ds, r, cp, lm).1 (m, l, ds, r, cp, lm).2.1 = true) => implReason5_d wx _ _ (Shape.le _ (Shape.below _ h hx (Nat.le_refl _)) hx.size) hb a' n' c' ps ((h'.below hx (Nat.le_refl _)).le hx.size) g1 g2 hb' hcv
  have HK6 := fun (wx : World) (hx : Below w.heap.size w wx) => implReason6_d wx _ _ (Shape.le _ (Shape.below _ h hx (Nat.le_refl _)) hx.size) hb a' n' c' ps ((h'.below hx (Nat.le_refl _)).le hx.size) g1 g2 hb'
  have HK7 := fun (wx : World) (hx : Below w.heap.size w wx) (hcv : cutsOkB (m, l, ds, r, cp, lm).1 (m, l, ds, r, cp, lm).2.1 = true) => implReason7_d wx _ _ (Shape.le _ (Shape.below _ h hx (Nat.le_refl _)) hx.size) hb a' n' c' ps ((h'.below hx (Nat.le_refl _)).le hx.size) g1 g2 hb' hcv
  have hcuts : againstB (m, l, ds, r, cp, lm) ps 2 = false → cutsOkB (m, l, ds, r, cp, lm).1 (m, l, ds, r, cp, lm).2.1 = true := against_cuts
  have hres : admitN (m, l, ds, r, cp, lm) ps = firstN (againstB (m, l, ds, r, cp, lm) ps) := rfl
  obtain ⟨A, hA⟩ : ∃ A, againstB (m, l, ds, r, cp, lm) ps = A := ⟨_, rfl⟩
  rw [hA] at hres hcuts
  rw [hres]
  simp only [hA] at HK1 HK2 HK3 HK4 HK5 HK6 HK7
  replace HK1 := Lib.hid HK1
  replace HK2 := Lib.hid HK2
  replace HK3 := Lib.hid HK3
  replace HK4 := Lib.hid HK4
  replace HK5 := Lib.hid HK5
  replace HK6 := Lib.hid HK6
  replace HK7 := Lib.hid HK7
  have HCT := Lib.hid hcuts
  clear h hb hm hbm hl hr hcp hlm hp hq h' hb' hcuts hres hA HRD HLL HMM HM HR g1 g2 HBK HMN HLN HRP
  go_enter Try.func27, Try.ntmps27
  go_upto_region 1 with fail
  generalize w.alloc (.cells #[.slice a0 n0 c0, .slice a1 n1 c1, .int .i64 ds, .slice a2 n2 c2, .slice a3 n3 c3, .slice a4 n4 c4] 30 (0, 0)) = wa at HA HB0 hs0 ⊢
  have HC := Lib.hid (implReasons_c wa)
  go_wp2_with fail
  refine HC.out.mono ?_
  rintro e w1 ⟨rfl, hw1⟩
  have hal := (Below.refl wa.heap.size wa).alloc (Nat.le_refl _) (.cells #[.int .i64 1, .func (.func 74) #[] #[], .int .i64 2, .func (.func 75) #[] #[], .int .i64 3, .func (.func 77) #[] #[], .int .i64 4, .func (.func 78) #[] #[], .int .i64 5, .func (.func 79) #[] #[], .int .i64 6, .func (.func 80) #[] #[], .int .i64 7, .func (.func 82) #[] #[]] 94 (0, 0))
  have hk := heap_alloc_new wa (.cells #[.int .i64 1, .func (.func 74) #[] #[], .int .i64 2, .func (.func 75) #[] #[], .int .i64 3, .func (.func 77) #[] #[], .int .i64 4, .func (.func 78) #[] #[], .int .i64 5, .func (.func 79) #[] #[], .int .i64 6, .func (.func 80) #[] #[], .int .i64 7, .func (.func 82) #[] #[]] 94 (0, 0))
  have hsz : (wa.alloc (.cells #[.int .i64 1, .func (.func 74) #[] #[], .int .i64 2, .func (.func 75) #[] #[], .int .i64 3, .func (.func 77) #[] #[], .int .i64 4, .func (.func 78) #[] #[], .int .i64 5, .func (.func 79) #[] #[], .int .i64 6, .func (.func 80) #[] #[], .int .i64 7, .func (.func 82) #[] #[]] 94 (0, 0))).heap.size = wa.heap.size + 1 := by simp
  rw [← hw1] at hal hk hsz
  have HK := Lib.hid hk
  have HW1 := Lib.hid (HA.out.trans (hal.mono HA.out.size))
  have HB1 := Lib.hid ((hal.block w.heap.size (by omega)).trans HB0.out)
  obtain ⟨g, hg⟩ : ∃ g, wa.heap.size = g := ⟨_, rfl⟩
  rw [hg] at HK hsz ⊢
  have HSZ := Lib.hid (show w.heap.size < g ∧ g < w1.heap.size from ⟨by omega, by omega⟩)
  clear hal hk hw1 hsz hg HC
  go_wp2_with fail
  go_loopw [9] (fun i wr => ∃ k : Nat, k ≤ 7 ∧ i = .int .i64 k ∧ Hid (∀ j, j < k → A j = false) ∧ Below w1.heap.size w1 wr) (fun i _ => 7 - (intOf i).toNat)
  case atStart => exact ⟨0, Nat.zero_le _, rfl, Lib.hid fun j hj => absurd hj (Nat.not_lt_zero _), Below.refl _ _⟩
  case round =>
    obtain ⟨k, hk, rfl, hgood, hbw⟩ := hrel
    have hsr := hbw.size
    have hgs := HSZ.out
    have HWR := Lib.hid (HW1.out.trans (hbw.mono HW1.out.size))
    have HBR := Lib.hid ((hbw.block w.heap.size (by omega)).trans HB1.out)
    have HKR := Lib.hid ((hbw.block g hgs.2).trans HK.out)
    have HBW := Lib.hid hbw
    clear hbw
    have hk7 : k = 0 ∨ k = 1 ∨ k = 2 ∨ k = 3 ∨ k = 4 ∨ k = 5 ∨ k = 6 ∨ k = 7 := by omega
    rcases hk7 with rfl | rfl | rfl | rfl | rfl | rfl | rfl | rfl
    · have c0 : wr.cell? ⟨g, 0, none⟩ = _ := cell_of_row _ _ _ _ _ _ HKR.out
      have c1 : wr.cell? ⟨g, 1, none⟩ = _ := cell_of_row _ _ _ _ _ _ HKR.out
      simp only [List.getElem?_toArray, List.getElem?_cons_zero, List.getElem?_cons_succ] at c0 c1
      have hal := (Below.refl wr.heap.size wr).alloc (Nat.le_refl _) (.cells #[.int .i64 1, .func (.func 74) #[] #[]] 94 (0, 0))
      have hkb := heap_alloc_new wr (.cells #[.int .i64 1, .func (.func 74) #[] #[]] 94 (0, 0))
      have hsb : (wr.alloc (.cells #[.int .i64 1, .func (.func 74) #[] #[]] 94 (0, 0))).heap.size = wr.heap.size + 1 := by simp
      have HAL := Lib.hid hal
      have HKB := Lib.hid hkb
      clear hal hkb
      go_upto_region 4 with fail
      clear c0 c1
      generalize wr.alloc (.cells #[.int .i64 1, .func (.func 74) #[] #[]] 94 (0, 0)) = wb at HAL HKB hsb ⊢
      have HWB := Lib.hid (HWR.out.trans (HAL.out.mono HWR.out.size))
      have HBB := Lib.hid ((HAL.out.block w.heap.size (by omega)).trans HBR.out)
      have hcl := HK1.out wb HWB.out
      obtain ⟨V, hV⟩ : ∃ V, A 0 = V := ⟨_, rfl⟩
      rw [hV] at hcl
      have HCL := Lib.hid hcl
      have HV := Lib.hid hV
      have eg := eg_reason1
      obtain ⟨y0, y1⟩ := box2A HKB.out
      obtain ⟨z0, z1, z2, z3, z4, z5⟩ := box6 HBB.out
      clear hcl hV
      go_wp2_with fail
      refine HCL.out.mono ?_
      rintro e w2 ⟨rfl, hb⟩
      have HB2 := Lib.hid (HBW.out.trans ((HAL.out.trans (hb.mono HAL.out.size)).mono hsr))
      have HW2 := Lib.hid (HWB.out.trans (hb.mono HWB.out.size))
      have HK2 := Lib.hid ((hb.block wr.heap.size (by omega)).trans HKB.out)
      clear hb y0 y1 z0 z1 z2 z3 z4 z5 eg
      obtain ⟨y0, y1⟩ := box2A HK2.out
      cases V
      · go_wp2_with fail
        go_roundw
        case rel =>
          refine ⟨1, by omega, by go_num, Lib.hid fun j hj => ?_, HB2.out⟩
          by_cases e : j = 0
          · subst e; exact HV.out
          · exact hgood.out j (by omega)
        case measure => simp [intOf]
      · have HRE := Lib.hid (first_at (A := A) (k := 0) (by omega) HV.out fun j hj => hgood.out j (by omega))
        go_wp2_with fail
        go_ret
        exact ⟨by rw [HRE.out]; rfl, HW2.out⟩
    · have c0 : wr.cell? ⟨g, 2, none⟩ = _ := cell_of_row _ _ _ _ _ _ HKR.out
      have c1 : wr.cell? ⟨g, 3, none⟩ = _ := cell_of_row _ _ _ _ _ _ HKR.out
      simp only [List.getElem?_toArray, List.getElem?_cons_zero, List.getElem?_cons_succ] at c0 c1
      have hal := (Below.refl wr.heap.size wr).alloc (Nat.le_refl _) (.cells #[.int .i64 2, .func (.func 75) #[] #[]] 94 (0, 0))
      have hkb := heap_alloc_new wr (.cells #[.int .i64 2, .func (.func 75) #[] #[]] 94 (0, 0))
      have hsb : (wr.alloc (.cells #[.int .i64 2, .func (.func 75) #[] #[]] 94 (0, 0))).heap.size = wr.heap.size + 1 := by simp
      have HAL := Lib.hid hal
      have HKB := Lib.hid hkb
      clear hal hkb
      go_upto_region 4 with fail
      clear c0 c1
      generalize wr.alloc (.cells #[.int .i64 2, .func (.func 75) #[] #[]] 94 (0, 0)) = wb at HAL HKB hsb ⊢
      have HWB := Lib.hid (HWR.out.trans (HAL.out.mono HWR.out.size))
      have HBB := Lib.hid ((HAL.out.block w.heap.size (by omega)).trans HBR.out)
      have hcl := HK2.out wb HWB.out
      obtain ⟨V, hV⟩ : ∃ V, A 1 = V := ⟨_, rfl⟩
      rw [hV] at hcl
      have HCL := Lib.hid hcl
      have HV := Lib.hid hV
      have eg := eg_reason2
      obtain ⟨y0, y1⟩ := box2A HKB.out
      obtain ⟨z0, z1, z2, z3, z4, z5⟩ := box6 HBB.out
      clear hcl hV
      go_wp2_with fail
      refine HCL.out.mono ?_
      rintro e w2 ⟨rfl, hb⟩
      have HB2 := Lib.hid (HBW.out.trans ((HAL.out.trans (hb.mono HAL.out.size)).mono hsr))
      have HW2 := Lib.hid (HWB.out.trans (hb.mono HWB.out.size))
      have HK2 := Lib.hid ((hb.block wr.heap.size (by omega)).trans HKB.out)
      clear hb y0 y1 z0 z1 z2 z3 z4 z5 eg
      obtain ⟨y0, y1⟩ := box2A HK2.out
      cases V
      · go_wp2_with fail
        go_roundw
        case rel =>
          refine ⟨2, by omega, by go_num, Lib.hid fun j hj => ?_, HB2.out⟩
          by_cases e : j = 1
          · subst e; exact HV.out
          · exact hgood.out j (by omega)
        case measure => simp [intOf]
      · have HRE := Lib.hid (first_at (A := A) (k := 1) (by omega) HV.out fun j hj => hgood.out j (by omega))
        go_wp2_with fail
        go_ret
        exact ⟨by rw [HRE.out]; rfl, HW2.out⟩
    · have c0 : wr.cell? ⟨g, 4, none⟩ = _ := cell_of_row _ _ _ _ _ _ HKR.out
      have c1 : wr.cell? ⟨g, 5, none⟩ = _ := cell_of_row _ _ _ _ _ _ HKR.out
      simp only [List.getElem?_toArray, List.getElem?_cons_zero, List.getElem?_cons_succ] at c0 c1
      have hal := (Below.refl wr.heap.size wr).alloc (Nat.le_refl _) (.cells #[.int .i64 3, .func (.func 77) #[] #[]] 94 (0, 0))
      have hkb := heap_alloc_new wr (.cells #[.int .i64 3, .func (.func 77) #[] #[]] 94 (0, 0))
      have hsb : (wr.alloc (.cells #[.int .i64 3, .func (.func 77) #[] #[]] 94 (0, 0))).heap.size = wr.heap.size + 1 := by simp
      have HAL := Lib.hid hal
      have HKB := Lib.hid hkb
      clear hal hkb
      go_upto_region 4 with fail
      clear c0 c1
      generalize wr.alloc (.cells #[.int .i64 3, .func (.func 77) #[] #[]] 94 (0, 0)) = wb at HAL HKB hsb ⊢
      have HWB := Lib.hid (HWR.out.trans (HAL.out.mono HWR.out.size))
      have HBB := Lib.hid ((HAL.out.block w.heap.size (by omega)).trans HBR.out)
      have hcl := HK3.out wb HWB.out
      obtain ⟨V, hV⟩ : ∃ V, A 2 = V := ⟨_, rfl⟩
      rw [hV] at hcl
      have HCL := Lib.hid hcl
      have HV := Lib.hid hV
      have eg := eg_reason3
      obtain ⟨y0, y1⟩ := box2A HKB.out
      obtain ⟨z0, z1, z2, z3, z4, z5⟩ := box6 HBB.out
      clear hcl hV
      go_wp2_with fail
      refine HCL.out.mono ?_
      rintro e w2 ⟨rfl, hb⟩
      have HB2 := Lib.hid (HBW.out.trans ((HAL.out.trans (hb.mono HAL.out.size)).mono hsr))
      have HW2 := Lib.hid (HWB.out.trans (hb.mono HWB.out.size))
      have HK2 := Lib.hid ((hb.block wr.heap.size (by omega)).trans HKB.out)
      clear hb y0 y1 z0 z1 z2 z3 z4 z5 eg
      obtain ⟨y0, y1⟩ := box2A HK2.out
      cases V
      · go_wp2_with fail
        go_roundw
        case rel =>
          refine ⟨3, by omega, by go_num, Lib.hid fun j hj => ?_, HB2.out⟩
          by_cases e : j = 2
          · subst e; exact HV.out
          · exact hgood.out j (by omega)
        case measure => simp [intOf]
      · have HRE := Lib.hid (first_at (A := A) (k := 2) (by omega) HV.out fun j hj => hgood.out j (by omega))
        go_wp2_with fail
        go_ret
        exact ⟨by rw [HRE.out]; rfl, HW2.out⟩
    · have c0 : wr.cell? ⟨g, 6, none⟩ = _ := cell_of_row _ _ _ _ _ _ HKR.out
      have c1 : wr.cell? ⟨g, 7, none⟩ = _ := cell_of_row _ _ _ _ _ _ HKR.out
      simp only [List.getElem?_toArray, List.getElem?_cons_zero, List.getElem?_cons_succ] at c0 c1
      have hal := (Below.refl wr.heap.size wr).alloc (Nat.le_refl _) (.cells #[.int .i64 4, .func (.func 78) #[] #[]] 94 (0, 0))
      have hkb := heap_alloc_new wr (.cells #[.int .i64 4, .func (.func 78) #[] #[]] 94 (0, 0))
      have hsb : (wr.alloc (.cells #[.int .i64 4, .func (.func 78) #[] #[]] 94 (0, 0))).heap.size = wr.heap.size + 1 := by simp
      have HAL := Lib.hid hal
      have HKB := Lib.hid hkb
      clear hal hkb
      go_upto_region 4 with fail
      clear c0 c1
      generalize wr.alloc (.cells #[.int .i64 4, .func (.func 78) #[] #[]] 94 (0, 0)) = wb at HAL HKB hsb ⊢
      have HWB := Lib.hid (HWR.out.trans (HAL.out.mono HWR.out.size))
      have HBB := Lib.hid ((HAL.out.block w.heap.size (by omega)).trans HBR.out)
      have hcl := HK4.out wb HWB.out
      obtain ⟨V, hV⟩ : ∃ V, A 3 = V := ⟨_, rfl⟩
      rw [hV] at hcl
      have HCL := Lib.hid hcl
      have HV := Lib.hid hV
      have eg := eg_reason4
      obtain ⟨y0, y1⟩ := box2A HKB.out
      obtain ⟨z0, z1, z2, z3, z4, z5⟩ := box6 HBB.out
      clear hcl hV
      go_wp2_with fail
      refine HCL.out.mono ?_
      rintro e w2 ⟨rfl, hb⟩
      have HB2 := Lib.hid (HBW.out.trans ((HAL.out.trans (hb.mono HAL.out.size)).mono hsr))
      have HW2 := Lib.hid (HWB.out.trans (hb.mono HWB.out.size))
      have HK2 := Lib.hid ((hb.block wr.heap.size (by omega)).trans HKB.out)
      clear hb y0 y1 z0 z1 z2 z3 z4 z5 eg
      obtain ⟨y0, y1⟩ := box2A HK2.out
      cases V
      · go_wp2_with fail
        go_roundw
        case rel =>
          refine ⟨4, by omega, by go_num, Lib.hid fun j hj => ?_, HB2.out⟩
          by_cases e : j = 3
          · subst e; exact HV.out
          · exact hgood.out j (by omega)
        case measure => simp [intOf]
      · have HRE := Lib.hid (first_at (A := A) (k := 3) (by omega) HV.out fun j hj => hgood.out j (by omega))
        go_wp2_with fail
        go_ret
        exact ⟨by rw [HRE.out]; rfl, HW2.out⟩
    · have c0 : wr.cell? ⟨g, 8, none⟩ = _ := cell_of_row _ _ _ _ _ _ HKR.out
      have c1 : wr.cell? ⟨g, 9, none⟩ = _ := cell_of_row _ _ _ _ _ _ HKR.out
      simp only [List.getElem?_toArray, List.getElem?_cons_zero, List.getElem?_cons_succ] at c0 c1
      have hal := (Below.refl wr.heap.size wr).alloc (Nat.le_refl _) (.cells #[.int .i64 5, .func (.func 79) #[] #[]] 94 (0, 0))
      have hkb := heap_alloc_new wr (.cells #[.int .i64 5, .func (.func 79) #[] #[]] 94 (0, 0))
      have hsb : (wr.alloc (.cells #[.int .i64 5, .func (.func 79) #[] #[]] 94 (0, 0))).heap.size = wr.heap.size + 1 := by simp
      have HAL := Lib.hid hal
      have HKB := Lib.hid hkb
      clear hal hkb
      go_upto_region 4 with fail
      clear c0 c1
      generalize wr.alloc (.cells #[.int .i64 5, .func (.func 79) #[] #[]] 94 (0, 0)) = wb at HAL HKB hsb ⊢
      have HWB := Lib.hid (HWR.out.trans (HAL.out.mono HWR.out.size))
      have HBB := Lib.hid ((HAL.out.block w.heap.size (by omega)).trans HBR.out)
      have hcl := HK5.out wb HWB.out (HCT.out (hgood.out 2 (by omega)))
      obtain ⟨V, hV⟩ : ∃ V, A 4 = V := ⟨_, rfl⟩
      rw [hV] at hcl
      have HCL := Lib.hid hcl
      have HV := Lib.hid hV
      have eg := eg_reason5
      obtain ⟨y0, y1⟩ := box2A HKB.out
      obtain ⟨z0, z1, z2, z3, z4, z5⟩ := box6 HBB.out
      clear hcl hV
      go_wp2_with fail
      refine HCL.out.mono ?_
      rintro e w2 ⟨rfl, hb⟩
      have HB2 := Lib.hid (HBW.out.trans ((HAL.out.trans (hb.mono HAL.out.size)).mono hsr))
      have HW2 := Lib.hid (HWB.out.trans (hb.mono HWB.out.size))
      have HK2 := Lib.hid ((hb.block wr.heap.size (by omega)).trans HKB.out)
      clear hb y0 y1 z0 z1 z2 z3 z4 z5 eg
      obtain ⟨y0, y1⟩ := box2A HK2.out
      cases V
      · go_wp2_with fail
        go_roundw
        case rel =>
          refine ⟨5, by omega, by go_num, Lib.hid fun j hj => ?_, HB2.out⟩
          by_cases e : j = 4
          · subst e; exact HV.out
          · exact hgood.out j (by omega)
        case measure => simp [intOf]
      · have HRE := Lib.hid (first_at (A := A) (k := 4) (by omega) HV.out fun j hj => hgood.out j (by omega))
        go_wp2_with fail
        go_ret
        exact ⟨by rw [HRE.out]; rfl, HW2.out⟩
    · have c0 : wr.cell? ⟨g, 10, none⟩ = _ := cell_of_row _ _ _ _ _ _ HKR.out
      have c1 : wr.cell? ⟨g, 11, none⟩ = _ := cell_of_row _ _ _ _ _ _ HKR.out
      simp only [List.getElem?_toArray, List.getElem?_cons_zero, List.getElem?_cons_succ] at c0 c1
      have hal := (Below.refl wr.heap.size wr).alloc (Nat.le_refl _) (.cells #[.int .i64 6, .func (.func 80) #[] #[]] 94 (0, 0))
      have hkb := heap_alloc_new wr (.cells #[.int .i64 6, .func (.func 80) #[] #[]] 94 (0, 0))
      have hsb : (wr.alloc (.cells #[.int .i64 6, .func (.func 80) #[] #[]] 94 (0, 0))).heap.size = wr.heap.size + 1 := by simp
      have HAL := Lib.hid hal
      have HKB := Lib.hid hkb
      clear hal hkb
      go_upto_region 4 with fail
      clear c0 c1
      generalize wr.alloc (.cells #[.int .i64 6, .func (.func 80) #[] #[]] 94 (0, 0)) = wb at HAL HKB hsb ⊢
      have HWB := Lib.hid (HWR.out.trans (HAL.out.mono HWR.out.size))
      have HBB := Lib.hid ((HAL.out.block w.heap.size (by omega)).trans HBR.out)
      have hcl := HK6.out wb HWB.out
      obtain ⟨V, hV⟩ : ∃ V, A 5 = V := ⟨_, rfl⟩
      rw [hV] at hcl
      have HCL := Lib.hid hcl
      have HV := Lib.hid hV
      have eg := eg_reason6
      obtain ⟨y0, y1⟩ := box2A HKB.out
      obtain ⟨z0, z1, z2, z3, z4, z5⟩ := box6 HBB.out
      clear hcl hV
      go_wp2_with fail
      refine HCL.out.mono ?_
      rintro e w2 ⟨rfl, hb⟩
      have HB2 := Lib.hid (HBW.out.trans ((HAL.out.trans (hb.mono HAL.out.size)).mono hsr))
      have HW2 := Lib.hid (HWB.out.trans (hb.mono HWB.out.size))
      have HK2 := Lib.hid ((hb.block wr.heap.size (by omega)).trans HKB.out)
      clear hb y0 y1 z0 z1 z2 z3 z4 z5 eg
      obtain ⟨y0, y1⟩ := box2A HK2.out
      cases V
      · go_wp2_with fail
        go_roundw
        case rel =>
          refine ⟨6, by omega, by go_num, Lib.hid fun j hj => ?_, HB2.out⟩
          by_cases e : j = 5
          · subst e; exact HV.out
          · exact hgood.out j (by omega)
        case measure => simp [intOf]
      · have HRE := Lib.hid (first_at (A := A) (k := 5) (by omega) HV.out fun j hj => hgood.out j (by omega))
        go_wp2_with fail
        go_ret
        exact ⟨by rw [HRE.out]; rfl, HW2.out⟩
    · have c0 : wr.cell? ⟨g, 12, none⟩ = _ := cell_of_row _ _ _ _ _ _ HKR.out
      have c1 : wr.cell? ⟨g, 13, none⟩ = _ := cell_of_row _ _ _ _ _ _ HKR.out
      simp only [List.getElem?_toArray, List.getElem?_cons_zero, List.getElem?_cons_succ] at c0 c1
      have hal := (Below.refl wr.heap.size wr).alloc (Nat.le_refl _) (.cells #[.int .i64 7, .func (.func 82) #[] #[]] 94 (0, 0))
      have hkb := heap_alloc_new wr (.cells #[.int .i64 7, .func (.func 82) #[] #[]] 94 (0, 0))
      have hsb : (wr.alloc (.cells #[.int .i64 7, .func (.func 82) #[] #[]] 94 (0, 0))).heap.size = wr.heap.size + 1 := by simp
      have HAL := Lib.hid hal
      have HKB := Lib.hid hkb
      clear hal hkb
      go_upto_region 4 with fail
      clear c0 c1
      generalize wr.alloc (.cells #[.int .i64 7, .func (.func 82) #[] #[]] 94 (0, 0)) = wb at HAL HKB hsb ⊢
      have HWB := Lib.hid (HWR.out.trans (HAL.out.mono HWR.out.size))
      have HBB := Lib.hid ((HAL.out.block w.heap.size (by omega)).trans HBR.out)
      have hcl := HK7.out wb HWB.out (HCT.out (hgood.out 2 (by omega)))
      obtain ⟨V, hV⟩ : ∃ V, A 6 = V := ⟨_, rfl⟩
      rw [hV] at hcl
      have HCL := Lib.hid hcl
      have HV := Lib.hid hV
      have eg := eg_reason7
      obtain ⟨y0, y1⟩ := box2A HKB.out
      obtain ⟨z0, z1, z2, z3, z4, z5⟩ := box6 HBB.out
      clear hcl hV
      go_wp2_with fail
      refine HCL.out.mono ?_
      rintro e w2 ⟨rfl, hb⟩
      have HB2 := Lib.hid (HBW.out.trans ((HAL.out.trans (hb.mono HAL.out.size)).mono hsr))
      have HW2 := Lib.hid (HWB.out.trans (hb.mono HWB.out.size))
      have HK2 := Lib.hid ((hb.block wr.heap.size (by omega)).trans HKB.out)
      clear hb y0 y1 z0 z1 z2 z3 z4 z5 eg
      obtain ⟨y0, y1⟩ := box2A HK2.out
      cases V
      · go_wp2_with fail
        go_roundw
        case rel =>
          refine ⟨7, by omega, by go_num, Lib.hid fun j hj => ?_, HB2.out⟩
          by_cases e : j = 6
          · subst e; exact HV.out
          · exact hgood.out j (by omega)
        case measure => simp [intOf]
      · have HRE := Lib.hid (first_at (A := A) (k := 6) (by omega) HV.out fun j hj => hgood.out j (by omega))
        go_wp2_with fail
        go_ret
        exact ⟨by rw [HRE.out]; rfl, HW2.out⟩
    · have HRE := Lib.hid (first_none (A := A) fun j hj => hgood.out j hj)
      clear hgood
      go_wp2_with fail
      go_ret
      exact ⟨by rw [HRE.out]; rfl, HWR.out⟩
end Go.Proofs.Ytkflinobmagiiaa

end

/-! YtkflinobmagiiaaAdmY -/
section

namespace Go.Proofs.Ytkflinobmagiiaa
open Go.RowKit
set_option linter.unusedVariables false
set_option linter.unusedSimpArgs false

set_option maxRecDepth 100000 in
set_option maxHeartbeats 6400000 in
theorem lawAdmit_any (w : World) (es0 : List Value) (x0 : dConfig) (h0 : shConfig.reads (Under w.heap.size) w es0 x0) (a1 : Option Addr) (n1 c1 : Nat) (x1 : List dPair) (h1 : ListAt shPair (Under w.heap.size) w a1 n1 x1) (m1 : n1 ≤ 9223372036854775807) :
    Calls Try.prog 8 #[(.agg es0.toArray), (.slice a1 n1 c1)] w fun e w' => e = .returned (.bool true) ∧ Below w.heap.size w w' := by
  obtain ⟨a0_0, n0_0, c0_0, a0_1, n0_1, c0_1, a0_2, n0_2, c0_2, a0_3, n0_3, c0_3, a0_4, n0_4, c0_4, rfl, -⟩ := shConfig_reads.1 h0
  obtain ⟨u0, hu0⟩ : ∃ u, shConfig.bulk x0 = u := ⟨_, rfl⟩
  have U0 := Lib.hid hu0
  have F0 := Lib.hid h0
  obtain ⟨u1, hu1⟩ : ∃ u, (Shape.list shPair).bulk x1 = u := ⟨_, rfl⟩
  have U1 := Lib.hid hu1
  have F1 := Lib.hid h1
  have T := Lib.hid (Below.refl w.heap.size w)
  clear hu0 h0 hu1 h1
  by_cases f0 : ((u0 : Nat) : Int) ≤ 1048576
  · skip
    by_cases f1 : ((u0 + u1 : Nat) : Int) ≤ 1048576
    · go_enter Try.func8, Try.ntmps8
      go_wp2_with fail
      have hb := (Below.refl w.heap.size w).alloc (Nat.le_refl _) (.cells #[.slice a0_0 n0_0 c0_0, .slice a0_1 n0_1 c0_1, .int .i64 x0.2.2.1, .slice a0_2 n0_2 c0_2, .slice a0_3 n0_3 c0_3, .slice a0_4 n0_4 c0_4] 41 (0, 0))
      have hk := heap_alloc_new w (.cells #[.slice a0_0 n0_0 c0_0, .slice a0_1 n0_1 c0_1, .int .i64 x0.2.2.1, .slice a0_2 n0_2 c0_2, .slice a0_3 n0_3 c0_3, .slice a0_4 n0_4 c0_4] 41 (0, 0))
      have szw1 : w.heap.size < (w.alloc (.cells #[.slice a0_0 n0_0 c0_0, .slice a0_1 n0_1 c0_1, .int .i64 x0.2.2.1, .slice a0_2 n0_2 c0_2, .slice a0_3 n0_3 c0_3, .slice a0_4 n0_4 c0_4] 41 (0, 0))).heap.size := by simp
      have ee : (w.alloc (.cells #[.slice a0_0 n0_0 c0_0, .slice a0_1 n0_1 c0_1, .int .i64 x0.2.2.1, .slice a0_2 n0_2 c0_2, .slice a0_3 n0_3 c0_3, .slice a0_4 n0_4 c0_4] 41 (0, 0))).heap.size = w.heap.size + 1 := by simp
      generalize w.alloc (.cells #[.slice a0_0 n0_0 c0_0, .slice a0_1 n0_1 c0_1, .int .i64 x0.2.2.1, .slice a0_2 n0_2 c0_2, .slice a0_3 n0_3 c0_3, .slice a0_4 n0_4 c0_4] 41 (0, 0)) = w1 at hb hk szw1 ee ⊢
      have EE1 := Lib.hid ee
      clear ee
      replace F0 := Lib.hid (shConfig.below F0.out hb (by omega))
      replace F1 := Lib.hid (F1.out.below hb (by omega))
      replace T := Lib.hid (T.out.trans (hb.mono (by omega)))
      have AB0 := Lib.hid hk
      clear hb hk
      have hc := szConfig_c _ _ _ x0 (1048576) F0.out (by omega) (by omega) (by omega)
      rw [U0.out, szN_yes (by omega)] at hc
      obtain ⟨l0, hl0⟩ : ∃ l, 1048576 - (u0 : Int) = l := ⟨_, rfl⟩
      rw [hl0] at hc
      have t0 : decide (l0 < 0) = false := decide_eq_false (by omega)
      have HC := Lib.hid hc
      clear hc
      refine HC.out.mono ?_
      rintro e w2 ⟨rfl, hb⟩
      clear HC
      have szw2 := hb.size
      replace F0 := Lib.hid (shConfig.below F0.out hb (by omega))
      replace F1 := Lib.hid (F1.out.below hb (by omega))
      replace AB0 := Lib.hid ((hb.block w.heap.size (by omega)).trans AB0.out)
      replace T := Lib.hid (T.out.trans (hb.mono (by omega)))
      clear hb
      have hc := szPairS_c _ _ a1 n1 c1 x1 (l0) F1.out (by omega) m1 (by omega) (by omega)
      rw [U1.out, szN_yes (by omega)] at hc
      obtain ⟨l1, hl1⟩ : ∃ l, l0 - (u1 : Int) = l := ⟨_, rfl⟩
      rw [hl1] at hc
      have t1 : decide (l1 < 0) = false := decide_eq_false (by omega)
      have HC := Lib.hid hc
      clear hc
      go_wp2_with fail
      refine HC.out.mono ?_
      rintro e w3 ⟨rfl, hb⟩
      clear HC
      have szw3 := hb.size
      replace F0 := Lib.hid (shConfig.below F0.out hb (by omega))
      replace F1 := Lib.hid (F1.out.below hb (by omega))
      replace AB0 := Lib.hid ((hb.block w.heap.size (by omega)).trans AB0.out)
      replace T := Lib.hid (T.out.trans (hb.mono (by omega)))
      clear hb
      have ub : u0 + u1 ≤ 1048576 := by omega
      have HC := Lib.hid (toConfig_c _ _ _ x0 F0.out (by omega) (by rw [U0.out]; omega))
      have za_0 := cell_of_row _ w.heap.size 0 _ _ _ AB0.out
      have za_1 := cell_of_row _ w.heap.size 1 _ _ _ AB0.out
      have za_2 := cell_of_row _ w.heap.size 2 _ _ _ AB0.out
      have za_3 := cell_of_row _ w.heap.size 3 _ _ _ AB0.out
      have za_4 := cell_of_row _ w.heap.size 4 _ _ _ AB0.out
      have za_5 := cell_of_row _ w.heap.size 5 _ _ _ AB0.out
      simp only [List.getElem?_toArray, List.getElem?_cons_zero, List.getElem?_cons_succ] at za_0 za_1 za_2 za_3 za_4 za_5
      go_wp2_with fail
      clear za_0 za_1 za_2 za_3 za_4 za_5
      refine HC.out.mono ?_
      rintro e w4 ⟨eY0, rfl, hr, hb⟩
      clear HC
      have szw4 := hb.size
      replace F0 := Lib.hid (shConfig.below F0.out hb (by omega))
      replace F1 := Lib.hid (F1.out.below hb (by omega))
      replace AB0 := Lib.hid ((hb.block w.heap.size (by omega)).trans AB0.out)
      replace T := Lib.hid (T.out.trans (hb.mono (by omega)))
      clear hb
      have hY0 := shConfig.under hr
      obtain ⟨aY0_0, nY0_0, cY0_0, aY0_1, nY0_1, cY0_1, aY0_2, nY0_2, cY0_2, aY0_3, nY0_3, cY0_3, aY0_4, nY0_4, cY0_4, rfl, -⟩ := shConfig_reads.1 hY0
      have Y0 := Lib.hid hY0
      clear hr hY0
      have HC := Lib.hid (toPairS_c _ _ a1 n1 c1 x1 F1.out (by omega) (by rw [U1.out]; omega))
      go_wp2_with fail
      refine HC.out.mono ?_
      rintro e w5 ⟨rfl, hr, hb⟩
      clear HC
      have szw5 := hb.size
      replace F0 := Lib.hid (shConfig.below F0.out hb (by omega))
      replace F1 := Lib.hid (F1.out.below hb (by omega))
      replace AB0 := Lib.hid ((hb.block w.heap.size (by omega)).trans AB0.out)
      replace Y0 := Lib.hid (shConfig.below Y0.out hb (by omega))
      replace T := Lib.hid (T.out.trans (hb.mono (by omega)))
      clear hb
      have Y1 := Lib.hid hr.under
      clear hr
      have ln1 : n1 ≤ 1048576 := by have e1 := bulk_list shPair F1.out; have e2 := U1.out; omega
      obtain ⟨v, hv⟩ : ∃ v, admitN x0 x1 = v := ⟨_, rfl⟩
      have HV := Lib.hid hv
      clear hv
      have hc := specAdmit_d _ _ x0 (shConfig.le Y0.out (by omega)) (by rw [U0.out]; omega) _ n1 n1 x1 (Y1.out.le (by omega)) (Nat.le_refl _) (by omega) (by rw [U1.out]; omega)
      rw [HV.out] at hc
      have HC := Lib.hid hc
      clear hc
      go_wp2_with fail
      refine HC.out.mono ?_
      rintro e w6 ⟨rfl, hb⟩
      clear HC Y0 Y1
      have szw6 := hb.size
      replace F0 := Lib.hid (shConfig.below F0.out hb (by omega))
      replace F1 := Lib.hid (F1.out.below hb (by omega))
      replace AB0 := Lib.hid ((hb.block w.heap.size (by omega)).trans AB0.out)
      replace T := Lib.hid (T.out.trans (hb.mono (by omega)))
      clear hb
      have HC := Lib.hid (toConfig_c _ _ _ x0 F0.out (by omega) (by rw [U0.out]; omega))
      have za_0 := cell_of_row _ w.heap.size 0 _ _ _ AB0.out
      have za_1 := cell_of_row _ w.heap.size 1 _ _ _ AB0.out
      have za_2 := cell_of_row _ w.heap.size 2 _ _ _ AB0.out
      have za_3 := cell_of_row _ w.heap.size 3 _ _ _ AB0.out
      have za_4 := cell_of_row _ w.heap.size 4 _ _ _ AB0.out
      have za_5 := cell_of_row _ w.heap.size 5 _ _ _ AB0.out
      simp only [List.getElem?_toArray, List.getElem?_cons_zero, List.getElem?_cons_succ] at za_0 za_1 za_2 za_3 za_4 za_5
      go_wp2_with fail
      clear za_0 za_1 za_2 za_3 za_4 za_5
      refine HC.out.mono ?_
      rintro e w7 ⟨eX0, rfl, hr, hb⟩
      clear HC
      have szw7 := hb.size
      replace F0 := Lib.hid (shConfig.below F0.out hb (by omega))
      replace F1 := Lib.hid (F1.out.below hb (by omega))
      replace AB0 := Lib.hid ((hb.block w.heap.size (by omega)).trans AB0.out)
      replace T := Lib.hid (T.out.trans (hb.mono (by omega)))
      clear hb
      have hX0 := shConfig.under hr
      obtain ⟨aX0_0, nX0_0, cX0_0, aX0_1, nX0_1, cX0_1, aX0_2, nX0_2, cX0_2, aX0_3, nX0_3, cX0_3, aX0_4, nX0_4, cX0_4, rfl, -⟩ := shConfig_reads.1 hX0
      have X0 := Lib.hid hX0
      clear hr hX0
      go_wp2_with fail
      have hb := (Below.refl w7.heap.size w7).alloc (Nat.le_refl _) (.cells #[.slice aX0_0 nX0_0 cX0_0, .slice aX0_1 nX0_1 cX0_1, .int .i64 x0.2.2.1, .slice aX0_2 nX0_2 cX0_2, .slice aX0_3 nX0_3 cX0_3, .slice aX0_4 nX0_4 cX0_4] 30 (0, 0))
      have hk := heap_alloc_new w7 (.cells #[.slice aX0_0 nX0_0 cX0_0, .slice aX0_1 nX0_1 cX0_1, .int .i64 x0.2.2.1, .slice aX0_2 nX0_2 cX0_2, .slice aX0_3 nX0_3 cX0_3, .slice aX0_4 nX0_4 cX0_4] 30 (0, 0))
      have szw8 : w7.heap.size < (w7.alloc (.cells #[.slice aX0_0 nX0_0 cX0_0, .slice aX0_1 nX0_1 cX0_1, .int .i64 x0.2.2.1, .slice aX0_2 nX0_2 cX0_2, .slice aX0_3 nX0_3 cX0_3, .slice aX0_4 nX0_4 cX0_4] 30 (0, 0))).heap.size := by simp
      generalize w7.alloc (.cells #[.slice aX0_0 nX0_0 cX0_0, .slice aX0_1 nX0_1 cX0_1, .int .i64 x0.2.2.1, .slice aX0_2 nX0_2 cX0_2, .slice aX0_3 nX0_3 cX0_3, .slice aX0_4 nX0_4 cX0_4] 30 (0, 0)) = w8 at hb hk szw8 ⊢
      replace F0 := Lib.hid (shConfig.below F0.out hb (by omega))
      replace F1 := Lib.hid (F1.out.below hb (by omega))
      replace AB0 := Lib.hid ((hb.block w.heap.size (by omega)).trans AB0.out)
      replace X0 := Lib.hid (shConfig.below X0.out hb (by omega))
      replace T := Lib.hid (T.out.trans (hb.mono (by omega)))
      have XB0 := Lib.hid hk
      clear hb hk
      have HC := Lib.hid (toPairS_c _ _ a1 n1 c1 x1 F1.out (by omega) (by rw [U1.out]; omega))
      go_wp2_with fail
      refine HC.out.mono ?_
      rintro e w9 ⟨rfl, hr, hb⟩
      clear HC
      have szw9 := hb.size
      replace F0 := Lib.hid (shConfig.below F0.out hb (by omega))
      replace F1 := Lib.hid (F1.out.below hb (by omega))
      replace AB0 := Lib.hid ((hb.block w.heap.size (by omega)).trans AB0.out)
      replace X0 := Lib.hid (shConfig.below X0.out hb (by omega))
      replace XB0 := Lib.hid ((hb.block w7.heap.size (by omega)).trans XB0.out)
      replace T := Lib.hid (T.out.trans (hb.mono (by omega)))
      clear hb
      have X1 := Lib.hid hr.under
      clear hr
      have hc := implAdmit_d _ _ x0 (shConfig.le X0.out (by omega)) (by rw [U0.out]; omega) _ n1 n1 x1 (X1.out.le (by omega)) (Nat.le_refl _) (by omega) (by rw [U1.out]; omega)
      rw [HV.out] at hc
      have HC := Lib.hid hc
      clear hc
      have zx0_0 := cell_of_row _ w7.heap.size 0 _ _ _ XB0.out
      have zx0_1 := cell_of_row _ w7.heap.size 1 _ _ _ XB0.out
      have zx0_2 := cell_of_row _ w7.heap.size 2 _ _ _ XB0.out
      have zx0_3 := cell_of_row _ w7.heap.size 3 _ _ _ XB0.out
      have zx0_4 := cell_of_row _ w7.heap.size 4 _ _ _ XB0.out
      have zx0_5 := cell_of_row _ w7.heap.size 5 _ _ _ XB0.out
      simp only [List.getElem?_toArray, List.getElem?_cons_zero, List.getElem?_cons_succ] at zx0_0 zx0_1 zx0_2 zx0_3 zx0_4 zx0_5
      go_wp2_with fail
      clear zx0_0 zx0_1 zx0_2 zx0_3 zx0_4 zx0_5
      refine HC.out.mono ?_
      rintro e w10 ⟨rfl, hb⟩
      clear HC
      have szw10 := hb.size
      replace F0 := Lib.hid (shConfig.below F0.out hb (by omega))
      replace F1 := Lib.hid (F1.out.below hb (by omega))
      replace AB0 := Lib.hid ((hb.block w.heap.size (by omega)).trans AB0.out)
      replace X0 := Lib.hid (shConfig.below X0.out hb (by omega))
      replace XB0 := Lib.hid ((hb.block w7.heap.size (by omega)).trans XB0.out)
      replace X1 := Lib.hid (X1.out.below hb (by omega))
      replace T := Lib.hid (T.out.trans (hb.mono (by omega)))
      clear hb
      have zx_0 := cell_of_row _ w7.heap.size 0 _ _ _ XB0.out
      have zx_1 := cell_of_row _ w7.heap.size 1 _ _ _ XB0.out
      have zx_2 := cell_of_row _ w7.heap.size 2 _ _ _ XB0.out
      have zx_3 := cell_of_row _ w7.heap.size 3 _ _ _ XB0.out
      have zx_4 := cell_of_row _ w7.heap.size 4 _ _ _ XB0.out
      have zx_5 := cell_of_row _ w7.heap.size 5 _ _ _ XB0.out
      simp only [List.getElem?_toArray, List.getElem?_cons_zero, List.getElem?_cons_succ] at zx_0 zx_1 zx_2 zx_3 zx_4 zx_5
      have za_0 := cell_of_row _ w.heap.size 0 _ _ _ AB0.out
      have za_1 := cell_of_row _ w.heap.size 1 _ _ _ AB0.out
      have za_2 := cell_of_row _ w.heap.size 2 _ _ _ AB0.out
      have za_3 := cell_of_row _ w.heap.size 3 _ _ _ AB0.out
      have za_4 := cell_of_row _ w.heap.size 4 _ _ _ AB0.out
      have za_5 := cell_of_row _ w.heap.size 5 _ _ _ AB0.out
      simp only [List.getElem?_toArray, List.getElem?_cons_zero, List.getElem?_cons_succ] at za_0 za_1 za_2 za_3 za_4 za_5
      go_upto_region 14 with fail
      go_cut [39] (fun t wx => t = .bool false ∧ Below w10.heap.size w10 wx)
      case first =>
        have hdr : Below w10.heap.size w10 w10.drew := (Below.refl _ _).drew
        have FD := Lib.hid (shConfig.below F0.out hdr (by omega))
        have XD := Lib.hid (shConfig.below X0.out hdr (by omega))
        have DR := Lib.hid hdr
        have szd : w10.heap.size ≤ w10.drew.heap.size := hdr.size
        have XBD : Hid (w10.drew.heap[w7.heap.size]? = _) := Lib.hid XB0.out
        clear hdr
        have HC1 := Lib.hid (toConfig_c w10.drew _ _ x0 FD.out (by omega) (by rw [U0.out]; omega))
        have HC2 := Lib.hid fun (w1 : World) (es : List Value) (hb : Below w10.drew.heap.size w10.drew w1) (hr : shConfig.reads (From w10.drew.heap.size w1.heap.size) w1 es x0) => eqConfig_c w1 _ _ _ es x0 (shConfig.below XD.out hb (by omega)) (shConfig.under hr) (by have := hb.size; omega) (Nat.le_refl _) (by rw [U0.out]; omega)
        go_region_law (first
          | (go_simp; go_at_call 19; (with_reducible refine HC1.out.mono ?_); rintro e wt ⟨eg, rfl, hr, hb⟩; have hq := HC2.out wt eg hb hr; have zz_0 := cell_of_row _ w7.heap.size 0 _ _ _ ((hb.block w7.heap.size (by omega)).trans XBD.out); have zz_1 := cell_of_row _ w7.heap.size 1 _ _ _ ((hb.block w7.heap.size (by omega)).trans XBD.out); have zz_2 := cell_of_row _ w7.heap.size 2 _ _ _ ((hb.block w7.heap.size (by omega)).trans XBD.out); have zz_3 := cell_of_row _ w7.heap.size 3 _ _ _ ((hb.block w7.heap.size (by omega)).trans XBD.out); have zz_4 := cell_of_row _ w7.heap.size 4 _ _ _ ((hb.block w7.heap.size (by omega)).trans XBD.out); have zz_5 := cell_of_row _ w7.heap.size 5 _ _ _ ((hb.block w7.heap.size (by omega)).trans XBD.out); simp only [List.getElem?_toArray, List.getElem?_cons_zero, List.getElem?_cons_succ] at zz_0 zz_1 zz_2 zz_3 zz_4 zz_5; obtain ⟨ag_0, ng_0, cg_0, ag_1, ng_1, cg_1, ag_2, ng_2, cg_2, ag_3, ng_3, cg_3, ag_4, ng_4, cg_4, rfl, -⟩ := shConfig_reads.1 hr; have HQ := Lib.hid hq; have HBT := Lib.hid hb; have szt := hb.size; clear hb hr hq)
          | (go_simp; go_at_call 21; (with_reducible refine HQ.out.mono ?_); rintro e wq ⟨rfl, hb⟩; have BQ := Lib.hid (DR.out.trans ((HBT.out.mono szd).trans (hb.mono (by omega)))); clear hb))
        all_goals
          go_wp2_with fail
          go_meet
          case rel => exact ⟨rfl, BQ.out⟩
      case rest =>
        obtain ⟨rfl, hb⟩ := hcut
        clear zx_0 zx_1 zx_2 zx_3 zx_4 zx_5
        clear za_0 za_1 za_2 za_3 za_4 za_5
        obtain ⟨w11, rfl⟩ : ∃ x, x = wc := ⟨_, rfl⟩
        have szw11 := hb.size
        replace F0 := Lib.hid (shConfig.below F0.out hb (by omega))
        replace F1 := Lib.hid (F1.out.below hb (by omega))
        replace AB0 := Lib.hid ((hb.block w.heap.size (by omega)).trans AB0.out)
        replace X0 := Lib.hid (shConfig.below X0.out hb (by omega))
        replace XB0 := Lib.hid ((hb.block w7.heap.size (by omega)).trans XB0.out)
        replace X1 := Lib.hid (X1.out.below hb (by omega))
        replace T := Lib.hid (T.out.trans (hb.mono (by omega)))
        clear hb
        have HC := Lib.hid (toPairS_c _ _ a1 n1 c1 x1 F1.out (by omega) (by rw [U1.out]; omega))
        go_wp2_with fail
        refine HC.out.mono ?_
        rintro e w12 ⟨rfl, hr, hb⟩
        clear HC
        have szw12 := hb.size
        replace F0 := Lib.hid (shConfig.below F0.out hb (by omega))
        replace F1 := Lib.hid (F1.out.below hb (by omega))
        replace AB0 := Lib.hid ((hb.block w.heap.size (by omega)).trans AB0.out)
        replace X0 := Lib.hid (shConfig.below X0.out hb (by omega))
        replace XB0 := Lib.hid ((hb.block w7.heap.size (by omega)).trans XB0.out)
        replace X1 := Lib.hid (X1.out.below hb (by omega))
        replace T := Lib.hid (T.out.trans (hb.mono (by omega)))
        clear hb
        have Z1 := Lib.hid hr.under
        clear hr
        have HC := Lib.hid (eqPairS_c _ _ _ _ _ n1 n1 n1 x1 X1.out Z1.out (by omega) (by omega) (by rw [U1.out]; omega))
        go_wp2_with fail
        refine HC.out.mono ?_
        rintro e w13 ⟨rfl, hb⟩
        clear HC Z1
        have szw13 := hb.size
        replace F0 := Lib.hid (shConfig.below F0.out hb (by omega))
        replace F1 := Lib.hid (F1.out.below hb (by omega))
        replace AB0 := Lib.hid ((hb.block w.heap.size (by omega)).trans AB0.out)
        replace X0 := Lib.hid (shConfig.below X0.out hb (by omega))
        replace XB0 := Lib.hid ((hb.block w7.heap.size (by omega)).trans XB0.out)
        replace X1 := Lib.hid (X1.out.below hb (by omega))
        replace T := Lib.hid (T.out.trans (hb.mono (by omega)))
        clear hb
        go_wp2_with fail
        go_ret
        exact ⟨rfl, T.out⟩
    · go_enter Try.func8, Try.ntmps8
      go_wp2_with fail
      have hb := (Below.refl w.heap.size w).alloc (Nat.le_refl _) (.cells #[.slice a0_0 n0_0 c0_0, .slice a0_1 n0_1 c0_1, .int .i64 x0.2.2.1, .slice a0_2 n0_2 c0_2, .slice a0_3 n0_3 c0_3, .slice a0_4 n0_4 c0_4] 41 (0, 0))
      have hk := heap_alloc_new w (.cells #[.slice a0_0 n0_0 c0_0, .slice a0_1 n0_1 c0_1, .int .i64 x0.2.2.1, .slice a0_2 n0_2 c0_2, .slice a0_3 n0_3 c0_3, .slice a0_4 n0_4 c0_4] 41 (0, 0))
      have szw1 : w.heap.size < (w.alloc (.cells #[.slice a0_0 n0_0 c0_0, .slice a0_1 n0_1 c0_1, .int .i64 x0.2.2.1, .slice a0_2 n0_2 c0_2, .slice a0_3 n0_3 c0_3, .slice a0_4 n0_4 c0_4] 41 (0, 0))).heap.size := by simp
      have ee : (w.alloc (.cells #[.slice a0_0 n0_0 c0_0, .slice a0_1 n0_1 c0_1, .int .i64 x0.2.2.1, .slice a0_2 n0_2 c0_2, .slice a0_3 n0_3 c0_3, .slice a0_4 n0_4 c0_4] 41 (0, 0))).heap.size = w.heap.size + 1 := by simp
      generalize w.alloc (.cells #[.slice a0_0 n0_0 c0_0, .slice a0_1 n0_1 c0_1, .int .i64 x0.2.2.1, .slice a0_2 n0_2 c0_2, .slice a0_3 n0_3 c0_3, .slice a0_4 n0_4 c0_4] 41 (0, 0)) = w1 at hb hk szw1 ee ⊢
      have EE1 := Lib.hid ee
      clear ee
      replace F0 := Lib.hid (shConfig.below F0.out hb (by omega))
      replace F1 := Lib.hid (F1.out.below hb (by omega))
      replace T := Lib.hid (T.out.trans (hb.mono (by omega)))
      have AB0 := Lib.hid hk
      clear hb hk
      have hc := szConfig_c _ _ _ x0 (1048576) F0.out (by omega) (by omega) (by omega)
      rw [U0.out, szN_yes (by omega)] at hc
      obtain ⟨l0, hl0⟩ : ∃ l, 1048576 - (u0 : Int) = l := ⟨_, rfl⟩
      rw [hl0] at hc
      have t0 : decide (l0 < 0) = false := decide_eq_false (by omega)
      have HC := Lib.hid hc
      clear hc
      refine HC.out.mono ?_
      rintro e w2 ⟨rfl, hb⟩
      clear HC
      have szw2 := hb.size
      replace F0 := Lib.hid (shConfig.below F0.out hb (by omega))
      replace F1 := Lib.hid (F1.out.below hb (by omega))
      replace AB0 := Lib.hid ((hb.block w.heap.size (by omega)).trans AB0.out)
      replace T := Lib.hid (T.out.trans (hb.mono (by omega)))
      clear hb
      have hc := szPairS_c _ _ a1 n1 c1 x1 (l0) F1.out (by omega) m1 (by omega) (by omega)
      rw [U1.out, szN_no (by omega)] at hc
      have HC := Lib.hid hc
      clear hc
      go_wp2_with fail
      refine HC.out.mono ?_
      rintro e w3 ⟨rfl, hb⟩
      clear HC
      have szw3 := hb.size
      replace F0 := Lib.hid (shConfig.below F0.out hb (by omega))
      replace F1 := Lib.hid (F1.out.below hb (by omega))
      replace AB0 := Lib.hid ((hb.block w.heap.size (by omega)).trans AB0.out)
      replace T := Lib.hid (T.out.trans (hb.mono (by omega)))
      clear hb
      go_wp2_with fail
      go_ret
      exact ⟨rfl, T.out⟩
  · go_enter Try.func8, Try.ntmps8
    go_wp2_with fail
    have hb := (Below.refl w.heap.size w).alloc (Nat.le_refl _) (.cells #[.slice a0_0 n0_0 c0_0, .slice a0_1 n0_1 c0_1, .int .i64 x0.2.2.1, .slice a0_2 n0_2 c0_2, .slice a0_3 n0_3 c0_3, .slice a0_4 n0_4 c0_4] 41 (0, 0))
    have hk := heap_alloc_new w (.cells #[.slice a0_0 n0_0 c0_0, .slice a0_1 n0_1 c0_1, .int .i64 x0.2.2.1, .slice a0_2 n0_2 c0_2, .slice a0_3 n0_3 c0_3, .slice a0_4 n0_4 c0_4] 41 (0, 0))
    have szw1 : w.heap.size < (w.alloc (.cells #[.slice a0_0 n0_0 c0_0, .slice a0_1 n0_1 c0_1, .int .i64 x0.2.2.1, .slice a0_2 n0_2 c0_2, .slice a0_3 n0_3 c0_3, .slice a0_4 n0_4 c0_4] 41 (0, 0))).heap.size := by simp
    have ee : (w.alloc (.cells #[.slice a0_0 n0_0 c0_0, .slice a0_1 n0_1 c0_1, .int .i64 x0.2.2.1, .slice a0_2 n0_2 c0_2, .slice a0_3 n0_3 c0_3, .slice a0_4 n0_4 c0_4] 41 (0, 0))).heap.size = w.heap.size + 1 := by simp
    generalize w.alloc (.cells #[.slice a0_0 n0_0 c0_0, .slice a0_1 n0_1 c0_1, .int .i64 x0.2.2.1, .slice a0_2 n0_2 c0_2, .slice a0_3 n0_3 c0_3, .slice a0_4 n0_4 c0_4] 41 (0, 0)) = w1 at hb hk szw1 ee ⊢
    have EE1 := Lib.hid ee
    clear ee
    replace F0 := Lib.hid (shConfig.below F0.out hb (by omega))
    replace F1 := Lib.hid (F1.out.below hb (by omega))
    replace T := Lib.hid (T.out.trans (hb.mono (by omega)))
    have AB0 := Lib.hid hk
    clear hb hk
    have hc := szConfig_c _ _ _ x0 (1048576) F0.out (by omega) (by omega) (by omega)
    rw [U0.out, szN_no (by omega)] at hc
    have HC := Lib.hid hc
    clear hc
    refine HC.out.mono ?_
    rintro e w2 ⟨rfl, hb⟩
    clear HC
    have szw2 := hb.size
    replace F0 := Lib.hid (shConfig.below F0.out hb (by omega))
    replace F1 := Lib.hid (F1.out.below hb (by omega))
    replace AB0 := Lib.hid ((hb.block w.heap.size (by omega)).trans AB0.out)
    replace T := Lib.hid (T.out.trans (hb.mono (by omega)))
    clear hb
    go_wp2_with fail
    go_ret
    exact ⟨rfl, T.out⟩
end Go.Proofs.Ytkflinobmagiiaa

end
