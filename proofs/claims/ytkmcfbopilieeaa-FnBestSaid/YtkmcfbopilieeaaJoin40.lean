import Derived.Test.YtkmcfbopilieeaaJoin33
import Derived.Test.YtkmcfbopilieeaaJoin39
import Derived.Test.YtkmcfbopilieeaaJoin36
/-! YtkmcfbopilieeaaCutI -/
section

namespace Go.Proofs.Ytkmcfbopilieeaa
open Go.RowKit Go.Sort
set_option linter.unusedVariables false

theorem cutsI_no {m : List dOp} {l : List Int} {k n' : Nat} (hl : l.length = n') (hk : k < n') (h : cutAt m.length l k = false) : cutsOkB m l = false := cutsOk_r (cutsB_no (by rw [hl]; exact hk) h)
theorem cutsI_yes {m : List dOp} {l : List Int} {n' : Nat} (hl : l.length = n') (hm : modelOkB m = true) (h : ∀ j, j < n' → cutAt m.length l j = true) : cutsOkB m l = true := by
  unfold cutsOkB
  rw [hm, cutsB_all fun j hj => h j (by omega)]
  rfl
set_option maxRecDepth 100000 in
set_option maxHeartbeats 3200000 in
theorem implCutsOk_c (w : World) (a : Option Addr) (n c : Nat) (m : List dOp) (h : ListAt shOp (Under w.heap.size) w a n m) (hc1 : n ≤ c) (hc2 : c ≤ 9223372036854775807) (hb : (Shape.list shOp).bulk m ≤ 1048576)
    (a' : Option Addr) (n' c' : Nat) (l : List Int) (h' : IntsIn w.heap.size w a' n' l) :
    Calls Try.prog 23 #[.agg #[.slice a n c], .slice a' n' c'] w fun e w' => e = .returned (.bool (cutsOkB m l)) ∧ Below w.heap.size w w' := by
  have hr' := h'.room
  have hal : Below w.heap.size w (w.alloc (.cells #[.slice a n c] 26 (0, 0))) := (Below.refl _ _).alloc (Nat.le_refl _) _
  have hb0 := heap_alloc_new w (.cells #[.slice a n c] 26 (0, 0))
  have hs0 : w.heap.size < (w.alloc (.cells #[.slice a n c] 26 (0, 0))).heap.size := by simp
  have hbx := box1 hb0
  have HC := Lib.hid (implModelOk_d _ [.slice a n c] m (shModel_reads.2 ⟨a, n, c, rfl, hc1, hc2, (h.below hal (Nat.le_refl _)).le hal.size⟩) hb)
  have HL := Lib.hid h'
  have HA := Lib.hid hal
  have HB0 := Lib.hid hb0
  have HN := Lib.hid h.1
  have HN' := Lib.hid h'.len
  obtain ⟨d, hd⟩ : ∃ d, modelOkB m = d := ⟨_, rfl⟩
  rw [hd] at HC
  have HD := Lib.hid hd
  obtain ⟨R, hR⟩ : ∃ R, cutsOkB m l = R := ⟨_, rfl⟩
  rw [hR]
  have HR := Lib.hid hR
  clear h h' hb hal hb0 hd hR
  cases d
  · obtain rfl : R = false := by rw [← HR.out]; exact cutsOk_l HD.out
    go_enter Try.func23, Try.ntmps23
    go_wp2_with fail
    refine HC.out.mono ?_
    rintro e w1 ⟨rfl, hb⟩
    have HB := Lib.hid (HA.out.trans (hb.mono HA.out.size))
    clear hb
    go_wp2_with fail
    go_ret
    exact ⟨rfl, HB.out⟩
  · have hn8 : n ≤ 8 := by have := (modelOk_has HD.out).2.2; have := HN.out; omega
    go_enter Try.func23, Try.ntmps23
    go_wp2_with fail
    generalize w.alloc (.cells #[.slice a n c] 26 (0, 0)) = wa at HC HA HB0 hs0 hbx ⊢
    refine HC.out.mono ?_
    rintro e w1 ⟨rfl, hb⟩
    have hs1 : w.heap.size < w1.heap.size := Nat.lt_of_lt_of_le hs0 hb.size
    have HB1 := Lib.hid ((hb.block w.heap.size hs0).trans HB0.out)
    have HW1 := Lib.hid (HA.out.trans (hb.mono HA.out.size))
    clear hb hbx
    go_wp2_with fail
    go_loopw [5, 13] (fun p i wr => ∃ k : Nat, k ≤ n' ∧ i = .int .i64 k ∧ p = .int .i64 (prevC l k) ∧ Hid (∀ j, j < k → cutAt m.length l j = true) ∧ Below w1.heap.size w1 wr) (fun _ i _ => n' - (intOf i).toNat)
    case atStart => exact ⟨0, Nat.zero_le _, rfl, rfl, Lib.hid fun j hj => absurd hj (Nat.not_lt_zero _), Below.refl _ _⟩
    case round =>
      obtain ⟨k, hk, rfl, rfl, hall, hbw⟩ := hrel
      have hsz := hbw.size
      have hbx := box1 ((hbw.block w.heap.size hs1).trans HB1.out)
      have hww : Below w.heap.size w wr := HW1.out.trans (hbw.mono HW1.out.size)
      obtain ⟨A, hA⟩ : ∃ A, prevC l k = A := ⟨_, rfl⟩
      rw [hA]
      by_cases hlt : k < n'
      · obtain ⟨b, o, rfl, hbB, hc0⟩ := HL.out.cells k hlt
        obtain ⟨X, hX⟩ : ∃ X, X = l.getD k 0 := ⟨_, rfl⟩
        rw [← hX] at hc0
        have hcell := (hww.cell (p := ⟨b, o + k, none⟩) hbB).trans hc0
        have HX := Lib.hid hX
        have HA2 := Lib.hid hA
        have HWW := Lib.hid hww
        have HBW := Lib.hid hbw
        clear hX hA hc0 hbw hww
        by_cases h1 : X ≤ A
        · have h1d : decide (X ≤ A) = true := decide_eq_true h1
          obtain rfl : R = false := by rw [← HR.out]; exact cutsI_no HN'.out hlt (cutAt_low (by rw [← HX.out, HA2.out]; exact h1))
          go_wp2_with fail
          go_ret
          exact ⟨rfl, HWW.out⟩
        · have h1d : decide (X ≤ A) = false := decide_eq_false h1
          by_cases h2 : (n : Int) ≤ X
          · have h2d : decide (X ≥ (n : Int)) = true := decide_eq_true h2
            obtain rfl : R = false := by rw [← HR.out]; exact cutsI_no HN'.out hlt (cutAt_high (by rw [← HX.out, HN.out]; exact h2))
            go_wp2_with fail
            go_ret
            exact ⟨rfl, HWW.out⟩
          · have h2d : decide (X ≥ (n : Int)) = false := decide_eq_false h2
            have HOK : Hid (cutAt m.length l k = true) := Lib.hid (cutAt_yes (by rw [← HX.out, HA2.out]; omega) (by rw [← HX.out, HN.out]; omega))
            have HNX : Hid (prevC l (k + 1) = X) := Lib.hid (by rw [prevC_succ]; exact HX.out.symm)
            go_wp2_with fail
            go_roundw
            case rel =>
              refine ⟨k + 1, by omega, by go_num, by rw [HNX.out], Lib.hid fun j hj => ?_, HBW.out⟩
              by_cases e : j = k
              · rw [e]; exact HOK.out
              · exact hall.out j (by omega)
            case measure => simp [intOf]; omega
      · obtain rfl : k = n' := by omega
        obtain rfl : R = true := by rw [← HR.out]; exact cutsI_yes HN'.out HD.out hall.out
        have HWW := Lib.hid hww
        clear hbw hww hA
        go_wp2_with fail
        go_ret
        exact ⟨rfl, HWW.out⟩
set_option maxRecDepth 100000 in
set_option maxHeartbeats 3200000 in
theorem implStageRange_c (w : World) (a : Option Addr) (n c : Nat) (m : List dOp) (h : ListAt shOp (Under w.heap.size) w a n m) (hc1 : n ≤ c) (hc2 : c ≤ 9223372036854775807) (hb : (Shape.list shOp).bulk m ≤ 1048576)
    (a' : Option Addr) (n' c' : Nat) (l : List Int) (h' : IntsIn w.heap.size w a' n' l) (s : Int) :
    Calls Try.prog 24 #[.agg #[.slice a n c], .slice a' n' c', .int .i64 s] w fun e w' => e = .returned (.tuple #[.int .i64 (fromC m l s), .int .i64 (toC m l s)]) ∧ Below w.heap.size w w' := by
  have hr' := h'.room
  have hal : Below w.heap.size w (w.alloc (.cells #[.slice a n c] 26 (0, 0))) := (Below.refl _ _).alloc (Nat.le_refl _) _
  have hb0 := heap_alloc_new w (.cells #[.slice a n c] 26 (0, 0))
  have hs0 : w.heap.size < (w.alloc (.cells #[.slice a n c] 26 (0, 0))).heap.size := by simp
  have hbx := box1 hb0
  have HC := Lib.hid (implCutsOk_c _ a n c m ((h.below hal (Nat.le_refl _)).le hal.size) hc1 hc2 hb a' n' c' l ((h'.below hal (Nat.le_refl _)).le hal.size))
  have HL := Lib.hid h'
  have HA := Lib.hid hal
  have HB0 := Lib.hid hb0
  have HN := Lib.hid h.1
  have HN' := Lib.hid h'.len
  obtain ⟨d, hd⟩ : ∃ d, cutsOkB m l = d := ⟨_, rfl⟩
  rw [hd] at HC
  have HD := Lib.hid hd
  obtain ⟨F, hF⟩ : ∃ F, fromC m l s = F := ⟨_, rfl⟩
  obtain ⟨T, hT⟩ : ∃ T, toC m l s = T := ⟨_, rfl⟩
  rw [hF, hT]
  have HF := Lib.hid hF
  have HT := Lib.hid hT
  clear h h' hb hal hb0 hd hF hT
  cases d
  · have hz := stage_no (stageB_l (s := s) HD.out)
    obtain rfl : F = 0 := by rw [← HF.out]; exact hz.1
    obtain rfl : T = 0 := by rw [← HT.out]; exact hz.2
    clear hz
    go_enter Try.func24, Try.ntmps24
    go_wp2_with fail
    refine HC.out.mono ?_
    rintro e w1 ⟨rfl, hb⟩
    have HB := Lib.hid (HA.out.trans (hb.mono HA.out.size))
    clear hb
    go_wp2_with fail
    go_ret2
    exact ⟨rfl, HB.out⟩
  · cases hp : inB 0 (n' : Int) s with
    | false =>
      have hz := stage_no (stageB_r (m := m) (by rw [HN'.out]; exact hp))
      obtain rfl : F = 0 := by rw [← HF.out]; exact hz.1
      obtain rfl : T = 0 := by rw [← HT.out]; exact hz.2
      clear hz
      by_cases h1 : s < 0
      · have h1d : decide (s < 0) = true := decide_eq_true h1
        clear hp
        go_enter Try.func24, Try.ntmps24
        go_wp2_with fail
        refine HC.out.mono ?_
        rintro e w1 ⟨rfl, hb⟩
        have HB := Lib.hid (HA.out.trans (hb.mono HA.out.size))
        clear hb
        go_wp2_with fail
        go_ret2
        exact ⟨rfl, HB.out⟩
      · have h1d : decide (s < 0) = false := decide_eq_false h1
        have h2 : s > (n' : Int) := by
          by_cases h3 : s > (n' : Int)
          · exact h3
          · rw [inB_yes (by omega) (by omega)] at hp
            cases hp
        have h2d : decide (s > (n' : Int)) = true := decide_eq_true h2
        clear hp
        go_enter Try.func24, Try.ntmps24
        go_wp2_with fail
        refine HC.out.mono ?_
        rintro e w1 ⟨rfl, hb⟩
        have HB := Lib.hid (HA.out.trans (hb.mono HA.out.size))
        clear hb
        go_wp2_with fail
        go_ret2
        exact ⟨rfl, HB.out⟩
    | true =>
      have hin := inB_has hp
      obtain ⟨j, rfl⟩ : ∃ j : Nat, s = j := ⟨s.toNat, by omega⟩
      have hjn : j ≤ n' := by omega
      have hst := stage_j (j := j) HD.out (by rw [HN'.out]; exact hjn)
      rw [HF.out, HT.out] at hst
      have HST := Lib.hid hst
      have hs1d : decide ((j : Int) < 0) = false := decide_eq_false (by omega)
      have hs2d : decide ((j : Int) > (n' : Int)) = false := decide_eq_false (by omega)
      have hs3 : ¬ (n' : Int) < (j : Int) := by omega
      have hs4 : ¬ n' < j := by omega
      clear hp hin hst HF HT
      by_cases j0 : j = 0
      · have hgt : decide ((j : Int) > 0) = false := decide_eq_false (by omega)
        have h0j : ¬ 0 < j := by omega
        obtain rfl : F = 0 := by rw [HST.out.1, j0]; rfl
        by_cases hjl : j < n'
        · obtain ⟨b, o, rfl, hbB, hc0⟩ := HL.out.cells j hjl
          rw [← endC_lt (n := m.length) (by rw [HN'.out]; exact hjl), ← HST.out.2] at hc0
          have HCL := Lib.hid fun (w1 : World) (hb : Below w.heap.size w w1) => (hb.cell (p := ⟨b, o + j, none⟩) hbB).trans hc0
          have HJ0 := Lib.hid j0
          clear hc0 j0
          go_enter Try.func24, Try.ntmps24
          go_wp2_with fail
          refine HC.out.mono ?_
          rintro e w1 ⟨rfl, hb⟩
          have hbx1 := box1 ((hb.block w.heap.size hs0).trans HB0.out)
          have HB := Lib.hid (HA.out.trans (hb.mono HA.out.size))
          clear hb
          go_wp2_with fail
          go_quiet (fail)
          have HBQ : Hid (Below w.heap.size w (w1.drewN nq)) := Lib.hid (HB.out.trans ⟨rfl, rfl, rfl, Nat.le_refl _, fun _ _ => rfl⟩)
          clear hbx1
          have hcl := HCL.out _ HBQ.out
          generalize w1.drewN nq = wq at HBQ hcl ⊢
          go_wp2_with fail
          go_ret2
          exact ⟨rfl, HBQ.out⟩
        · obtain rfl : T = (n : Int) := by rw [HST.out.2, endC_ge (by rw [HN'.out]; exact hjl), HN.out]
          have HJ0 := Lib.hid j0
          clear j0
          go_enter Try.func24, Try.ntmps24
          go_wp2_with fail
          refine HC.out.mono ?_
          rintro e w1 ⟨rfl, hb⟩
          have hbx1 := box1 ((hb.block w.heap.size hs0).trans HB0.out)
          have HB := Lib.hid (HA.out.trans (hb.mono HA.out.size))
          clear hb
          go_wp2_with fail
          go_quiet (fail)
          have HBQ : Hid (Below w.heap.size w (w1.drewN nq)) := Lib.hid (HB.out.trans ⟨rfl, rfl, rfl, Nat.le_refl _, fun _ _ => rfl⟩)
          clear hbx1
          generalize w1.drewN nq = wq at HBQ ⊢
          go_wp2_with fail
          go_ret2
          exact ⟨rfl, HBQ.out⟩
      · obtain ⟨i, hi⟩ : ∃ i, j = i + 1 := ⟨j - 1, by omega⟩
        have hgt : decide ((j : Int) > 0) = true := decide_eq_true (by omega)
        have h0j : 0 < j := by omega
        have hv1 : wrap64 ((j : Int) - 1) = (i : Int) := by rw [IntWalk.wrap64_in _ (by omega)]; omega
        have hv2 : IntKind.i64.wrap ((j : Int) - 1) = (i : Int) := by rw [IntKind.wrap_i64]; omega
        have hin : i < n' := by omega
        obtain ⟨b', o', eb', hbB', hc0'⟩ := HL.out.cells i hin
        have eb'2 := eb'
        rw [← prevC_pos hi, ← HST.out.1] at hc0'
        by_cases hjl : j < n'
        · obtain ⟨b, o, rfl, hbB, hc0⟩ := HL.out.cells j hjl
          cases eb'
          rw [← endC_lt (n := m.length) (by rw [HN'.out]; exact hjl), ← HST.out.2] at hc0
          have HCL := Lib.hid fun (w1 : World) (hb : Below w.heap.size w w1) => And.intro ((hb.cell (p := ⟨b', o' + j, none⟩) hbB).trans hc0) ((hb.cell (p := ⟨b', o' + i, none⟩) hbB').trans hc0')
          have HJ0 := Lib.hid hi
          clear hc0 hc0' j0 hi eb'2
          go_enter Try.func24, Try.ntmps24
          go_wp2_with fail
          refine HC.out.mono ?_
          rintro e w1 ⟨rfl, hb⟩
          have hbx1 := box1 ((hb.block w.heap.size hs0).trans HB0.out)
          have HB := Lib.hid (HA.out.trans (hb.mono HA.out.size))
          clear hb
          go_wp2_with fail
          go_quiet (fail)
          have HBQ : Hid (Below w.heap.size w (w1.drewN nq)) := Lib.hid (HB.out.trans ⟨rfl, rfl, rfl, Nat.le_refl _, fun _ _ => rfl⟩)
          clear hbx1
          obtain ⟨hcl, hcl'⟩ := HCL.out _ HBQ.out
          generalize w1.drewN nq = wq at HBQ hcl hcl' ⊢
          go_wp2_with fail
          go_ret2
          exact ⟨rfl, HBQ.out⟩
        · obtain rfl : T = (n : Int) := by rw [HST.out.2, endC_ge (by rw [HN'.out]; exact hjl), HN.out]
          subst eb'2
          have HCL := Lib.hid fun (w1 : World) (hb : Below w.heap.size w w1) => (hb.cell (p := ⟨b', o' + i, none⟩) hbB').trans hc0'
          have HJ0 := Lib.hid hi
          clear hc0' j0 hi
          go_enter Try.func24, Try.ntmps24
          go_wp2_with fail
          refine HC.out.mono ?_
          rintro e w1 ⟨rfl, hb⟩
          have hbx1 := box1 ((hb.block w.heap.size hs0).trans HB0.out)
          have HB := Lib.hid (HA.out.trans (hb.mono HA.out.size))
          clear hb
          go_wp2_with fail
          go_quiet (fail)
          have HBQ : Hid (Below w.heap.size w (w1.drewN nq)) := Lib.hid (HB.out.trans ⟨rfl, rfl, rfl, Nat.le_refl _, fun _ _ => rfl⟩)
          clear hbx1
          have hcl := HCL.out _ HBQ.out
          generalize w1.drewN nq = wq at HBQ hcl ⊢
          go_wp2_with fail
          go_ret2
          exact ⟨rfl, HBQ.out⟩
set_option maxRecDepth 100000 in
set_option maxHeartbeats 3200000 in
theorem implStageCost_c (w : World) (a : Option Addr) (n c : Nat) (m : List dOp) (h : ListAt shOp (Under w.heap.size) w a n m) (hc1 : n ≤ c) (hc2 : c ≤ 9223372036854775807) (hb : (Shape.list shOp).bulk m ≤ 1048576)
    (a' : Option Addr) (n' c' : Nat) (l : List Int) (h' : IntsIn w.heap.size w a' n' l) (s : Int) :
    Calls Try.prog 25 #[.agg #[.slice a n c], .slice a' n' c', .int .i64 s] w fun e w' => e = .returned (.int .i64 (costC m l s)) ∧ Below w.heap.size w w' := by
  have hbk := bulk_list shOp h
  have hb2 := hb
  rw [hbk] at hb2
  have hn1 : n ≤ 1048576 := by omega
  have hal : Below w.heap.size w (w.alloc (.cells #[.slice a n c] 26 (0, 0))) := (Below.refl _ _).alloc (Nat.le_refl _) _
  have hb0 := heap_alloc_new w (.cells #[.slice a n c] 26 (0, 0))
  have hs0 : w.heap.size < (w.alloc (.cells #[.slice a n c] 26 (0, 0))).heap.size := by simp
  have hbx := box1 hb0
  have HC := Lib.hid (implStageRange_c _ a n c m ((h.below hal (Nat.le_refl _)).le hal.size) hc1 hc2 hb a' n' c' l ((h'.below hal (Nat.le_refl _)).le hal.size) s)
  have HL := Lib.hid h
  have HB := Lib.hid hb2
  have HA := Lib.hid hal
  have HB0 := Lib.hid hb0
  obtain ⟨f, t, ef, et, hft, htn⟩ := range_in m l s
  rw [ef, et] at HC
  rw [h.1] at htn
  obtain ⟨R, hR⟩ : ∃ R, costC m l s = R := ⟨_, rfl⟩
  have hR' : costTo m t - costTo m f = R := by rw [← hR]; unfold costC; rw [ef, et]; rfl
  rw [hR]
  have HR := Lib.hid hR'
  clear h h' hb hb2 hal hb0 hbk hR hR' ef et
  by_cases hcf : c = f
  · obtain rfl : t = f := by omega
    subst hcf
    obtain rfl : R = 0 := by rw [← HR.out]; omega
    go_enter Try.func25, Try.ntmps25
    go_wp2_with fail
    generalize w.alloc (.cells #[.slice a n c] 26 (0, 0)) = wa at HC HA HB0 hs0 hbx ⊢
    refine HC.out.mono ?_
    rintro e w1 ⟨rfl, hb⟩
    have hs1 : w.heap.size < w1.heap.size := Nat.lt_of_lt_of_le hs0 hb.size
    have hbx1 := box1 ((hb.block w.heap.size hs0).trans HB0.out)
    have HW1 := Lib.hid (HA.out.trans (hb.mono HA.out.size))
    clear hb hbx
    go_wp2_with fail
    clear hbx1
    go_loopw [9, 25] (fun q i wr => i = .int .i64 0 ∧ q = .int .i64 0 ∧ Below w1.heap.size w1 wr) (fun _ _ _ => 0)
    case atStart => exact ⟨rfl, rfl, Below.refl _ _⟩
    case round =>
      obtain ⟨rfl, rfl, hbw⟩ := hrel
      have HWW := Lib.hid (HW1.out.trans (hbw.mono HW1.out.size))
      clear hbw
      go_wp2_with fail
      go_ret
      exact ⟨rfl, HWW.out⟩
  · obtain ⟨A, hA⟩ : ∃ A, Option.map (fun x : Addr => x.add (f * 4)) a = A := ⟨_, rfl⟩
    obtain ⟨D, hD⟩ : ∃ D, t - f = D := ⟨_, rfl⟩
    have hD1 : f + D = t := by omega
    have hD2 : D ≤ 1048576 := by omega
    have hDc : D ≤ c - f := by omega
    go_enter Try.func25, Try.ntmps25
    go_wp2_with fail
    generalize w.alloc (.cells #[.slice a n c] 26 (0, 0)) = wa at HC HA HB0 hs0 hbx ⊢
    refine HC.out.mono ?_
    rintro e w1 ⟨rfl, hb⟩
    have hs1 : w.heap.size < w1.heap.size := Nat.lt_of_lt_of_le hs0 hb.size
    have hbx1 := box1 ((hb.block w.heap.size hs0).trans HB0.out)
    have HW1 := Lib.hid (HA.out.trans (hb.mono HA.out.size))
    clear hb hbx
    go_wp2_with fail
    clear hbx1
    have HAA := Lib.hid hA
    clear hA hD
    go_loopw [9, 25] (fun q i wr => ∃ j : Nat, j ≤ D ∧ i = .int .i64 j ∧ q = .int .i64 (costTo m (f + j) - costTo m f) ∧ Below w1.heap.size w1 wr) (fun _ i _ => D - (intOf i).toNat)
    case atStart => exact ⟨0, Nat.zero_le _, rfl, by simp, Below.refl _ _⟩
    case round =>
      obtain ⟨j, hj, rfl, rfl, hbw⟩ := hrel
      have hsz := hbw.size
      have hww : Below w.heap.size w wr := HW1.out.trans (hbw.mono HW1.out.size)
      obtain ⟨S, hS⟩ : ∃ S, costTo m (f + j) - costTo m f = S := ⟨_, rfl⟩
      have hS0 : 0 ≤ S ∧ S ≤ 40000000 := by
        have h1 := costTo_le m (show f ≤ f + j by omega)
        have h2 := costTo_in m (f + j)
        have h3 := costTo_in m f
        omega
      rw [hS]
      by_cases hlt : j < D
      · obtain ⟨x, hx⟩ : ∃ x, m[f + j]? = some x := ⟨_, List.getElem?_eq_getElem (by rw [HL.out.1]; omega)⟩
        obtain ⟨b, o, es, rfl, hbB, hr, hs⟩ := HL.out.2 (f + j) x hx
        obtain rfl : A = some ⟨b, o + f * 4, none⟩ := by rw [← HAA.out]; simp [Addr.add_lit]
        have hrr := rangeAt_kept hr (show b < w.heap.size from hbB) (Kept.of_below (I := Under w.heap.size) hww fun b hb => hb)
        have hsw := shOp.below hs hww (Nat.le_refl _)
        have hbx' : shOp.bulk x ≤ 1048576 := by have h1 := bulk_mem shOp.bulk m (f + j) x hx; have h2 := HB.out; omega
        rw [shOp_bulk, bulk_ints] at hbx'
        obtain ⟨ae, ne, ce, rfl, ge, le, me⟩ := shOp_reads.1 hsw
        have hal2 := (Below.refl wr.heap.size wr).alloc (Nat.le_refl _) (.cells #[.int .i64 x.1, .int .i64 x.2.1, .int .i64 x.2.2.1, .slice ae ne ce] 48 (0, 0))
        have hT := implOpCost_any (wr.alloc (.cells #[.int .i64 x.1, .int .i64 x.2.1, .int .i64 x.2.2.1, .slice ae ne ce] 48 (0, 0))) x.1 x.2.1 x.2.2.1 ae ne ce x.2.2.2 (((me.below (hal2.mono hww.size) (Nat.le_refl _)).ints (by rw [← me.1]; exact hbx')).le (Nat.le_trans hww.size hal2.size)) ge le
        obtain ⟨C, hC⟩ : ∃ C, opCostN x.1 x.2.1 x.2.2.1 x.2.2.2 = C := ⟨_, rfl⟩
        have hC0 : 0 ≤ C ∧ C ≤ 36 := by rw [← hC]; exact opC_in x
        rw [hC] at hT
        have HT := Lib.hid hT
        have hw0 : wrap64 (S + C) = S + C := IntWalk.wrap64_in _ (by omega)
        have HNX : Hid (costTo m (f + (j + 1)) - costTo m f = S + C) := Lib.hid (by
          have h1 : opC x = C := hC
          rw [← Nat.add_assoc, fill_model hx, h1]
          omega)
        have ee : o + (f + j) * 4 = o + f * 4 + j * 4 := by rw [Nat.add_mul]; omega
        rw [shOp_size, ee] at hrr
        have c0 := hrr 0 _ rfl
        have c1 := hrr 1 _ rfl
        have c2 := hrr 2 _ rfl
        have c3 := hrr 3 _ rfl
        simp only [Nat.add_zero] at c0
        have HBW := Lib.hid (hbw.trans (hal2.mono hsz))
        clear hr hrr hs hsw me hx hbx' hww hbw hT hC hS hal2 ee
        go_wp2_with fail
        refine HT.out.mono ?_
        rintro e w2 ⟨rfl, hb⟩
        have HW2 := Lib.hid (HBW.out.trans (hb.mono HBW.out.size))
        clear hb c0 c1 c2 c3
        go_wp2_with fail
        go_roundw
        case rel => exact ⟨j + 1, by omega, by go_num, by rw [HNX.out], HW2.out⟩
        case measure => simp [intOf]; omega
      · obtain rfl : j = D := by omega
        obtain rfl : S = R := by rw [← hS, hD1, HR.out]
        have HWW := Lib.hid hww
        clear hbw hww hS
        go_wp2_with fail
        go_ret
        exact ⟨rfl, HWW.out⟩
set_option maxRecDepth 100000 in
set_option maxHeartbeats 3200000 in
theorem implMaxCost_c (w : World) (a : Option Addr) (n c : Nat) (m : List dOp) (h : ListAt shOp (Under w.heap.size) w a n m) (hc1 : n ≤ c) (hc2 : c ≤ 9223372036854775807) (hb : (Shape.list shOp).bulk m ≤ 1048576)
    (a' : Option Addr) (n' c' : Nat) (l : List Int) (h' : IntsIn w.heap.size w a' n' l) :
    Calls Try.prog 20 #[.agg #[.slice a n c], .slice a' n' c'] w fun e w' => e = .returned (.int .i64 (maxC m l)) ∧ Below w.heap.size w w' := by
  have hr' := h'.room
  have hal : Below w.heap.size w (w.alloc (.cells #[.slice a n c] 26 (0, 0))) := (Below.refl _ _).alloc (Nat.le_refl _) _
  have hb0 := heap_alloc_new w (.cells #[.slice a n c] 26 (0, 0))
  have hs0 : w.heap.size < (w.alloc (.cells #[.slice a n c] 26 (0, 0))).heap.size := by simp
  have hbx := box1 hb0
  have HC := Lib.hid (implCutsOk_c _ a n c m ((h.below hal (Nat.le_refl _)).le hal.size) hc1 hc2 hb a' n' c' l ((h'.below hal (Nat.le_refl _)).le hal.size))
  have HS := Lib.hid fun (w1 : World) (s : Int) (hb1 : Below w.heap.size w w1) => implStageCost_c w1 a n c m ((h.below hb1 (Nat.le_refl _)).le hb1.size) hc1 hc2 hb a' n' c' l ((h'.below hb1 (Nat.le_refl _)).le hb1.size) s
  have HA := Lib.hid hal
  have HB0 := Lib.hid hb0
  have HN' := Lib.hid h'.len
  obtain ⟨d, hd⟩ : ∃ d, cutsOkB m l = d := ⟨_, rfl⟩
  rw [hd] at HC
  have HD := Lib.hid hd
  obtain ⟨R, hR⟩ : ∃ R, maxC m l = R := ⟨_, rfl⟩
  rw [hR]
  have HR := Lib.hid hR
  clear h h' hb hal hb0 hd hR
  cases d
  · obtain rfl : R = 0 := by rw [← HR.out]; exact maxC_no HD.out
    go_enter Try.func20, Try.ntmps20
    go_wp2_with fail
    refine HC.out.mono ?_
    rintro e w1 ⟨rfl, hb⟩
    have HB := Lib.hid (HA.out.trans (hb.mono HA.out.size))
    clear hb
    go_wp2_with fail
    go_ret
    exact ⟨rfl, HB.out⟩
  · obtain rfl : R = maxTo m l (n' + 1) := by rw [← HR.out, maxC_yes HD.out, HN'.out]
    go_enter Try.func20, Try.ntmps20
    go_wp2_with fail
    generalize w.alloc (.cells #[.slice a n c] 26 (0, 0)) = wa at HC HA HB0 hs0 hbx ⊢
    refine HC.out.mono ?_
    rintro e w1 ⟨rfl, hb⟩
    have hs1 : w.heap.size < w1.heap.size := Nat.lt_of_lt_of_le hs0 hb.size
    have HB1 := Lib.hid ((hb.block w.heap.size hs0).trans HB0.out)
    have HW1 := Lib.hid (HA.out.trans (hb.mono HA.out.size))
    clear hb hbx
    go_wp2_with fail
    go_loopw [5, 14] (fun q i wr => ∃ k : Nat, k ≤ n' + 1 ∧ i = .int .i64 k ∧ q = .int .i64 (maxTo m l k) ∧ Below w1.heap.size w1 wr) (fun _ i _ => n' + 1 - (intOf i).toNat)
    case atStart => exact ⟨0, Nat.zero_le _, rfl, rfl, Below.refl _ _⟩
    case round =>
      obtain ⟨k, hk, rfl, rfl, hbw⟩ := hrel
      have hsz := hbw.size
      have hbx := box1 ((hbw.block w.heap.size hs1).trans HB1.out)
      have hww : Below w.heap.size w wr := HW1.out.trans (hbw.mono HW1.out.size)
      obtain ⟨M, hM⟩ : ∃ M, maxTo m l k = M := ⟨_, rfl⟩
      rw [hM]
      by_cases hlt : k ≤ n'
      · have hld : decide ((k : Int) < (n' : Int) + 1) = true := decide_eq_true (by omega)
        have hli : (k : Int) < (n' : Int) + 1 := by omega
        have HWW := Lib.hid hww
        have HBW := Lib.hid hbw
        obtain ⟨C, hC⟩ : ∃ C, costC m l (k : Int) = C := ⟨_, rfl⟩
        have hmx : max M C = if M < C then C else M := by split <;> omega
        have HNX : Hid (maxTo m l (k + 1) = if M < C then C else M) := Lib.hid (by rw [maxTo_succ, hM, hC, hmx])
        have HSS := Lib.hid (HS.out wr (k : Int) hww)
        rw [hC] at HSS
        clear hbw hww hM hC hmx
        go_wp2_with fail
        refine HSS.out.mono ?_
        rintro e w3 ⟨rfl, hb⟩
        have HW3 := Lib.hid (HBW.out.trans (hb.mono HBW.out.size))
        clear hb hbx
        go_wp2_with fail
        go_roundw
        case rel => exact ⟨k + 1, by omega, by go_num, by rw [HNX.out], HW3.out⟩
        case measure => simp [intOf]; omega
      · obtain rfl : k = n' + 1 := by omega
        have hld : decide (((n' + 1 : Nat) : Int) < (n' : Int) + 1) = false := decide_eq_false (by omega)
        have HWW := Lib.hid hww
        clear hbw hww
        go_wp2_with fail
        go_ret
        exact ⟨by rw [hM]; rfl, HWW.out⟩
end Go.Proofs.Ytkmcfbopilieeaa

end

/-! YtkmcfbopilieeaaCutC -/
section

namespace Go.Proofs.Ytkmcfbopilieeaa
open Go.RowKit Go.Shelf
set_option linter.unusedVariables false
attribute [local go_sem] Oper.semAt_some

/-- The number of the best of the first k ways: the first of several that are as good. -/
def bestI (m : List dOp) (s : Int) : Nat → Nat
  | 0 => 0
  | k + 1 => if maxC m (wayAt m.length s k) < maxC m (wayAt m.length s (bestI m s k)) then k else bestI m s k
def bestRow (m : List dOp) (s : Int) (k : Nat) : List Int := if k = 0 then [] else wayAt m.length s (bestI m s k)
def leastK (m : List dOp) (s : Int) (k : Nat) : Int := if k = 0 then 0 else maxC m (wayAt m.length s (bestI m s k))
def bestB (m : List dOp) (s : Int) : Bool := modelOkB m && inB 1 (m.length : Int) s
def bestC (m : List dOp) (s : Int) : List Int := if bestB m s then wayAt m.length s (bestI m s (waysI m.length s).length) else []
theorem best_up {m : List dOp} {s : Int} {k : Nat} (h : k = 0 ∨ maxC m (wayAt m.length s k) < leastK m s k) : bestRow m s (k + 1) = wayAt m.length s k ∧ leastK m s (k + 1) = maxC m (wayAt m.length s k) := by
  unfold bestRow leastK
  rw [if_neg (by omega), if_neg (by omega)]
  have e : bestI m s (k + 1) = k := by
    unfold bestI
    by_cases hk : k = 0
    · subst hk
      split <;> rfl
    · rcases h with h | h
      · exact absurd h hk
      · unfold leastK at h
        rw [if_neg hk] at h
        rw [if_pos h]
  rw [e]
  exact ⟨rfl, rfl⟩
theorem best_stay {m : List dOp} {s : Int} {k : Nat} (h0 : k ≠ 0) (h : ¬ maxC m (wayAt m.length s k) < leastK m s k) : bestRow m s (k + 1) = bestRow m s k ∧ leastK m s (k + 1) = leastK m s k := by
  unfold leastK at h
  rw [if_neg h0] at h
  have e : bestI m s (k + 1) = bestI m s k := by
    show (if _ then _ else _) = _
    rw [if_neg h]
  unfold bestRow leastK
  simp only [if_neg (show ¬ (k + 1 = 0) by omega), if_neg h0, e, and_self]
theorem best_end {m : List dOp} {s : Int} (h : modelOkB m = true) : bestC m s = bestRow m s (waysI m.length s).length ∧ bestB m s = decide (0 < (waysI m.length s).length) := by
  have hm := (cutsOk_has (m := m) (l := []) (by unfold cutsOkB; rw [h]; rfl))
  unfold bestC bestB bestRow
  rw [h, Bool.true_and]
  by_cases hs : 1 ≤ s ∧ s ≤ (m.length : Int)
  · obtain ⟨k, rfl⟩ : ∃ k : Nat, s = k := ⟨s.toNat, by omega⟩
    have hin : inB 1 (m.length : Int) (k : Int) = true := by
      unfold inB
      simp
      omega
    have hw := waysI_yes (n := m.length) (k := k) (by omega) (by omega) (by omega)
    have hp := (ways_at (n := m.length) (k := k) (by omega) (by omega) (by omega)).some
    rw [hin, if_pos rfl, hw, if_neg (by omega)]
    exact ⟨rfl, (decide_eq_true (by omega)).symm⟩
  · have hin : inB 1 (m.length : Int) s = false := by
      unfold inB
      simp
      omega
    rw [hin, waysI_no (by omega)]
    exact ⟨rfl, rfl⟩
theorem way_short (ops stages : Int) (k : Nat) : (wayAt ops stages k).length ≤ 7 := by
  unfold wayAt
  rw [List.getD_eq_getElem?_getD]
  cases h : (waysI ops stages)[k]? with
  | none => simp
  | some l => exact (waysI_few ops stages).2 l (List.mem_of_getElem? h)

/-- What lies between two rounds of BestCuts. -/
def BestInv (w1 : World) (lo S : Nat) (m : List dOp) (s : Int) (pre : List Value) (W : World) : Prop :=
  (∃ v, Boxed W S 29 v ∧ Row lo W v (bestRow m s pre.length)) ∧ Boxed W (S + 1) 3 (.int .i64 (leastK m s pre.length)) ∧ Boxed W (S + 1 + 1) 4 (.bool (decide (0 < pre.length))) ∧
    Below S w1 W ∧ Boxed W (S + 3) 3 (.int .i64 (m.length : Int)) ∧ Boxed W (S + 3 + 1) 3 (.int .i64 s)
set_option maxHeartbeats 400000 in
theorem bestInv_own {w1 : World} {m : List dOp} {s : Int} {S B : Nat} (hS : S + 5 ≤ B) (hS1 : S ≤ w1.heap.size) : ∀ pre W W' row, BestInv w1 (B + 3) S m s pre W → W.grownBy W' row → (∀ r, row = some r → B ≤ r ∧ r < B + 3) → BestInv w1 (B + 3) S m s pre W' := by
  rintro pre A A' row ⟨⟨v, h1, h2⟩, h3, h4, h5, h6, h7⟩ hg hr
  have hne : ∀ b, b < B → some b ≠ row := fun b hb e => by have := hr b e.symm; omega
  refine ⟨⟨v, h1.kept hg (hne _ (by omega)), h2.kept hg ?_⟩, h3.kept hg (hne _ (by omega)), h4.kept hg (hne _ (by omega)), ?_, h6.kept hg (hne _ (by omega)), h7.kept hg (hne _ (by omega))⟩
  · cases hv : v.ownBlock with
    | none => exact .inl rfl
    | some k =>
      refine .inr fun e => ?_
      · have q1 := (h2.lt _ hv).1
        have q2 := hr k e.symm
        omega
  · exact ⟨hg.os.trans h5.os, hg.tape.trans h5.tape, hg.output.trans h5.output, Nat.le_trans h5.size hg.size, fun b hb => (hg.block b (Nat.lt_of_lt_of_le hb (Nat.le_trans hS1 h5.size)) (hne b (by omega))).trans (h5.block b hb)⟩
theorem row_set8 {base : Nat} {w : World} {v : Value} {xs : List Int} (h : Row base w v xs) (g : Nat) (hg : g < base) (u : Value) : Row base (w.setCell ⟨g, 0, none⟩ u) v xs :=
  h.kept (grownBy_setCell' w g u) (by
    cases hv : v.ownBlock with
    | none => exact .inl rfl
    | some k => exact .inr fun e => by cases e; have := (h.lt _ hv).1; omega)
/-- What a round leaves: three boxes written, behind a call. -/
theorem best_round {S B : Nat} {W wc : World} (hb : Below W.heap.size W wc) (x y z : Value) (hS : S + 5 ≤ B) (hBW : B + 3 ≤ W.heap.size) :
    KeepsFrom B W (((wc.setCell ⟨S, 0, none⟩ x).setCell ⟨S + 1, 0, none⟩ y).setCell ⟨S + 1 + 1, 0, none⟩ z) ∧
      (((wc.setCell ⟨S, 0, none⟩ x).setCell ⟨S + 1, 0, none⟩ y).setCell ⟨S + 1 + 1, 0, none⟩ z).heap[B + 2]? = W.heap[B + 2]? ∧
      KeepB S (S + 3) (S + 3 + 1) W (((wc.setCell ⟨S, 0, none⟩ x).setCell ⟨S + 1, 0, none⟩ y).setCell ⟨S + 1 + 1, 0, none⟩ z) := by
  have hold : ∀ k, k < W.heap.size → k ≠ S → k ≠ S + 1 → k ≠ S + 1 + 1 → (((wc.setCell ⟨S, 0, none⟩ x).setCell ⟨S + 1, 0, none⟩ y).setCell ⟨S + 1 + 1, 0, none⟩ z).heap[k]? = W.heap[k]? := fun k hk e1 e2 e3 => by
    rw [Below.heap_setCell _ _ _ _ e3, Below.heap_setCell _ _ _ _ e2, Below.heap_setCell _ _ _ _ e1]
    exact hb.block k hk
  refine ⟨?_, hold _ (by omega) (by omega) (by omega) (by omega), ?_, hold _ (by omega) (by omega) (by omega) (by omega), hold _ (by omega) (by omega) (by omega) (by omega)⟩
  · have a1 : KeepsOthers wc (((wc.setCell ⟨S, 0, none⟩ x).setCell ⟨S + 1, 0, none⟩ y).setCell ⟨S + 1 + 1, 0, none⟩ z) := ((KeepsOthers.setCell _ _ _).trans (KeepsOthers.setCell _ _ _)).trans (KeepsOthers.setCell _ _ _)
    exact ⟨Nat.le_trans hb.size a1.size, fun k o' _ hk ho => a1.same k o' ((hb.block k (Array.getElem?_eq_some_iff.1 hk).1).trans hk) ho⟩
  · exact (((hb.mono (show S ≤ W.heap.size by omega)).setCell (p := ⟨S, 0, none⟩) (Nat.le_refl _) x).setCell (p := ⟨S + 1, 0, none⟩) (by show S ≤ S + 1; omega) y).setCell (p := ⟨S + 1 + 1, 0, none⟩) (by show S ≤ S + 1 + 1; omega) z
theorem best_still {S B : Nat} {W wc : World} (hb : Below W.heap.size W wc) (hS : S + 5 ≤ B) (hBW : B + 3 ≤ W.heap.size) :
    KeepsFrom B W wc ∧ wc.heap[B + 2]? = W.heap[B + 2]? ∧ KeepB S (S + 3) (S + 3 + 1) W wc :=
  ⟨⟨hb.size, fun k o' _ hk ho => (hb.block k (Array.getElem?_eq_some_iff.1 hk).1).trans hk⟩, hb.block _ (by omega), hb.mono (by omega), hb.block _ (by omega), hb.block _ (by omega)⟩

set_option maxRecDepth 100000 in
set_option maxHeartbeats 3000000 in
theorem implBestCuts_o (w : World) (a : Option Addr) (n c : Nat) (m : List dOp) (h : ListAt shOp (Under w.heap.size) w a n m) (hc1 : n ≤ c) (hc2 : c ≤ 9223372036854775807) (hb : (Shape.list shOp).bulk m ≤ 1048576) (s : Int) :
    Calls Try.prog 14 #[.agg #[.slice a n c], .int .i64 s] w fun e w' => ∃ v, e = .returned (.tuple #[v, .bool (bestB m s)]) ∧ Row w.heap.size w' v (bestC m s) ∧ Below w.heap.size w w' := by
  refine (callsIn_wide (n := 6)).1 ?_
  refine callsIn_of_wp_marks Try.func14 rfl trivial ?_ rfl
  simp only [Try.ntmps14, List.size_toArray, List.length_cons, List.length_nil, Nat.reduceAdd, Nat.reduceSub, Array.replicate_succ, Array.replicate_zero, List.push_toArray, List.append_toArray, List.nil_append, List.cons_append]
  have hal : Below w.heap.size w (w.alloc (.cells #[.slice a n c] 26 (0, 0))) := (Below.refl _ _).alloc (Nat.le_refl _) _
  have hk0 := heap_alloc_new w (.cells #[.slice a n c] 26 (0, 0))
  have hs0 : (w.alloc (.cells #[.slice a n c] 26 (0, 0))).heap.size = w.heap.size + 1 := by simp
  have HN := Lib.hid h.1
  have HL := Lib.hid fun (wx : World) (hx : Below w.heap.size w wx) => (h.below hx (Nat.le_refl _)).le hx.size
  have HMO := Lib.hid fun (wx : World) (hx : Below w.heap.size w wx) => implModelOk_d wx [.slice a n c] m (shModel_reads.2 ⟨a, n, c, rfl, hc1, hc2, HL.out wx hx⟩) hb
  have HMC := Lib.hid fun (wx : World) (hx : Below w.heap.size w wx) => implMaxCost_c wx a n c m (HL.out wx hx) hc1 hc2 hb
  have A0 := Lib.hid hal
  have K0 := Lib.hid hk0
  clear h hal hk0
  obtain ⟨mo, hmo⟩ : ∃ mo, modelOkB m = mo := ⟨_, rfl⟩
  simp only [hmo] at HMO
  have z0 := box1 K0.out
  gi_wp2
  generalize w.alloc (.cells #[.slice a n c] 26 (0, 0)) = wa at A0 K0 z0 hs0 ⊢
  refine ⟨trivial, ?_⟩
  refine (callsIn_wide.2 (HMO.out wa A0.out)).mono ?_
  rintro e w1 ⟨rfl, hb1⟩
  have hs1 := hb1.size
  have K1 := Lib.hid ((hb1.block w.heap.size (by omega)).trans K0.out)
  have A1 := Lib.hid (A0.out.trans (hb1.mono (by omega)))
  clear hb1 z0 HMO
  cases mo
  · have hno : bestB m s = false := by unfold bestB; rw [hmo]; rfl
    have hnc : bestC m s = [] := by unfold bestC; rw [hno]; rfl
    have HNO := Lib.hid hno
    have HNC := Lib.hid hnc
    clear hno hnc hmo
    gi_wp2
    exact marks_ret rfl (results_tmp2 rfl _ _ _) ⟨.slice none 0 0, by rw [HNO.out]; rfl, by rw [HNC.out]; exact Row.nil _ _, A1.out⟩
  · obtain ⟨he1, he2⟩ := best_end (s := s) hmo
    have HE1 := Lib.hid he1
    have HE2 := Lib.hid he2
    clear he1 he2 hmo
    have hA3 := (((Below.refl w1.heap.size w1).alloc (Nat.le_refl _) (.cells #[.slice none 0 0] 29 (0, 0))).alloc (by simp) (.cells #[.int .i64 0] 3 (0, 0))).alloc (by simp; omega) (.cells #[.bool false] 4 (0, 0))
    have b6 := ((Boxed.new w1 29 (.slice none 0 0)).alloc (.cells #[.int .i64 0] 3 (0, 0))).alloc (.cells #[.bool false] 4 (0, 0))
    have b7 : Boxed (((w1.alloc (.cells #[.slice none 0 0] 29 (0, 0))).alloc (.cells #[.int .i64 0] 3 (0, 0))).alloc (.cells #[.bool false] 4 (0, 0))) (w1.heap.size + 1) 3 (.int .i64 0) := by
      have := (Boxed.new (w1.alloc (.cells #[.slice none 0 0] 29 (0, 0))) 3 (.int .i64 0)).alloc (.cells #[.bool false] 4 (0, 0))
      rw [World.size_alloc] at this
      exact this
    have b8 : Boxed (((w1.alloc (.cells #[.slice none 0 0] 29 (0, 0))).alloc (.cells #[.int .i64 0] 3 (0, 0))).alloc (.cells #[.bool false] 4 (0, 0))) (w1.heap.size + 1 + 1) 4 (.bool false) := by
      have := Boxed.new ((w1.alloc (.cells #[.slice none 0 0] 29 (0, 0))).alloc (.cells #[.int .i64 0] 3 (0, 0))) 4 (.bool false)
      rw [World.size_alloc, World.size_alloc] at this
      exact this
    have hs3 : (((w1.alloc (.cells #[.slice none 0 0] 29 (0, 0))).alloc (.cells #[.int .i64 0] 3 (0, 0))).alloc (.cells #[.bool false] 4 (0, 0))).heap.size = w1.heap.size + 3 := by simp
    have B6 := Lib.hid b6
    have B7 := Lib.hid b7
    have B8 := Lib.hid b8
    have A3 := Lib.hid hA3
    have hs3' := Lib.hid hs3
    clear b6 b7 b8 hA3 hs3
    have z1 := box1 K1.out
    gi_upto_region 5 with fail
    generalize ((w1.alloc (.cells #[.slice none 0 0] 29 (0, 0))).alloc (.cells #[.int .i64 0] 3 (0, 0))).alloc (.cells #[.bool false] 4 (0, 0)) = wb at B6 B7 B8 A3 hs3' ⊢
    have hs3 := hs3'.out
    have K3 := Lib.hid ((A3.out.block w.heap.size (by omega)).trans K1.out)
    clear z1 hs3'
    have z3 := box1 K3.out
    gi_wp2
    refine ⟨trivial, ?_⟩
    refine (waysToCut_in _ _ _ _).mono ?_
    rintro e w' ⟨rfl, rfl⟩
    obtain ⟨S, hS⟩ : ∃ S, w1.heap.size = S := ⟨_, rfl⟩
    have hB := ((Below.refl wb.heap.size wb).alloc (Nat.le_refl _) (.cells #[.int .i64 (n : Int)] 3 (0, 0))).alloc (by simp) (.cells #[.int .i64 s] 3 (0, 0))
    have b6 := (B6.out.alloc (.cells #[.int .i64 (n : Int)] 3 (0, 0))).alloc (.cells #[.int .i64 s] 3 (0, 0))
    have b7 := (B7.out.alloc (.cells #[.int .i64 (n : Int)] 3 (0, 0))).alloc (.cells #[.int .i64 s] 3 (0, 0))
    have b8 := (B8.out.alloc (.cells #[.int .i64 (n : Int)] 3 (0, 0))).alloc (.cells #[.int .i64 s] 3 (0, 0))
    have b9 : Boxed ((wb.alloc (.cells #[.int .i64 (n : Int)] 3 (0, 0))).alloc (.cells #[.int .i64 s] 3 (0, 0))) (w1.heap.size + 3) 3 (.int .i64 (n : Int)) := by
      have := (Boxed.new wb 3 (.int .i64 (n : Int))).alloc (.cells #[.int .i64 s] 3 (0, 0))
      rw [hs3] at this
      exact this
    have b10 : Boxed ((wb.alloc (.cells #[.int .i64 (n : Int)] 3 (0, 0))).alloc (.cells #[.int .i64 s] 3 (0, 0))) (w1.heap.size + 3 + 1) 3 (.int .i64 s) := by
      have := Boxed.new (wb.alloc (.cells #[.int .i64 (n : Int)] 3 (0, 0))) 3 (.int .i64 s)
      rw [World.size_alloc, hs3] at this
      exact this
    have hs5 : ((wb.alloc (.cells #[.int .i64 (n : Int)] 3 (0, 0))).alloc (.cells #[.int .i64 s] 3 (0, 0))).heap.size = w1.heap.size + 5 := by simp; omega
    have A5 := A3.out.trans (hB.mono (by omega))
    rw [hs3, hS]
    rw [hS] at b6 b7 b8 b9 b10 hs5 A5 hs1
    clear hB B6 B7 B8 A3 z3 K3
    gi_wp2
    generalize (wb.alloc (.cells #[.int .i64 (n : Int)] 3 (0, 0))).alloc (.cells #[.int .i64 s] 3 (0, 0)) = W0 at b6 b7 b8 b9 b10 hs5 A5 ⊢
    have hI0 : BestInv w1 (W0.heap.size + 3) S m s [] W0 := ⟨⟨_, b6, Row.nil _ _⟩, b7, b8, A5, by rw [HN.out]; exact b9, b10⟩
    clear b6 b7 b8
    refine wpIn_rowsIter rfl (by omega) (gf := 63) (lb := #[.pointer (some ⟨S + 3, 0, none⟩), .pointer (some ⟨S + 3 + 1, 0, none⟩)]) rfl trivial (enters_of Try.func63 (by kernel_rfl) rfl)
      (Kp := KeepB S (S + 3) (S + 3 + 1))
      (ways1_given _ (by omega) (S + 3) (S + 3 + 1) n s (KeepB S (S + 3) (S + 3 + 1)) (fun X Y h => h.2) W0 _ _ b9 b10 _)
      keepB_t (keepB_b (by omega) (by omega) (by omega)) (Below.refl _ _) rfl
      (BestInv w1 (W0.heap.size + 3) S m s) (bestInv_own (by omega) (by omega)) hI0 ?a1 ?assign ?body ?done
    case assign =>
      intro l x W K hK
      gi_wp2
      exact hK
    case body =>
      rintro l pre v U0 U1 ⟨⟨u, h1, h2⟩, h3, h4, h5, h6, h7⟩ hsU hB hrow hlen
      obtain ⟨k, hk⟩ : ∃ k, pre.length = k := ⟨_, rfl⟩
      have hk' : (pre ++ [v]).length = k + 1 := by rw [List.length_append, hk]; rfl
      rw [hk] at h2 h3 h4 hrow
      have hsB := hB.size
      obtain ⟨x, hx⟩ : ∃ x, wayAt (n : Int) s k = x := ⟨_, rfl⟩
      have hx7 := way_short (n : Int) s k
      have hup := best_up (m := m) (s := s) (k := k)
      have hst := best_stay (m := m) (s := s) (k := k)
      rw [HN.out] at hup hst
      rw [hx] at hx7 hrow hup hst
      obtain ⟨M, hM⟩ : ∃ M, maxC m x = M := ⟨_, rfl⟩
      obtain ⟨L, hL⟩ : ∃ L, leastK m s k = L := ⟨_, rfl⟩
      obtain ⟨ar, cr, rfl, -⟩ := hrow.form
      have hin : IntsIn U1.heap.size U1 ar x.length x := hrow.ints rfl (by omega)
      have hA := h5.trans (hB.mono (by omega))
      have hc := HMC.out U1 (A1.out.trans (hA.mono (by omega))) ar x.length cr x hin
      rw [hM] at hc hup hst
      rw [hL] at h3 hup hst
      have HC := Lib.hid hc
      have HUP := Lib.hid hup
      have HST := Lib.hid hst
      have HK' := Lib.hid hk'
      have HA := Lib.hid hA
      have HR := Lib.hid (hrow.le hsU)
      have HQ := Lib.hid (h2.below hB)
      have hk1 := box1 ((hB.block _ (by omega)).trans ((h5.block w.heap.size (by omega)).trans K1.out))
      have g6 : Boxed U1 S 29 u := (hB.block _ h1.lt).trans h1
      have g7 : Boxed U1 (S + 1) 3 (.int .i64 L) := (hB.block _ h3.lt).trans h3
      have g8 : Boxed U1 (S + 1 + 1) 4 (.bool (decide (0 < k))) := (hB.block _ h4.lt).trans h4
      have g9 : Boxed U1 (S + 3) 3 (.int .i64 (m.length : Int)) := (hB.block _ h6.lt).trans h6
      have g10 : Boxed U1 (S + 3 + 1) 3 (.int .i64 s) := (hB.block _ h7.lt).trans h7
      have hsU1 : W0.heap.size + 3 ≤ U1.heap.size := by omega
      have HG6 := Lib.hid g6
      have HG7 := Lib.hid g7
      have HG8 := Lib.hid g8
      have HG9 := Lib.hid g9
      have HG10 := Lib.hid g10
      obtain ⟨d, hd⟩ : ∃ d, decide (0 < k) = d := ⟨_, rfl⟩
      rw [hd] at HG8
      have HD := Lib.hid hd
      obtain ⟨nr, hnr⟩ : ∃ nr, x.length = nr := ⟨_, rfl⟩
      rw [hnr] at HC HR HK' ⊢
      clear h1 h2 h3 h4 h5 h6 h7 hB hrow hin hA hc hup hst hM hL hx hx7 g6 g7 g8 g9 g10 hd hk' hk hlen hsB hnr b9 b10
      gi_wp2
      refine ⟨trivial, ?_⟩
      refine (CallsIn.inRound l (callsIn_wide.2 HC.out)).mono ?_
      rintro e wc ⟨rfl, hb⟩
      have hsc := hb.size
      have e6 : Boxed wc S 29 u := (hb.block _ (by omega)).trans HG6.out
      have e7 : Boxed wc (S + 1) 3 (.int .i64 L) := (hb.block _ (by omega)).trans HG7.out
      have e8 : Boxed wc (S + 1 + 1) 4 (.bool d) := (hb.block _ (by omega)).trans HG8.out
      have e9 : Boxed wc (S + 3) 3 (.int .i64 (m.length : Int)) := (hb.block _ (by omega)).trans HG9.out
      have e10 : Boxed wc (S + 3 + 1) 3 (.int .i64 s) := (hb.block _ (by omega)).trans HG10.out
      have HR' := Lib.hid (HR.out.below hb)
      have HQ' := Lib.hid (HQ.out.below hb)
      have HB := Lib.hid hb
      have E6 := Lib.hid e6
      have E7 := Lib.hid e7
      have E8 := Lib.hid e8
      have E9 := Lib.hid e9
      have E10 := Lib.hid e10
      have c7 := e7.cell
      have c8 := e8.cell
      have c6 := e6.cell
      have f6 := e6.frozen
      have f7 := e7.frozen
      have f8 := e8.frozen
      clear hb hk1 e6 e7 e8 e9 e10
      cases d
      · have hk0 : k = 0 := by have := of_decide_eq_false HD.out; omega
        have HU := Lib.hid (HUP.out (.inl hk0))
        clear hk0
        gi_wp2
        have q := best_round (S := S) (B := W0.heap.size) HB.out (.slice ar nr cr) (.int .i64 M) (.bool true) (by omega) hsU1
        refine ⟨q.1, q.2.1, q.2.2, ⟨⟨_, ((E6.out.set _).other (by omega) _).other (by omega) _, ?_⟩, ?_, ?_, HA.out.trans q.2.2.1, ((E9.out.other (by omega) _).other (by omega) _).other (by omega) _, ((E10.out.other (by omega) _).other (by omega) _).other (by omega) _⟩⟩
        · rw [HK'.out, HU.out.1]
          exact row_set8 (row_set8 (row_set8 HR'.out S (by omega) _) (S + 1) (by omega) _) (S + 1 + 1) (by omega) _
        · rw [HK'.out, HU.out.2]
          exact ((E7.out.other (by omega) _).set _).other (by omega) _
        · rw [HK'.out, show decide (0 < k + 1) = true from decide_eq_true (Nat.succ_pos k)]
          exact ((E8.out.other (by omega) _).other (by omega) _).set _
      · have hk0 : k ≠ 0 := by have := of_decide_eq_true HD.out; omega
        by_cases hML : M < L
        · have HU := Lib.hid (HUP.out (.inr hML))
          have hml : decide (M < L) = true := decide_eq_true hML
          clear hk0
          gi_wp2
          have q := best_round (S := S) (B := W0.heap.size) HB.out (.slice ar nr cr) (.int .i64 M) (.bool true) (by omega) hsU1
          refine ⟨q.1, q.2.1, q.2.2, ⟨⟨_, ((E6.out.set _).other (by omega) _).other (by omega) _, ?_⟩, ?_, ?_, HA.out.trans q.2.2.1, ((E9.out.other (by omega) _).other (by omega) _).other (by omega) _, ((E10.out.other (by omega) _).other (by omega) _).other (by omega) _⟩⟩
          · rw [HK'.out, HU.out.1]
            exact row_set8 (row_set8 (row_set8 HR'.out S (by omega) _) (S + 1) (by omega) _) (S + 1 + 1) (by omega) _
          · rw [HK'.out, HU.out.2]
            exact ((E7.out.other (by omega) _).set _).other (by omega) _
          · rw [HK'.out, show decide (0 < k + 1) = true from decide_eq_true (Nat.succ_pos k)]
            exact ((E8.out.other (by omega) _).other (by omega) _).set _
        · have HU := Lib.hid (HST.out hk0 (by omega))
          have hml : decide (M < L) = false := decide_eq_false hML
          clear hk0
          gi_wp2
          have q := best_still (S := S) (B := W0.heap.size) HB.out (by omega) hsU1
          refine ⟨q.1, q.2.1, q.2.2, ⟨⟨_, E6.out, ?_⟩, ?_, ?_, HA.out.trans q.2.2.1, E9.out, E10.out⟩⟩
          · rw [HK'.out, HU.out.1]
            exact HQ'.out
          · rw [HK'.out, HU.out.2]
            exact E7.out
          · rw [HK'.out, show decide (0 < k + 1) = true from decide_eq_true (Nat.succ_pos k)]
            exact E8.out
    case done =>
      rintro xs W hx ⟨⟨u, h1, h2⟩, h3, h4, h5, h6, h7⟩ hK
      rw [hx] at h2 h4
      have c6 := h1.cell
      have c8 := h4.cell
      have HK := Lib.hid hK
      have H2 := Lib.hid h2
      have H5 := Lib.hid h5
      clear h1 h2 h3 h4 h5 h6 h7 hK hx b9 b10
      gi_wp2
      gi_quiet (fail)
      have hK' : (W.drewN nq).heap[W0.heap.size]? = some (.deferred (some [])) := HK.out
      have hB' : Below w.heap.size w (W.drewN nq) := A1.out.trans ((H5.out.mono (by omega)).trans ⟨rfl, rfl, rfl, Nat.le_refl _, fun _ _ => rfl⟩)
      have hR' : Row (W0.heap.size + 3) (W.drewN nq) u (bestRow m s (waysI (n : Int) s).length) := H2.out
      gi_wp2
      refine marks_ret1 rfl hK' (results_tmp2 rfl _ _ _) ⟨u, ?_, ?_, below_put hB' (by omega) hK' _⟩
      · rw [HE2.out, HN.out]
        rfl
      · rw [HE1.out, HN.out]
        exact ((show Row _ _ _ _ from ownsRow_putObj hR' _ hK' rfl) : Row (W0.heap.size + 3) _ _ _).le (by omega)
end Go.Proofs.Ytkmcfbopilieeaa

end
