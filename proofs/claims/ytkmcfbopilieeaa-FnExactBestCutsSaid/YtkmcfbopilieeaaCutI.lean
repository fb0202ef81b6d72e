/-
  The program's functions on cuts.
-/
import Derived.Test.YtkmcfbopilieeaaCutM
import Derived.Test.YtkmcfbopilieeaaModI
namespace Go.Proofs.Ytkmcfbopilieeaa
open Go.RowKit Go.Sort
set_option linter.unusedVariables false

theorem cutsI_no {m : List dOp} {l : List Int} {k n' : Nat} (hl : l.length = n') (hk : k < n') (h : cutAt m.length l k = false) : cutsOkB m l = false := cutsOk_r (cutsB_no (by rw [hl]; exact hk) h)
theorem cutsI_yes {m : List dOp} {l : List Int} {n' : Nat} (hl : l.length = n') (hm : modelOkB m = true) (h : ∀ j, j < n' → cutAt m.length l j = true) : cutsOkB m l = true := by
  unfold cutsOkB
  rw [hm, cutsB_all fun j hj => h j (by omega)]
  rfl
set_option maxRecDepth 100000 in
set_option maxHeartbeats 3200000 in
theorem implCutsOk_c (w : World) (a : Option Addr) (n c : Nat) (m : List dOp) (h : ListAt shOp (Under w.heap.size) w a n m) (hc1 : n ≤ c) (hc2 : c ≤ 9223372036854775807) (hb : (Shape.list shOp).bulk m ≤ 1048576)
    (a' : Option Addr) (n' c' : Nat) (l : List Int) (h' : IntsIn w.heap.size w a' n' l) :
    Calls Try.prog 23 #[.agg #[.slice a n c], .slice a' n' c'] w fun e w' => e = .returned (.bool (cutsOkB m l)) ∧ Below w.heap.size w w' := by
  have hr' := h'.room
  have hal : Below w.heap.size w (w.alloc (.cells #[.slice a n c] 26 (0, 0))) := (Below.refl _ _).alloc (Nat.le_refl _) _
  have hb0 := heap_alloc_new w (.cells #[.slice a n c] 26 (0, 0))
  have hs0 : w.heap.size < (w.alloc (.cells #[.slice a n c] 26 (0, 0))).heap.size := by simp
  have hbx := box1 hb0
  have HC := Lib.hid (implModelOk_d _ [.slice a n c] m (shModel_reads.2 ⟨a, n, c, rfl, hc1, hc2, (h.below hal (Nat.le_refl _)).le hal.size⟩) hb)
  have HL := Lib.hid h'
  have HA := Lib.hid hal
  have HB0 := Lib.hid hb0
  have HN := Lib.hid h.1
  have HN' := Lib.hid h'.len
  obtain ⟨d, hd⟩ : ∃ d, modelOkB m = d := ⟨_, rfl⟩
  rw [hd] at HC
  have HD := Lib.hid hd
  obtain ⟨R, hR⟩ : ∃ R, cutsOkB m l = R := ⟨_, rfl⟩
  rw [hR]
  have HR := Lib.hid hR
  clear h h' hb hal hb0 hd hR
  cases d
  · obtain rfl : R = false := by rw [← HR.out]; exact cutsOk_l HD.out
    go_enter Try.func23, Try.ntmps23
    go_wp2_with fail
    refine HC.out.mono ?_
    rintro e w1 ⟨rfl, hb⟩
    have HB := Lib.hid (HA.out.trans (hb.mono HA.out.size))
    clear hb
    go_wp2_with fail
    go_ret
    exact ⟨rfl, HB.out⟩
  · have hn8 : n ≤ 8 := by have := (modelOk_has HD.out).2.2; have := HN.out; omega
    go_enter Try.func23, Try.ntmps23
    go_wp2_with fail
    generalize w.alloc (.cells #[.slice a n c] 26 (0, 0)) = wa at HC HA HB0 hs0 hbx ⊢
    refine HC.out.mono ?_
    rintro e w1 ⟨rfl, hb⟩
    have hs1 : w.heap.size < w1.heap.size := Nat.lt_of_lt_of_le hs0 hb.size
    have HB1 := Lib.hid ((hb.block w.heap.size hs0).trans HB0.out)
    have HW1 := Lib.hid (HA.out.trans (hb.mono HA.out.size))
    clear hb hbx
    go_wp2_with fail
    go_loopw [5, 13] (fun p i wr => ∃ k : Nat, k ≤ n' ∧ i = .int .i64 k ∧ p = .int .i64 (prevC l k) ∧ Hid (∀ j, j < k → cutAt m.length l j = true) ∧ Below w1.heap.size w1 wr) (fun _ i _ => n' - (intOf i).toNat)
    case atStart => exact ⟨0, Nat.zero_le _, rfl, rfl, Lib.hid fun j hj => absurd hj (Nat.not_lt_zero _), Below.refl _ _⟩
    case round =>
      obtain ⟨k, hk, rfl, rfl, hall, hbw⟩ := hrel
      have hsz := hbw.size
      have hbx := box1 ((hbw.block w.heap.size hs1).trans HB1.out)
      have hww : Below w.heap.size w wr := HW1.out.trans (hbw.mono HW1.out.size)
      obtain ⟨A, hA⟩ : ∃ A, prevC l k = A := ⟨_, rfl⟩
      rw [hA]
      by_cases hlt : k < n'
      · obtain ⟨b, o, rfl, hbB, hc0⟩ := HL.out.cells k hlt
        obtain ⟨X, hX⟩ : ∃ X, X = l.getD k 0 := ⟨_, rfl⟩
        rw [← hX] at hc0
        have hcell := (hww.cell (p := ⟨b, o + k, none⟩) hbB).trans hc0
        have HX := Lib.hid hX
        have HA2 := Lib.hid hA
        have HWW := Lib.hid hww
        have HBW := Lib.hid hbw
        clear hX hA hc0 hbw hww
        by_cases h1 : X ≤ A
        · have h1d : decide (X ≤ A) = true := decide_eq_true h1
          obtain rfl : R = false := by rw [← HR.out]; exact cutsI_no HN'.out hlt (cutAt_low (by rw [← HX.out, HA2.out]; exact h1))
          go_wp2_with fail
          go_ret
          exact ⟨rfl, HWW.out⟩
        · have h1d : decide (X ≤ A) = false := decide_eq_false h1
          by_cases h2 : (n : Int) ≤ X
          · have h2d : decide (X ≥ (n : Int)) = true := decide_eq_true h2
            obtain rfl : R = false := by rw [← HR.out]; exact cutsI_no HN'.out hlt (cutAt_high (by rw [← HX.out, HN.out]; exact h2))
            go_wp2_with fail
            go_ret
            exact ⟨rfl, HWW.out⟩
          · have h2d : decide (X ≥ (n : Int)) = false := decide_eq_false h2
            have HOK : Hid (cutAt m.length l k = true) := Lib.hid (cutAt_yes (by rw [← HX.out, HA2.out]; omega) (by rw [← HX.out, HN.out]; omega))
            have HNX : Hid (prevC l (k + 1) = X) := Lib.hid (by rw [prevC_succ]; exact HX.out.symm)
            go_wp2_with fail
            go_roundw
            case rel =>
              refine ⟨k + 1, by omega, by go_num, by rw [HNX.out], Lib.hid fun j hj => ?_, HBW.out⟩
              by_cases e : j = k
              · rw [e]; exact HOK.out
              · exact hall.out j (by omega)
            case measure => simp [intOf]; omega
      · obtain rfl : k = n' := by omega
        obtain rfl : R = true := by rw [← HR.out]; exact cutsI_yes HN'.out HD.out hall.out
        have HWW := Lib.hid hww
        clear hbw hww hA
        go_wp2_with fail
        go_ret
        exact ⟨rfl, HWW.out⟩
set_option maxRecDepth 100000 in
set_option maxHeartbeats 3200000 in
theorem implStageRange_c (w : World) (a : Option Addr) (n c : Nat) (m : List dOp) (h : ListAt shOp (Under w.heap.size) w a n m) (hc1 : n ≤ c) (hc2 : c ≤ 9223372036854775807) (hb : (Shape.list shOp).bulk m ≤ 1048576)
    (a' : Option Addr) (n' c' : Nat) (l : List Int) (h' : IntsIn w.heap.size w a' n' l) (s : Int) :
    Calls Try.prog 24 #[.agg #[.slice a n c], .slice a' n' c', .int .i64 s] w fun e w' => e = .returned (.tuple #[.int .i64 (fromC m l s), .int .i64 (toC m l s)]) ∧ Below w.heap.size w w' := by
  have hr' := h'.room
  have hal : Below w.heap.size w (w.alloc (.cells #[.slice a n c] 26 (0, 0))) := (Below.refl _ _).alloc (Nat.le_refl _) _
  have hb0 := heap_alloc_new w (.cells #[.slice a n c] 26 (0, 0))
  have hs0 : w.heap.size < (w.alloc (.cells #[.slice a n c] 26 (0, 0))).heap.size := by simp
  have hbx := box1 hb0
  have HC := Lib.hid (implCutsOk_c _ a n c m ((h.below hal (Nat.le_refl _)).le hal.size) hc1 hc2 hb a' n' c' l ((h'.below hal (Nat.le_refl _)).le hal.size))
  have HL := Lib.hid h'
  have HA := Lib.hid hal
  have HB0 := Lib.hid hb0
  have HN := Lib.hid h.1
  have HN' := Lib.hid h'.len
  obtain ⟨d, hd⟩ : ∃ d, cutsOkB m l = d := ⟨_, rfl⟩
  rw [hd] at HC
  have HD := Lib.hid hd
  obtain ⟨F, hF⟩ : ∃ F, fromC m l s = F := ⟨_, rfl⟩
  obtain ⟨T, hT⟩ : ∃ T, toC m l s = T := ⟨_, rfl⟩
  rw [hF, hT]
  have HF := Lib.hid hF
  have HT := Lib.hid hT
  clear h h' hb hal hb0 hd hF hT
  cases d
  · have hz := stage_no (stageB_l (s := s) HD.out)
    obtain rfl : F = 0 := by rw [← HF.out]; exact hz.1
    obtain rfl : T = 0 := by rw [← HT.out]; exact hz.2
    clear hz
    go_enter Try.func24, Try.ntmps24
    go_wp2_with fail
    refine HC.out.mono ?_
    rintro e w1 ⟨rfl, hb⟩
    have HB := Lib.hid (HA.out.trans (hb.mono HA.out.size))
    clear hb
    go_wp2_with fail
    go_ret2
    exact ⟨rfl, HB.out⟩
  · cases hp : inB 0 (n' : Int) s with
    | false =>
      have hz := stage_no (stageB_r (m := m) (by rw [HN'.out]; exact hp))
      obtain rfl : F = 0 := by rw [← HF.out]; exact hz.1
      obtain rfl : T = 0 := by rw [← HT.out]; exact hz.2
      clear hz
      by_cases h1 : s < 0
      · have h1d : decide (s < 0) = true := decide_eq_true h1
        clear hp
        go_enter Try.func24, Try.ntmps24
        go_wp2_with fail
        refine HC.out.mono ?_
        rintro e w1 ⟨rfl, hb⟩
        have HB := Lib.hid (HA.out.trans (hb.mono HA.out.size))
        clear hb
        go_wp2_with fail
        go_ret2
        exact ⟨rfl, HB.out⟩
      · have h1d : decide (s < 0) = false := decide_eq_false h1
        have h2 : s > (n' : Int) := by
          by_cases h3 : s > (n' : Int)
          · exact h3
          · rw [inB_yes (by omega) (by omega)] at hp
            cases hp
        have h2d : decide (s > (n' : Int)) = true := decide_eq_true h2
        clear hp
        go_enter Try.func24, Try.ntmps24
        go_wp2_with fail
        refine HC.out.mono ?_
        rintro e w1 ⟨rfl, hb⟩
        have HB := Lib.hid (HA.out.trans (hb.mono HA.out.size))
        clear hb
        go_wp2_with fail
        go_ret2
        exact ⟨rfl, HB.out⟩
    | true =>
      have hin := inB_has hp
      obtain ⟨j, rfl⟩ : ∃ j : Nat, s = j := ⟨s.toNat, by omega⟩
      have hjn : j ≤ n' := by omega
      have hst := stage_j (j := j) HD.out (by rw [HN'.out]; exact hjn)
      rw [HF.out, HT.out] at hst
      have HST := Lib.hid hst
      have hs1d : decide ((j : Int) < 0) = false := decide_eq_false (by omega)
      have hs2d : decide ((j : Int) > (n' : Int)) = false := decide_eq_false (by omega)
      have hs3 : ¬ (n' : Int) < (j : Int) := by omega
      have hs4 : ¬ n' < j := by omega
      clear hp hin hst HF HT
      by_cases j0 : j = 0
      · have hgt : decide ((j : Int) > 0) = false := decide_eq_false (by omega)
        have h0j : ¬ 0 < j := by omega
        obtain rfl : F = 0 := by rw [HST.out.1, j0]; rfl
        by_cases hjl : j < n'
        · obtain ⟨b, o, rfl, hbB, hc0⟩ := HL.out.cells j hjl
          rw [← endC_lt (n := m.length) (by rw [HN'.out]; exact hjl), ← HST.out.2] at hc0
          have HCL := Lib.hid fun (w1 : World) (hb : Below w.heap.size w w1) => (hb.cell (p := ⟨b, o + j, none⟩) hbB).trans hc0
          have HJ0 := Lib.hid j0
          clear hc0 j0
          go_enter Try.func24, Try.ntmps24
          go_wp2_with fail
          refine HC.out.mono ?_
          rintro e w1 ⟨rfl, hb⟩
          have hbx1 := box1 ((hb.block w.heap.size hs0).trans HB0.out)
          have HB := Lib.hid (HA.out.trans (hb.mono HA.out.size))
          clear hb
          go_wp2_with fail
          go_quiet (fail)
          have HBQ : Hid (Below w.heap.size w (w1.drewN nq)) := Lib.hid (HB.out.trans ⟨rfl, rfl, rfl, Nat.le_refl _, fun _ _ => rfl⟩)
          clear hbx1
          have hcl := HCL.out _ HBQ.out
          generalize w1.drewN nq = wq at HBQ hcl ⊢
          go_wp2_with fail
          go_ret2
          exact ⟨rfl, HBQ.out⟩
        · obtain rfl : T = (n : Int) := by rw [HST.out.2, endC_ge (by rw [HN'.out]; exact hjl), HN.out]
          have HJ0 := Lib.hid j0
          clear j0
          go_enter Try.func24, Try.ntmps24
          go_wp2_with fail
          refine HC.out.mono ?_
          rintro e w1 ⟨rfl, hb⟩
          have hbx1 := box1 ((hb.block w.heap.size hs0).trans HB0.out)
          have HB := Lib.hid (HA.out.trans (hb.mono HA.out.size))
          clear hb
          go_wp2_with fail
          go_quiet (fail)
          have HBQ : Hid (Below w.heap.size w (w1.drewN nq)) := Lib.hid (HB.out.trans ⟨rfl, rfl, rfl, Nat.le_refl _, fun _ _ => rfl⟩)
          clear hbx1
          generalize w1.drewN nq = wq at HBQ ⊢
          go_wp2_with fail
          go_ret2
          exact ⟨rfl, HBQ.out⟩
      · obtain ⟨i, hi⟩ : ∃ i, j = i + 1 := ⟨j - 1, by omega⟩
        have hgt : decide ((j : Int) > 0) = true := decide_eq_true (by omega)
        have h0j : 0 < j := by omega
        have hv1 : wrap64 ((j : Int) - 1) = (i : Int) := by rw [IntWalk.wrap64_in _ (by omega)]; omega
        have hv2 : IntKind.i64.wrap ((j : Int) - 1) = (i : Int) := by rw [IntKind.wrap_i64]; omega
        have hin : i < n' := by omega
        obtain ⟨b', o', eb', hbB', hc0'⟩ := HL.out.cells i hin
        have eb'2 := eb'
        rw [← prevC_pos hi, ← HST.out.1] at hc0'
        by_cases hjl : j < n'
        · obtain ⟨b, o, rfl, hbB, hc0⟩ := HL.out.cells j hjl
          cases eb'
          rw [← endC_lt (n := m.length) (by rw [HN'.out]; exact hjl), ← HST.out.2] at hc0
          have HCL := Lib.hid fun (w1 : World) (hb : Below w.heap.size w w1) => And.intro ((hb.cell (p := ⟨b', o' + j, none⟩) hbB).trans hc0) ((hb.cell (p := ⟨b', o' + i, none⟩) hbB').trans hc0')
          have HJ0 := Lib.hid hi
          clear hc0 hc0' j0 hi eb'2
          go_enter Try.func24, Try.ntmps24
          go_wp2_with fail
          refine HC.out.mono ?_
          rintro e w1 ⟨rfl, hb⟩
          have hbx1 := box1 ((hb.block w.heap.size hs0).trans HB0.out)
          have HB := Lib.hid (HA.out.trans (hb.mono HA.out.size))
          clear hb
          go_wp2_with fail
          go_quiet (fail)
          have HBQ : Hid (Below w.heap.size w (w1.drewN nq)) := Lib.hid (HB.out.trans ⟨rfl, rfl, rfl, Nat.le_refl _, fun _ _ => rfl⟩)
          clear hbx1
          obtain ⟨hcl, hcl'⟩ := HCL.out _ HBQ.out
          generalize w1.drewN nq = wq at HBQ hcl hcl' ⊢
          go_wp2_with fail
          go_ret2
          exact ⟨rfl, HBQ.out⟩
        · obtain rfl : T = (n : Int) := by rw [HST.out.2, endC_ge (by rw [HN'.out]; exact hjl), HN.out]
          subst eb'2
          have HCL := Lib.hid fun (w1 : World) (hb : Below w.heap.size w w1) => (hb.cell (p := ⟨b', o' + i, none⟩) hbB').trans hc0'
          have HJ0 := Lib.hid hi
          clear hc0' j0 hi
          go_enter Try.func24, Try.ntmps24
          go_wp2_with fail
          refine HC.out.mono ?_
          rintro e w1 ⟨rfl, hb⟩
          have hbx1 := box1 ((hb.block w.heap.size hs0).trans HB0.out)
          have HB := Lib.hid (HA.out.trans (hb.mono HA.out.size))
          clear hb
          go_wp2_with fail
          go_quiet (fail)
          have HBQ : Hid (Below w.heap.size w (w1.drewN nq)) := Lib.hid (HB.out.trans ⟨rfl, rfl, rfl, Nat.le_refl _, fun _ _ => rfl⟩)
          clear hbx1
          have hcl := HCL.out _ HBQ.out
          generalize w1.drewN nq = wq at HBQ hcl ⊢
          go_wp2_with fail
          go_ret2
          exact ⟨rfl, HBQ.out⟩
set_option maxRecDepth 100000 in
set_option maxHeartbeats 3200000 in
theorem implStageCost_c (w : World) (a : Option Addr) (n c : Nat) (m : List dOp) (h : ListAt shOp (Under w.heap.size) w a n m) (hc1 : n ≤ c) (hc2 : c ≤ 9223372036854775807) (hb : (Shape.list shOp).bulk m ≤ 1048576)
    (a' : Option Addr) (n' c' : Nat) (l : List Int) (h' : IntsIn w.heap.size w a' n' l) (s : Int) :
    Calls Try.prog 25 #[.agg #[.slice a n c], .slice a' n' c', .int .i64 s] w fun e w' => e = .returned (.int .i64 (costC m l s)) ∧ Below w.heap.size w w' := by
  have hbk := bulk_list shOp h
  have hb2 := hb
  rw [hbk] at hb2
  have hn1 : n ≤ 1048576 := by omega
  have hal : Below w.heap.size w (w.alloc (.cells #[.slice a n c] 26 (0, 0))) := (Below.refl _ _).alloc (Nat.le_refl _) _
  have hb0 := heap_alloc_new w (.cells #[.slice a n c] 26 (0, 0))
  have hs0 : w.heap.size < (w.alloc (.cells #[.slice a n c] 26 (0, 0))).heap.size := by simp
  have hbx := box1 hb0
  have HC := Lib.hid (implStageRange_c _ a n c m ((h.below hal (Nat.le_refl _)).le hal.size) hc1 hc2 hb a' n' c' l ((h'.below hal (Nat.le_refl _)).le hal.size) s)
  have HL := Lib.hid h
  have HB := Lib.hid hb2
  have HA := Lib.hid hal
  have HB0 := Lib.hid hb0
  obtain ⟨f, t, ef, et, hft, htn⟩ := range_in m l s
  rw [ef, et] at HC
  rw [h.1] at htn
  obtain ⟨R, hR⟩ : ∃ R, costC m l s = R := ⟨_, rfl⟩
  have hR' : costTo m t - costTo m f = R := by rw [← hR]; unfold costC; rw [ef, et]; rfl
  rw [hR]
  have HR := Lib.hid hR'
  clear h h' hb hb2 hal hb0 hbk hR hR' ef et
  by_cases hcf : c = f
  · obtain rfl : t = f := by omega
    subst hcf
    obtain rfl : R = 0 := by rw [← HR.out]; omega
    go_enter Try.func25, Try.ntmps25
    go_wp2_with fail
    generalize w.alloc (.cells #[.slice a n c] 26 (0, 0)) = wa at HC HA HB0 hs0 hbx ⊢
    refine HC.out.mono ?_
    rintro e w1 ⟨rfl, hb⟩
    have hs1 : w.heap.size < w1.heap.size := Nat.lt_of_lt_of_le hs0 hb.size
    have hbx1 := box1 ((hb.block w.heap.size hs0).trans HB0.out)
    have HW1 := Lib.hid (HA.out.trans (hb.mono HA.out.size))
    clear hb hbx
    go_wp2_with fail
    clear hbx1
    go_loopw [9, 25] (fun q i wr => i = .int .i64 0 ∧ q = .int .i64 0 ∧ Below w1.heap.size w1 wr) (fun _ _ _ => 0)
    case atStart => exact ⟨rfl, rfl, Below.refl _ _⟩
    case round =>
      obtain ⟨rfl, rfl, hbw⟩ := hrel
      have HWW := Lib.hid (HW1.out.trans (hbw.mono HW1.out.size))
      clear hbw
      go_wp2_with fail
      go_ret
      exact ⟨rfl, HWW.out⟩
  · obtain ⟨A, hA⟩ : ∃ A, Option.map (fun x : Addr => x.add (f * 4)) a = A := ⟨_, rfl⟩
    obtain ⟨D, hD⟩ : ∃ D, t - f = D := ⟨_, rfl⟩
    have hD1 : f + D = t := by omega
    have hD2 : D ≤ 1048576 := by omega
    have hDc : D ≤ c - f := by omega
    go_enter Try.func25, Try.ntmps25
    go_wp2_with fail
    generalize w.alloc (.cells #[.slice a n c] 26 (0, 0)) = wa at HC HA HB0 hs0 hbx ⊢
    refine HC.out.mono ?_
    rintro e w1 ⟨rfl, hb⟩
    have hs1 : w.heap.size < w1.heap.size := Nat.lt_of_lt_of_le hs0 hb.size
    have hbx1 := box1 ((hb.block w.heap.size hs0).trans HB0.out)
    have HW1 := Lib.hid (HA.out.trans (hb.mono HA.out.size))
    clear hb hbx
    go_wp2_with fail
    clear hbx1
    have HAA := Lib.hid hA
    clear hA hD
    go_loopw [9, 25] (fun q i wr => ∃ j : Nat, j ≤ D ∧ i = .int .i64 j ∧ q = .int .i64 (costTo m (f + j) - costTo m f) ∧ Below w1.heap.size w1 wr) (fun _ i _ => D - (intOf i).toNat)
    case atStart => exact ⟨0, Nat.zero_le _, rfl, by simp, Below.refl _ _⟩
    case round =>
      obtain ⟨j, hj, rfl, rfl, hbw⟩ := hrel
      have hsz := hbw.size
      have hww : Below w.heap.size w wr := HW1.out.trans (hbw.mono HW1.out.size)
      obtain ⟨S, hS⟩ : ∃ S, costTo m (f + j) - costTo m f = S := ⟨_, rfl⟩
      have hS0 : 0 ≤ S ∧ S ≤ 40000000 := by
        have h1 := costTo_le m (show f ≤ f + j by omega)
        have h2 := costTo_in m (f + j)
        have h3 := costTo_in m f
        omega
      rw [hS]
      by_cases hlt : j < D
      · obtain ⟨x, hx⟩ : ∃ x, m[f + j]? = some x := ⟨_, List.getElem?_eq_getElem (by rw [HL.out.1]; omega)⟩
        obtain ⟨b, o, es, rfl, hbB, hr, hs⟩ := HL.out.2 (f + j) x hx
        obtain rfl : A = some ⟨b, o + f * 4, none⟩ := by rw [← HAA.out]; simp [Addr.add_lit]
        have hrr := rangeAt_kept hr (show b < w.heap.size from hbB) (Kept.of_below (I := Under w.heap.size) hww fun b hb => hb)
        have hsw := shOp.below hs hww (Nat.le_refl _)
        have hbx' : shOp.bulk x ≤ 1048576 := by have h1 := bulk_mem shOp.bulk m (f + j) x hx; have h2 := HB.out; omega
        rw [shOp_bulk, bulk_ints] at hbx'
        obtain ⟨ae, ne, ce, rfl, ge, le, me⟩ := shOp_reads.1 hsw
        have hal2 := (Below.refl wr.heap.size wr).alloc (Nat.le_refl _) (.cells #[.int .i64 x.1, .int .i64 x.2.1, .int .i64 x.2.2.1, .slice ae ne ce] 48 (0, 0))
        have hT := implOpCost_any (wr.alloc (.cells #[.int .i64 x.1, .int .i64 x.2.1, .int .i64 x.2.2.1, .slice ae ne ce] 48 (0, 0))) x.1 x.2.1 x.2.2.1 ae ne ce x.2.2.2 (((me.below (hal2.mono hww.size) (Nat.le_refl _)).ints (by rw [← me.1]; exact hbx')).le (Nat.le_trans hww.size hal2.size)) ge le
        obtain ⟨C, hC⟩ : ∃ C, opCostN x.1 x.2.1 x.2.2.1 x.2.2.2 = C := ⟨_, rfl⟩
        have hC0 : 0 ≤ C ∧ C ≤ 36 := by rw [← hC]; exact opC_in x
        rw [hC] at hT
        have HT := Lib.hid hT
        have hw0 : wrap64 (S + C) = S + C := IntWalk.wrap64_in _ (by omega)
        have HNX : Hid (costTo m (f + (j + 1)) - costTo m f = S + C) := Lib.hid (by
          have h1 : opC x = C := hC
          rw [← Nat.add_assoc, fill_model hx, h1]
          omega)
        have ee : o + (f + j) * 4 = o + f * 4 + j * 4 := by rw [Nat.add_mul]; omega
        rw [shOp_size, ee] at hrr
        have c0 := hrr 0 _ rfl
        have c1 := hrr 1 _ rfl
        have c2 := hrr 2 _ rfl
        have c3 := hrr 3 _ rfl
        simp only [Nat.add_zero] at c0
        have HBW := Lib.hid (hbw.trans (hal2.mono hsz))
        clear hr hrr hs hsw me hx hbx' hww hbw hT hC hS hal2 ee
        go_wp2_with fail
        refine HT.out.mono ?_
        rintro e w2 ⟨rfl, hb⟩
        have HW2 := Lib.hid (HBW.out.trans (hb.mono HBW.out.size))
        clear hb c0 c1 c2 c3
        go_wp2_with fail
        go_roundw
        case rel => exact ⟨j + 1, by omega, by go_num, by rw [HNX.out], HW2.out⟩
        case measure => simp [intOf]; omega
      · obtain rfl : j = D := by omega
        obtain rfl : S = R := by rw [← hS, hD1, HR.out]
        have HWW := Lib.hid hww
        clear hbw hww hS
        go_wp2_with fail
        go_ret
        exact ⟨rfl, HWW.out⟩
set_option maxRecDepth 100000 in
set_option maxHeartbeats 3200000 in
theorem implMaxCost_c (w : World) (a : Option Addr) (n c : Nat) (m : List dOp) (h : ListAt shOp (Under w.heap.size) w a n m) (hc1 : n ≤ c) (hc2 : c ≤ 9223372036854775807) (hb : (Shape.list shOp).bulk m ≤ 1048576)
    (a' : Option Addr) (n' c' : Nat) (l : List Int) (h' : IntsIn w.heap.size w a' n' l) :
    Calls Try.prog 20 #[.agg #[.slice a n c], .slice a' n' c'] w fun e w' => e = .returned (.int .i64 (maxC m l)) ∧ Below w.heap.size w w' := by
  have hr' := h'.room
  have hal : Below w.heap.size w (w.alloc (.cells #[.slice a n c] 26 (0, 0))) := (Below.refl _ _).alloc (Nat.le_refl _) _
  have hb0 := heap_alloc_new w (.cells #[.slice a n c] 26 (0, 0))
  have hs0 : w.heap.size < (w.alloc (.cells #[.slice a n c] 26 (0, 0))).heap.size := by simp
  have hbx := box1 hb0
  have HC := Lib.hid (implCutsOk_c _ a n c m ((h.below hal (Nat.le_refl _)).le hal.size) hc1 hc2 hb a' n' c' l ((h'.below hal (Nat.le_refl _)).le hal.size))
  have HS := Lib.hid fun (w1 : World) (s : Int) (hb1 : Below w.heap.size w w1) => implStageCost_c w1 a n c m ((h.below hb1 (Nat.le_refl _)).le hb1.size) hc1 hc2 hb a' n' c' l ((h'.below hb1 (Nat.le_refl _)).le hb1.size) s
  have HA := Lib.hid hal
  have HB0 := Lib.hid hb0
  have HN' := Lib.hid h'.len
  obtain ⟨d, hd⟩ : ∃ d, cutsOkB m l = d := ⟨_, rfl⟩
  rw [hd] at HC
  have HD := Lib.hid hd
  obtain ⟨R, hR⟩ : ∃ R, maxC m l = R := ⟨_, rfl⟩
  rw [hR]
  have HR := Lib.hid hR
  clear h h' hb hal hb0 hd hR
  cases d
  · obtain rfl : R = 0 := by rw [← HR.out]; exact maxC_no HD.out
    go_enter Try.func20, Try.ntmps20
    go_wp2_with fail
    refine HC.out.mono ?_
    rintro e w1 ⟨rfl, hb⟩
    have HB := Lib.hid (HA.out.trans (hb.mono HA.out.size))
    clear hb
    go_wp2_with fail
    go_ret
    exact ⟨rfl, HB.out⟩
  · obtain rfl : R = maxTo m l (n' + 1) := by rw [← HR.out, maxC_yes HD.out, HN'.out]
    go_enter Try.func20, Try.ntmps20
    go_wp2_with fail
    generalize w.alloc (.cells #[.slice a n c] 26 (0, 0)) = wa at HC HA HB0 hs0 hbx ⊢
    refine HC.out.mono ?_
    rintro e w1 ⟨rfl, hb⟩
    have hs1 : w.heap.size < w1.heap.size := Nat.lt_of_lt_of_le hs0 hb.size
    have HB1 := Lib.hid ((hb.block w.heap.size hs0).trans HB0.out)
    have HW1 := Lib.hid (HA.out.trans (hb.mono HA.out.size))
    clear hb hbx
    go_wp2_with fail
    go_loopw [5, 14] (fun q i wr => ∃ k : Nat, k ≤ n' + 1 ∧ i = .int .i64 k ∧ q = .int .i64 (maxTo m l k) ∧ Below w1.heap.size w1 wr) (fun _ i _ => n' + 1 - (intOf i).toNat)
    case atStart => exact ⟨0, Nat.zero_le _, rfl, rfl, Below.refl _ _⟩
    case round =>
      obtain ⟨k, hk, rfl, rfl, hbw⟩ := hrel
      have hsz := hbw.size
      have hbx := box1 ((hbw.block w.heap.size hs1).trans HB1.out)
      have hww : Below w.heap.size w wr := HW1.out.trans (hbw.mono HW1.out.size)
      obtain ⟨M, hM⟩ : ∃ M, maxTo m l k = M := ⟨_, rfl⟩
      rw [hM]
      by_cases hlt : k ≤ n'
      · have hld : decide ((k : Int) < (n' : Int) + 1) = true := decide_eq_true (by omega)
        have hli : (k : Int) < (n' : Int) + 1 := by omega
        have HWW := Lib.hid hww
        have HBW := Lib.hid hbw
        obtain ⟨C, hC⟩ : ∃ C, costC m l (k : Int) = C := ⟨_, rfl⟩
        have hmx : max M C = if M < C then C else M := by split <;> omega
        have HNX : Hid (maxTo m l (k + 1) = if M < C then C else M) := Lib.hid (by rw [maxTo_succ, hM, hC, hmx])
        have HSS := Lib.hid (HS.out wr (k : Int) hww)
        rw [hC] at HSS
        clear hbw hww hM hC hmx
        go_wp2_with fail
        refine HSS.out.mono ?_
        rintro e w3 ⟨rfl, hb⟩
        have HW3 := Lib.hid (HBW.out.trans (hb.mono HBW.out.size))
        clear hb hbx
        go_wp2_with fail
        go_roundw
        case rel => exact ⟨k + 1, by omega, by go_num, by rw [HNX.out], HW3.out⟩
        case measure => simp [intOf]; omega
      · obtain rfl : k = n' + 1 := by omega
        have hld : decide (((n' + 1 : Nat) : Int) < (n' : Int) + 1) = false := decide_eq_false (by omega)
        have HWW := Lib.hid hww
        clear hbw hww
        go_wp2_with fail
        go_ret
        exact ⟨by rw [hM]; rfl, HWW.out⟩
end Go.Proofs.Ytkmcfbopilieeaa
