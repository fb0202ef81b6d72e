/-
  The model's functions on cuts.
-/
import Derived.Test.YtkflinobmagiiaaJoin33
import Derived.Test.YtkflinobmagiiaaJoin22
namespace Go.Proofs.Ytkflinobmagiiaa
open Go.RowKit Go.Sort
set_option linter.unusedVariables false

theorem cutSpec_no {n : Nat} {l : List Int} {k : Nat} (hall : ∀ j, j < k → cutAt n l j = true) (h : inB 1 ((n : Int) - 1) (l.getD k 0) = false) : cutAt n l k = false := by
  by_cases h1 : l.getD k 0 ≤ prevC l k
  · exact cutAt_low h1
  · by_cases h2 : (n : Int) ≤ l.getD k 0
    · exact cutAt_high h2
    · have h3 := cuts_rise hall k (Nat.le_refl _)
      rw [inB_yes (by omega) (by omega)] at h
      cases h
theorem cutSpec_zero {n : Nat} {l : List Int} (h : inB 1 ((n : Int) - 1) (l.getD 0 0) = true) : cutAt n l 0 = true := by
  have := inB_has h
  exact cutAt_yes (by rw [prevC_zero]; omega) (by omega)
theorem cutSpec_succ {n : Nat} {l : List Int} {j k : Nat} (hk : k = j + 1) (h : inB 1 ((n : Int) - 1) (l.getD k 0) = true) (h1 : l.getD j 0 < l.getD k 0) : cutAt n l k = true := by
  have := inB_has h
  subst hk
  exact cutAt_yes (by rw [prevC_succ]; exact h1) (by omega)
theorem cutSpec_low {n : Nat} {l : List Int} {j k : Nat} (hk : k = j + 1) (h1 : l.getD k 0 ≤ l.getD j 0) : cutAt n l k = false := by
  subst hk
  exact cutAt_low (by rw [prevC_succ]; exact h1)

set_option maxRecDepth 100000 in
set_option maxHeartbeats 3200000 in
theorem specCutsOk_c (w : World) (a : Option Addr) (n c : Nat) (m : List dOp) (h : ListAt shOp (Under w.heap.size) w a n m) (hc1 : n ≤ c) (hc2 : c ≤ 9223372036854775807) (hb : (Shape.list shOp).bulk m ≤ 1048576)
    (a' : Option Addr) (n' c' : Nat) (l : List Int) (h' : IntsIn w.heap.size w a' n' l) :
    Calls Try.prog 45 #[.agg #[.slice a n c], .slice a' n' c'] w fun e w' => e = .returned (.bool (cutsOkB m l)) ∧ Below w.heap.size w w' := by
  have hbk := bulk_list shOp h
  have hb2 := hb
  rw [hbk] at hb2
  have hn1 : n ≤ 1048576 := by omega
  have hr' := h'.room
  have hl' := h'.len
  have hln := h.1
  have hal : Below w.heap.size w (w.alloc (.cells #[.slice a n c] 26 (0, 0))) := (Below.refl _ _).alloc (Nat.le_refl _) _
  have hb0 := heap_alloc_new w (.cells #[.slice a n c] 26 (0, 0))
  have hs0 : w.heap.size < (w.alloc (.cells #[.slice a n c] 26 (0, 0))).heap.size := by simp
  have HM := Lib.hid fun (w1 : World) (hb1 : Below w.heap.size w w1) => specModelOk_c w1 a n c m ((h.below hb1 (Nat.le_refl _)).le hb1.size) hc1 hc2 hb
  have HL := Lib.hid h'
  have HA := Lib.hid hal
  have HB0 := Lib.hid hb0
  have HN := Lib.hid hln
  have HN' := Lib.hid hl'
  obtain ⟨d, hd⟩ : ∃ d, d = cutsOkB m l := ⟨_, rfl⟩
  rw [← hd]
  have HD := Lib.hid hd
  obtain ⟨N1, hN1⟩ : ∃ N1, (n : Int) - 1 = N1 := ⟨_, rfl⟩
  have hw0 : wrap64 ((n : Int) - 1) = N1 := by rw [IntWalk.wrap64_in _ (by omega)]; exact hN1
  have hw1 : IntKind.i64.wrap ((n : Int) - 1) = N1 := by rw [IntKind.wrap_i64]; omega
  have HN1 := Lib.hid hN1
  clear h h' hb hb2 hal hb0 hbk hd hl' hln hN1
  go_enter Try.func45, Try.ntmps45
  go_wp2_with fail
  generalize w.alloc (.cells #[.slice a n c] 26 (0, 0)) = wa at HA HB0 hs0 ⊢
  go_loopw [5] (fun i wr => ∃ k : Nat, k ≤ n' ∧ i = .int .i64 k ∧ Hid (∀ j, j < k → cutAt n l j = true) ∧ Below wa.heap.size wa wr) (fun i _ => n' - (intOf i).toNat)
  case atStart => exact ⟨0, Nat.zero_le _, rfl, Lib.hid fun j hj => absurd hj (Nat.not_lt_zero _), Below.refl _ _⟩
  case round =>
    obtain ⟨k, hk, rfl, hall, hbw⟩ := hrel
    have hsz := hbw.size
    have hbx := box1 ((hbw.block w.heap.size hs0).trans HB0.out)
    have hww : Below w.heap.size w wr := HA.out.trans (hbw.mono HA.out.size)
    by_cases hlt : k < n'
    · obtain ⟨b, o, rfl, hbB, hc0⟩ := HL.out.cells k hlt
      obtain ⟨X, hX⟩ : ∃ X, X = l.getD k 0 := ⟨_, rfl⟩
      rw [← hX] at hc0
      have hcell := (hww.cell (p := ⟨b, o + k, none⟩) hbB).trans hc0
      obtain ⟨p, hp⟩ : ∃ p, inB 1 N1 X = p := ⟨_, rfl⟩
      have hT := fun w => l1In_any X 1 N1 w
      rw [hp] at hT
      have HT := Lib.hid hT
      have HX := Lib.hid hX
      have HP := Lib.hid hp
      have HBW := Lib.hid hbw
      clear hT hX hp hc0 hbw hww
      cases p
      · have hdf : d = false := by
          rw [HD.out]
          refine cutsOk_r (cutsB_no (k := k) (by rw [HN'.out]; exact hlt) ?_)
          rw [HN.out]
          refine cutSpec_no hall.out ?_
          rw [← HX.out, HN1.out]
          exact HP.out
        subst hdf
        go_wp2_with fail
        go_quiet ((go_at_call 41; refine Calls.quiet_of_same ((HT.out _).mono fun e w' ⟨he, hw⟩ => ⟨he, hw.symm⟩)))
        have HQ : Hid (Below wa.heap.size wa (wr.drewN nq)) := Lib.hid (HBW.out.trans ⟨rfl, rfl, rfl, Nat.le_refl _, fun _ _ => rfl⟩)
        generalize wr.drewN nq = wq at HQ ⊢
        go_wp2_with fail
        go_ret
        exact ⟨rfl, HA.out.trans (HQ.out.mono HA.out.size)⟩
      · by_cases k0 : k = 0
        · have hgt : decide ((k : Int) > 0) = false := decide_eq_false (by omega)
          have h0k : ¬ 0 < k := by omega
          have HOK : Hid (cutAt n l k = true) := Lib.hid (by
            have h1 := HP.out
            rw [HX.out, ← HN1.out, k0] at h1
            rw [k0]
            exact cutSpec_zero h1)
          clear k0
          go_wp2_with fail
          go_quiet ((go_at_call 41; refine Calls.quiet_of_same ((HT.out _).mono fun e w' ⟨he, hw⟩ => ⟨he, hw.symm⟩)))
          have HQ : Hid (Below wa.heap.size wa (wr.drewN nq)) := Lib.hid (HBW.out.trans ⟨rfl, rfl, rfl, Nat.le_refl _, fun _ _ => rfl⟩)
          generalize wr.drewN nq = wq at HQ ⊢
          go_wp2_with fail
          go_round
          case rel =>
            refine ⟨k + 1, by omega, by go_num, Lib.hid fun j hj => ?_, HQ.out⟩
            by_cases e : j = k
            · rw [e]; exact HOK.out
            · exact hall.out j (by omega)
          case measure => simp [intOf]; omega
        · obtain ⟨j, hj⟩ : ∃ j, k = j + 1 := ⟨k - 1, by omega⟩
          have hgt : decide ((k : Int) > 0) = true := decide_eq_true (by omega)
          have h0k : 0 < k := by omega
          have hv1 : wrap64 ((k : Int) - 1) = (j : Int) := by rw [IntWalk.wrap64_in _ (by omega)]; omega
          have hv2 : IntKind.i64.wrap ((k : Int) - 1) = (j : Int) := by rw [IntKind.wrap_i64]; omega
          have hjn : j < n' := by omega
          obtain ⟨b', o', eb, hbB', hc1'⟩ := HL.out.cells j hjn
          cases eb
          obtain ⟨Y, hY⟩ : ∃ Y, Y = l.getD j 0 := ⟨_, rfl⟩
          rw [← hY] at hc1'
          have hcell' := ((HA.out.trans (HBW.out.mono HA.out.size)).cell (p := ⟨b, o + j, none⟩) hbB').trans hc1'
          have HY := Lib.hid hY
          have HJ := Lib.hid hj
          clear hY hj hc1' k0
          by_cases hxy : X ≤ Y
          · have hle : decide (X ≤ Y) = true := decide_eq_true hxy
            have hdf : d = false := by
              rw [HD.out]
              refine cutsOk_r (cutsB_no (k := k) (by rw [HN'.out]; exact hlt) ?_)
              rw [HN.out]
              exact cutSpec_low HJ.out (by rw [← HX.out, ← HY.out]; exact hxy)
            subst hdf
            go_wp2_with fail
            go_quiet ((go_at_call 41; refine Calls.quiet_of_same ((HT.out _).mono fun e w' ⟨he, hw⟩ => ⟨he, hw.symm⟩)))
            have HQ : Hid (Below wa.heap.size wa (wr.drewN nq)) := Lib.hid (HBW.out.trans ⟨rfl, rfl, rfl, Nat.le_refl _, fun _ _ => rfl⟩)
            generalize wr.drewN nq = wq at HQ ⊢
            go_wp2_with fail
            go_ret
            exact ⟨rfl, HA.out.trans (HQ.out.mono HA.out.size)⟩
          · have hle : decide (X ≤ Y) = false := decide_eq_false hxy
            have HOK : Hid (cutAt n l k = true) := Lib.hid (by
              have h1 := HP.out
              rw [HX.out, ← HN1.out] at h1
              exact cutSpec_succ HJ.out h1 (by rw [← HX.out, ← HY.out]; omega))
            go_wp2_with fail
            go_quiet ((go_at_call 41; refine Calls.quiet_of_same ((HT.out _).mono fun e w' ⟨he, hw⟩ => ⟨he, hw.symm⟩)))
            have HQ : Hid (Below wa.heap.size wa (wr.drewN nq)) := Lib.hid (HBW.out.trans ⟨rfl, rfl, rfl, Nat.le_refl _, fun _ _ => rfl⟩)
            generalize wr.drewN nq = wq at HQ ⊢
            go_wp2_with fail
            go_round
            case rel =>
              refine ⟨k + 1, by omega, by go_num, Lib.hid fun i hi => ?_, HQ.out⟩
              by_cases e : i = k
              · rw [e]; exact HOK.out
              · exact hall.out i (by omega)
            case measure => simp [intOf]; omega
    · obtain rfl : k = n' := by omega
      have HC := HM.out wr hww
      have hdd : modelOkB m = d := by
        rw [HD.out]
        unfold cutsOkB
        rw [cutsB_all fun j hj => by rw [HN.out]; exact hall.out j (by rw [← HN'.out]; exact hj), Bool.and_true]
      rw [hdd] at HC
      have HE := Lib.hid HC
      have HWW := Lib.hid hww
      clear HC hdd hbw hww
      go_wp2_with fail
      refine HE.out.mono ?_
      rintro e w' ⟨rfl, hb⟩
      have HW := Lib.hid (HWW.out.trans (hb.mono HWW.out.size))
      clear hb
      go_wp2_with fail
      go_ret
      exact ⟨rfl, HW.out⟩
set_option maxRecDepth 100000 in
set_option maxHeartbeats 3200000 in
theorem specStageRange_c (w : World) (a : Option Addr) (n c : Nat) (m : List dOp) (h : ListAt shOp (Under w.heap.size) w a n m) (hc1 : n ≤ c) (hc2 : c ≤ 9223372036854775807) (hb : (Shape.list shOp).bulk m ≤ 1048576)
    (a' : Option Addr) (n' c' : Nat) (l : List Int) (h' : IntsIn w.heap.size w a' n' l) (s : Int) :
    Calls Try.prog 40 #[.agg #[.slice a n c], .slice a' n' c', .int .i64 s] w fun e w' => e = .returned (.tuple #[.int .i64 (fromC m l s), .int .i64 (toC m l s)]) ∧ Below w.heap.size w w' := by
  have hr' := h'.room
  have hal : Below w.heap.size w (w.alloc (.cells #[.slice a n c] 26 (0, 0))) := (Below.refl _ _).alloc (Nat.le_refl _) _
  have hb0 := heap_alloc_new w (.cells #[.slice a n c] 26 (0, 0))
  have hs0 : w.heap.size < (w.alloc (.cells #[.slice a n c] 26 (0, 0))).heap.size := by simp
  have hbx := box1 hb0
  have HC := Lib.hid (specCutsOk_c _ a n c m ((h.below hal (Nat.le_refl _)).le hal.size) hc1 hc2 hb a' n' c' l ((h'.below hal (Nat.le_refl _)).le hal.size))
  have HL := Lib.hid h'
  have HA := Lib.hid hal
  have HB0 := Lib.hid hb0
  have HN := Lib.hid h.1
  have HN' := Lib.hid h'.len
  obtain ⟨d, hd⟩ : ∃ d, cutsOkB m l = d := ⟨_, rfl⟩
  rw [hd] at HC
  have HD := Lib.hid hd
  obtain ⟨F, hF⟩ : ∃ F, fromC m l s = F := ⟨_, rfl⟩
  obtain ⟨T, hT⟩ : ∃ T, toC m l s = T := ⟨_, rfl⟩
  rw [hF, hT]
  have HF := Lib.hid hF
  have HT := Lib.hid hT
  clear h h' hb hal hb0 hd hF hT
  cases d
  · have hz := stage_no (stageB_l (s := s) HD.out)
    obtain rfl : F = 0 := by rw [← HF.out]; exact hz.1
    obtain rfl : T = 0 := by rw [← HT.out]; exact hz.2
    clear hz
    go_enter Try.func40, Try.ntmps40
    go_wp2_with fail
    refine HC.out.mono ?_
    rintro e w1 ⟨rfl, hb⟩
    have HB := Lib.hid (HA.out.trans (hb.mono HA.out.size))
    clear hb
    go_wp2_with fail
    go_ret2
    exact ⟨rfl, HB.out⟩
  · cases hp : inB 0 (n' : Int) s with
    | false =>
      have hz := stage_no (stageB_r (m := m) (by rw [HN'.out]; exact hp))
      obtain rfl : F = 0 := by rw [← HF.out]; exact hz.1
      obtain rfl : T = 0 := by rw [← HT.out]; exact hz.2
      have hI := fun w => l1In_any s 0 (n' : Int) w
      rw [hp] at hI
      have HI := Lib.hid hI
      clear hz hp hI
      go_enter Try.func40, Try.ntmps40
      go_wp2_with fail
      refine HC.out.mono ?_
      rintro e w1 ⟨rfl, hb⟩
      have HB := Lib.hid (HA.out.trans (hb.mono HA.out.size))
      clear hb
      go_wp2_with fail
      refine (HI.out _).mono ?_
      rintro e w2 ⟨rfl, rfl⟩
      go_wp2_with fail
      go_ret2
      exact ⟨rfl, HB.out⟩
    | true =>
      have hI := fun w => l1In_any s 0 (n' : Int) w
      rw [hp] at hI
      have HI := Lib.hid hI
      have hin := inB_has hp
      obtain ⟨j, rfl⟩ : ∃ j : Nat, s = j := ⟨s.toNat, by omega⟩
      have hjn : j ≤ n' := by omega
      have hst := stage_j (j := j) HD.out (by rw [HN'.out]; exact hjn)
      rw [HF.out, HT.out] at hst
      have HST := Lib.hid hst
      clear hp hI hin hst HF HT
      by_cases j0 : j = 0
      · have hgt : decide ((j : Int) > 0) = false := decide_eq_false (by omega)
        have h0j : ¬ 0 < j := by omega
        obtain rfl : F = 0 := by rw [HST.out.1, j0]; rfl
        by_cases hjl : j < n'
        · obtain ⟨b, o, rfl, hbB, hc0⟩ := HL.out.cells j hjl
          rw [← endC_lt (n := m.length) (by rw [HN'.out]; exact hjl), ← HST.out.2] at hc0
          have HCL := Lib.hid fun (w1 : World) (hb : Below w.heap.size w w1) => (hb.cell (p := ⟨b, o + j, none⟩) hbB).trans hc0
          have HJ0 := Lib.hid j0
          clear hc0 j0
          go_enter Try.func40, Try.ntmps40
          go_wp2_with fail
          refine HC.out.mono ?_
          rintro e w1 ⟨rfl, hb⟩
          have hbx1 := box1 ((hb.block w.heap.size hs0).trans HB0.out)
          have HB := Lib.hid (HA.out.trans (hb.mono HA.out.size))
          have hcl := HCL.out w1 HB.out
          clear hb
          go_wp2_with fail
          refine (HI.out _).mono ?_
          rintro e w2 ⟨rfl, rfl⟩
          go_wp2_with fail
          go_ret2
          exact ⟨rfl, HB.out⟩
        · obtain rfl : T = (n : Int) := by rw [HST.out.2, endC_ge (by rw [HN'.out]; exact hjl), HN.out]
          have HJ0 := Lib.hid j0
          clear j0
          go_enter Try.func40, Try.ntmps40
          go_wp2_with fail
          refine HC.out.mono ?_
          rintro e w1 ⟨rfl, hb⟩
          have hbx1 := box1 ((hb.block w.heap.size hs0).trans HB0.out)
          have HB := Lib.hid (HA.out.trans (hb.mono HA.out.size))
          clear hb
          go_wp2_with fail
          refine (HI.out _).mono ?_
          rintro e w2 ⟨rfl, rfl⟩
          go_wp2_with fail
          go_ret2
          exact ⟨rfl, HB.out⟩
      · obtain ⟨i, hi⟩ : ∃ i, j = i + 1 := ⟨j - 1, by omega⟩
        have hgt : decide ((j : Int) > 0) = true := decide_eq_true (by omega)
        have h0j : 0 < j := by omega
        have hv1 : wrap64 ((j : Int) - 1) = (i : Int) := by rw [IntWalk.wrap64_in _ (by omega)]; omega
        have hv2 : IntKind.i64.wrap ((j : Int) - 1) = (i : Int) := by rw [IntKind.wrap_i64]; omega
        have hin : i < n' := by omega
        obtain ⟨b', o', eb', hbB', hc0'⟩ := HL.out.cells i hin
        have eb'2 := eb'
        rw [← prevC_pos hi, ← HST.out.1] at hc0'
        by_cases hjl : j < n'
        · obtain ⟨b, o, rfl, hbB, hc0⟩ := HL.out.cells j hjl
          cases eb'
          rw [← endC_lt (n := m.length) (by rw [HN'.out]; exact hjl), ← HST.out.2] at hc0
          have HCL := Lib.hid fun (w1 : World) (hb : Below w.heap.size w w1) => And.intro ((hb.cell (p := ⟨b', o' + j, none⟩) hbB).trans hc0) ((hb.cell (p := ⟨b', o' + i, none⟩) hbB').trans hc0')
          have HJ0 := Lib.hid hi
          clear hc0 hc0' j0 hi eb'2
          go_enter Try.func40, Try.ntmps40
          go_wp2_with fail
          refine HC.out.mono ?_
          rintro e w1 ⟨rfl, hb⟩
          have hbx1 := box1 ((hb.block w.heap.size hs0).trans HB0.out)
          have HB := Lib.hid (HA.out.trans (hb.mono HA.out.size))
          obtain ⟨hcl, hcl'⟩ := HCL.out w1 HB.out
          clear hb
          go_wp2_with fail
          refine (HI.out _).mono ?_
          rintro e w2 ⟨rfl, rfl⟩
          go_wp2_with fail
          go_ret2
          exact ⟨rfl, HB.out⟩
        · obtain rfl : T = (n : Int) := by rw [HST.out.2, endC_ge (by rw [HN'.out]; exact hjl), HN.out]
          subst eb'2
          have HCL := Lib.hid fun (w1 : World) (hb : Below w.heap.size w w1) => (hb.cell (p := ⟨b', o' + i, none⟩) hbB').trans hc0'
          have HJ0 := Lib.hid hi
          clear hc0' j0 hi
          go_enter Try.func40, Try.ntmps40
          go_wp2_with fail
          refine HC.out.mono ?_
          rintro e w1 ⟨rfl, hb⟩
          have hbx1 := box1 ((hb.block w.heap.size hs0).trans HB0.out)
          have HB := Lib.hid (HA.out.trans (hb.mono HA.out.size))
          have hcl' := HCL.out w1 HB.out
          clear hb
          go_wp2_with fail
          refine (HI.out _).mono ?_
          rintro e w2 ⟨rfl, rfl⟩
          go_wp2_with fail
          go_ret2
          exact ⟨rfl, HB.out⟩
end Go.Proofs.Ytkflinobmagiiaa
