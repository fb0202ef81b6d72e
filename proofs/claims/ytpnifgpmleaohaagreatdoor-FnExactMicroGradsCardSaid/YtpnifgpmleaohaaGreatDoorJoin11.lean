import Derived.Test.YtpnifgpmleaohaaGreatDoorJoin10
import Derived.Test.YtpnifgpmleaohaaGreatDoorJoin9
/-! YtpnifgpmleaohaaGreatDoorSeqS -/
section

namespace Go.Proofs.YtpnifgpmleaohaaGreatDoor
open Go.RowKit
set_option linter.unusedVariables false

def sameGradsB (a b : dGrads) : Bool := decide (a.2.1 = b.2.1) && (decide (a.2.2 = b.2.2) && sameRowsB a.1 b.1)
set_option maxRecDepth 100000 in
theorem specSameGrads_d (w : World) (es : List Value) (x : dGrads) (h : shGrads.reads (Under w.heap.size) w es x) (hb : shGrads.bulk x ≤ 1048576) (es' : List Value) (y : dGrads) (h' : shGrads.reads (Under w.heap.size) w es' y) (hb' : shGrads.bulk y ≤ 1048576) :
    Calls Tryz.prog 17 #[.agg es.toArray, .agg es'.toArray] w fun e w' => e = .returned (.bool (sameGradsB x y)) ∧ Below w.heap.size w w' := by
  obtain ⟨a, n, c, rfl, h1, h2, h3⟩ := shGrads_reads.1 h
  obtain ⟨a', n', c', rfl, g1, g2, g3⟩ := shGrads_reads.1 h'
  rw [shGrads_bulk] at hb hb'
  have hal : Below w.heap.size w ((w.alloc (.cells #[.slice a n c, .int .i64 x.2.1, .bool x.2.2] 30 (0, 0))).alloc (.cells #[.slice a' n' c', .int .i64 y.2.1, .bool y.2.2] 30 (0, 0))) := ((Below.refl _ _).alloc (Nat.le_refl _) _).alloc (by simp) _
  have HS := Lib.hid (specSameRows_c _ a n c x.1 ((h3.below hal (Nat.le_refl _)).le hal.size) hb a' n' c' y.1 ((g3.below hal (Nat.le_refl _)).le hal.size) hb')
  have HA := Lib.hid hal
  obtain ⟨L, hL⟩ : ∃ L, x.2.1 = L := ⟨_, rfl⟩
  obtain ⟨S, hS⟩ : ∃ S, x.2.2 = S := ⟨_, rfl⟩
  obtain ⟨M, hM⟩ : ∃ M, y.2.1 = M := ⟨_, rfl⟩
  obtain ⟨T, hT⟩ : ∃ T, y.2.2 = T := ⟨_, rfl⟩
  unfold sameGradsB
  rw [hL, hS, hM, hT] at HS HA
  rw [hL, hS, hM, hT]
  obtain ⟨q, hq⟩ : ∃ q, sameRowsB x.1 y.1 = q := ⟨_, rfl⟩
  rw [hq] at HS ⊢
  clear h h' h3 g3 hal hL hS hM hT hq hb hb'
  by_cases e1 : L = M
  · subst e1
    by_cases e2 : S = T
    · subst e2
      have hSS : (S == S) = true := by simp
      rw [decide_eq_true rfl, decide_eq_true rfl]
      go_enter Tryz.func17, Tryz.ntmps17
      go_wp2_with fail
      refine HS.out.mono ?_
      rintro e w1 ⟨rfl, hb⟩
      have HB := Lib.hid (HA.out.trans (hb.mono HA.out.size))
      clear hb
      go_wp2_with fail
      go_ret
      exact ⟨by simp, HB.out⟩
    · have hne : (S == T) = false := by simpa using e2
      rw [decide_eq_true rfl, decide_eq_false e2]
      clear e2
      go_enter Tryz.func17, Tryz.ntmps17
      go_wp2_with fail
      go_ret
      exact ⟨by simp, HA.out⟩
  · have hne : (L == M) = false := by simpa using e1
    rw [decide_eq_false e1]
    clear e1
    go_enter Tryz.func17, Tryz.ntmps17
    go_wp2_with fail
    go_ret
    exact ⟨by simp, HA.out⟩
end Go.Proofs.YtpnifgpmleaohaaGreatDoor

end

/-! YtpnifgpmleaohaaGreatDoorOpF -/
section

namespace Go.Proofs.YtpnifgpmleaohaaGreatDoor
open Go.RowKit
set_option linter.unusedVariables false

theorem l5Mat_any (w : World) (k i o : Int) (a : Option Addr) (n cp : Nat) :
    Calls Tryz.prog 215 #[.agg #[.int .i64 k, .int .i64 i, .int .i64 o, .slice a n cp]] w fun e w' => e = .returned (.agg #[.int .i64 o, .int .i64 i, .slice a n cp]) ∧ Below w.heap.size w w' := by
  have hal : Below w.heap.size w (w.alloc (.cells #[.int .i64 k, .int .i64 i, .int .i64 o, .slice a n cp] 38 (0, 0))) := (Below.refl _ _).alloc (Nat.le_refl _) _
  go_enter Tryz.func215, Tryz.ntmps215
  go_wp2_with fail
  refine bodyPost_ret (results_cell_row rfl _ _ (w.heap.size + 1) 245 #[.int .i64 o, .int .i64 i, .slice a n cp] (0, 0) _ rfl ?_ Tryz.underlying245 rfl (by kernel_rfl)) rfl ?_
  · have := heap_alloc_new (w.alloc (.cells #[.int .i64 k, .int .i64 i, .int .i64 o, .slice a n cp] 38 (0, 0))) (.cells #[.int .i64 o, .int .i64 i, .slice a n cp] 245 (0, 0))
    rw [World.size_alloc] at this
    exact this
  exact ⟨rfl, hal.alloc (by simp) _⟩

/-- Ahead, where all is right. -/
theorem fwN_is {k i o : Int} {ps xs : List Int} (h : fwOk k i o ps xs = true) : fwN k i o ps xs = (if k = 1 then mvN o i ps xs else if k = 2 then rowP addN xs ps else if k = 3 then rowP (fun x _ => reluN x) xs xs else if k = 4 then scaleN (ps.getD 0 0) xs else rowP addN xs (mvN o i ps xs)) ∧
    fwB k i o ps xs = (if k = 1 then mvB o i ps xs else if k = 2 then flagP addB xs ps else if k = 3 then false else if k = 4 then scaleB (ps.getD 0 0) xs else mvB o i ps xs || flagP addB xs (mvN o i ps xs)) := by
  unfold fwN fwB
  rw [h]
  exact ⟨rfl, rfl⟩

set_option maxRecDepth 100000 in
set_option maxHeartbeats 800000 in
theorem specOpForward_any (w : World) (k i o : Int) (a : Option Addr) (n cp : Nat) (ps : List Int) (a2 : Option Addr) (n2 c4 : Nat) (xs : List Int) (h1 : IntsIn w.heap.size w a n ps) (hcp : n ≤ cp) (hcap : cp ≤ 9223372036854775807) (h2 : IntsIn w.heap.size w a2 n2 xs) :
    Calls Tryz.prog 172 #[.agg #[.int .i64 k, .int .i64 i, .int .i64 o, .slice a n cp], .slice a2 n2 c4] w (RowB w (fwN k i o ps xs) (fwB k i o ps xs)) := by
  have hal : Below w.heap.size w (w.alloc (.cells #[.int .i64 k, .int .i64 i, .int .i64 o, .slice a n cp] 38 (0, 0))) := (Below.refl _ _).alloc (Nat.le_refl _) _
  have hb0 := heap_alloc_new w (.cells #[.int .i64 k, .int .i64 i, .int .i64 o, .slice a n cp] 38 (0, 0))
  have hs0 : (w.alloc (.cells #[.int .i64 k, .int .i64 i, .int .i64 o, .slice a n cp] 38 (0, 0))).heap.size = w.heap.size + 1 := by simp
  have l1 := h1.len
  have l2 := h2.len
  have HP := Lib.hid (h1.below hal (Nat.le_refl _))
  have HX := Lib.hid (h2.below hal (Nat.le_refl _))
  have HA := Lib.hid hal
  have HB0 := Lib.hid hb0
  have HM := fun (w : World) (h : IntsIn w.heap.size w a n ps) => specOpOk_any w k i o a n cp ps h
  have HV := fun (w : World) (h : IntsIn w.heap.size w a2 n2 xs) => specVecOk_any w a2 n2 c4 xs h
  have hroom := h2.room
  clear h1 h2 hal hb0
  cases hk : opOkB k i o ps with
  | false =>
    have hf : fwOk k i o ps xs = false := by unfold fwOk; rw [hk]; rfl
    obtain ⟨e1, e2⟩ := fw_no hf
    rw [e1, e2]
    rw [hk] at HM
    replace HM := Lib.hid HM
    clear hk hf e1 e2 HV l1 l2
    go_enter Tryz.func172, Tryz.ntmps172
    go_wp2_with fail
    generalize w.alloc (.cells #[.int .i64 k, .int .i64 i, .int .i64 o, .slice a n cp] 38 (0, 0)) = wa at HP HX HA HB0 hs0 ⊢
    refine (HM.out _ (HP.out.le (by omega))).mono ?_
    rintro e w1 ⟨rfl, hb⟩
    have HB := Lib.hid (HA.out.trans (hb.mono (by omega)))
    clear hb
    go_wp2_with fail
    go_ret2
    exact ⟨_, rfl, (Row.empty w1 _ rfl).le (HB.out.size), HB.out.alloc HB.out.size _⟩
  | true =>
    rw [hk] at HM
    replace HM := Lib.hid HM
    cases hv : vecOkB xs with
    | false =>
      have hf : fwOk k i o ps xs = false := by unfold fwOk; rw [hk, hv]; rfl
      obtain ⟨e1, e2⟩ := fw_no hf
      rw [e1, e2]
      rw [hv] at HV
      replace HV := Lib.hid HV
      clear hk hv hf e1 e2 l1 l2
      go_enter Tryz.func172, Tryz.ntmps172
      go_wp2_with fail
      generalize w.alloc (.cells #[.int .i64 k, .int .i64 i, .int .i64 o, .slice a n cp] 38 (0, 0)) = wa at HP HX HA HB0 hs0 ⊢
      refine (HM.out _ (HP.out.le (by omega))).mono ?_
      rintro e w1 ⟨rfl, hb⟩
      have hsz := hb.size
      have HB := Lib.hid (HA.out.trans (hb.mono (by omega)))
      have HX1 := Lib.hid (HX.out.below hb (by omega))
      clear hb
      go_wp2_with fail
      refine (HV.out _ (HX1.out.le (by omega))).mono ?_
      rintro e w' ⟨rfl, rfl⟩
      go_wp2_with fail
      go_ret2
      exact ⟨_, rfl, (Row.empty w1 _ rfl).le (HB.out.size), HB.out.alloc HB.out.size _⟩
    | true =>
      by_cases hn : (n2 : Int) = i
      · have hf : fwOk k i o ps xs = true := by unfold fwOk; rw [hk, hv, l2, decide_eq_true hn]; rfl
        obtain ⟨e1, e2⟩ := fwN_is hf
        rw [e1, e2]
        obtain ⟨m, q, hi, ho, hm, hq, hio, hk5, hps, -⟩ := opOkB_has hk
        rw [l1, hi, ho, opSz_in hm hq] at hps
        rw [hv] at HV
        replace HV := Lib.hid HV
        have hb5 := inB_has hk5
        have hkk : k = 1 ∨ k = 2 ∨ k = 3 ∨ k = 4 ∨ k = 5 := by omega
        clear hk hv hf e1 e2 hk5 hb5 hi ho hio
        rcases hkk with rfl | rfl | rfl | rfl | rfl
        · simp only [Int.reduceEq, if_true, if_false, or_false] at hps ⊢
          go_enter Tryz.func172, Tryz.ntmps172
          go_wp2_with fail
          generalize w.alloc (.cells #[.int .i64 1, .int .i64 i, .int .i64 o, .slice a n cp] 38 (0, 0)) = wa at HP HX HA HB0 hs0 ⊢
          refine (HM.out _ (HP.out.le (by omega))).mono ?_
          rintro e w1 ⟨rfl, hb⟩
          have hsz := hb.size
          have HB := Lib.hid (HA.out.trans (hb.mono (by omega)))
          have HX1 := Lib.hid (HX.out.below hb (by omega))
          have HP1 := Lib.hid (HP.out.below hb (by omega))
          obtain ⟨⟨c0, c1, c2, c3⟩, -⟩ := cells4 ((hb.block w.heap.size (by omega)).trans HB0.out)
          clear hb
          go_wp2_with fail
          refine (HV.out _ (HX1.out.le (by omega))).mono ?_
          rintro e w' ⟨rfl, rfl⟩
          go_wp2_with fail
          refine (l5Mat_any _ _ _ _ _ _ _).mono ?_
          rintro e w2 ⟨rfl, hb2⟩
          have hs2 := hb2.size
          have HB2 := Lib.hid hb2
          clear hb2
          go_wp2_with fail
          refine (specMatVec_any w2 o i a n cp ps a2 n2 c4 xs ((HP1.out.below HB2.out (by omega)).le (by omega)) hcp hcap ((HX1.out.below HB2.out (by omega)).le (by omega))).mono ?_
          rintro e w3 ⟨v, rfl, hr, hb3⟩
          have HB3 := Lib.hid hb3
          have HR3 := Lib.hid hr
          clear hb3 hr
          go_wp2_with fail
          go_ret2
          exact ⟨_, rfl, HR3.out.le (by omega), HB.out.trans (HB2.out.mono (by omega) |>.trans (HB3.out.mono (by omega)))⟩
        · simp only [Int.reduceEq, if_true, if_false, or_self] at hps ⊢
          go_enter Tryz.func172, Tryz.ntmps172
          go_wp2_with fail
          generalize w.alloc (.cells #[.int .i64 2, .int .i64 i, .int .i64 o, .slice a n cp] 38 (0, 0)) = wa at HP HX HA HB0 hs0 ⊢
          refine (HM.out _ (HP.out.le (by omega))).mono ?_
          rintro e w1 ⟨rfl, hb⟩
          have hsz := hb.size
          have HB := Lib.hid (HA.out.trans (hb.mono (by omega)))
          have HX1 := Lib.hid (HX.out.below hb (by omega))
          have HP1 := Lib.hid (HP.out.below hb (by omega))
          obtain ⟨⟨c0, c1, c2, c3⟩, -⟩ := cells4 ((hb.block w.heap.size (by omega)).trans HB0.out)
          clear hb
          go_wp2_with fail
          refine (HV.out _ (HX1.out.le (by omega))).mono ?_
          rintro e w' ⟨rfl, rfl⟩
          go_wp2_with fail
          refine (specVecAdd_any w1 a2 n2 c4 xs a n cp ps (HX1.out.le (by omega)) (HP1.out.le (by omega))).mono ?_
          rintro e w3 ⟨v, rfl, hr, hb3⟩
          have HB3 := Lib.hid hb3
          have HR3 := Lib.hid hr
          clear hb3 hr
          go_wp2_with fail
          go_ret2
          exact ⟨_, rfl, HR3.out.le (by omega), HB.out.trans (HB3.out.mono (by omega))⟩
        · simp only [Int.reduceEq, if_true, if_false, or_self] at hps ⊢
          go_enter Tryz.func172, Tryz.ntmps172
          go_wp2_with fail
          generalize w.alloc (.cells #[.int .i64 3, .int .i64 i, .int .i64 o, .slice a n cp] 38 (0, 0)) = wa at HP HX HA HB0 hs0 ⊢
          refine (HM.out _ (HP.out.le (by omega))).mono ?_
          rintro e w1 ⟨rfl, hb⟩
          have hsz := hb.size
          have HB := Lib.hid (HA.out.trans (hb.mono (by omega)))
          have HX1 := Lib.hid (HX.out.below hb (by omega))
          have HP1 := Lib.hid (HP.out.below hb (by omega))
          obtain ⟨⟨c0, c1, c2, c3⟩, -⟩ := cells4 ((hb.block w.heap.size (by omega)).trans HB0.out)
          clear hb
          go_wp2_with fail
          refine (HV.out _ (HX1.out.le (by omega))).mono ?_
          rintro e w' ⟨rfl, rfl⟩
          go_wp2_with fail
          refine (specVecRelu_any w1 a2 n2 c4 xs (HX1.out.le (by omega))).mono ?_
          rintro e w3 ⟨v, rfl, hr, hb3⟩
          have HB3 := Lib.hid hb3
          have HR3 := Lib.hid hr
          clear hb3 hr
          go_wp2_with fail
          go_ret2
          exact ⟨_, rfl, HR3.out.le (by omega), HB.out.trans (HB3.out.mono (by omega))⟩
        · simp only [Int.reduceEq, if_true, if_false, or_self] at hps ⊢
          obtain ⟨Y, hY⟩ : ∃ Y, Y = ps.getD 0 0 := ⟨_, rfl⟩
          rw [← hY]
          have HYY := Lib.hid hY
          clear hY
          go_enter Tryz.func172, Tryz.ntmps172
          go_wp2_with fail
          generalize w.alloc (.cells #[.int .i64 4, .int .i64 i, .int .i64 o, .slice a n cp] 38 (0, 0)) = wa at HP HX HA HB0 hs0 ⊢
          refine (HM.out _ (HP.out.le (by omega))).mono ?_
          rintro e w1 ⟨rfl, hb⟩
          have hsz := hb.size
          have HB := Lib.hid (HA.out.trans (hb.mono (by omega)))
          have HX1 := Lib.hid (HX.out.below hb (by omega))
          have HP1 := Lib.hid (HP.out.below hb (by omega))
          obtain ⟨⟨c0, c1, c2, c3⟩, -⟩ := cells4 ((hb.block w.heap.size (by omega)).trans HB0.out)
          clear hb
          go_wp2_with fail
          refine (HV.out _ (HX1.out.le (by omega))).mono ?_
          rintro e w' ⟨rfl, rfl⟩
          obtain ⟨b, p, rfl, hbB, hcell⟩ := HP1.out.cells 0 (by omega)
          rw [← HYY.out] at hcell
          have hcell' : w1.cell? ⟨b, p, none⟩ = some (.int .i64 Y) := hcell
          clear hcell
          have hn1 : n = 1 := by omega
          go_wp2_with fail
          refine (specVecScale_any Y w1 a2 n2 c4 xs (HX1.out.le (by omega))).mono ?_
          rintro e w3 ⟨v, rfl, hr, hb3⟩
          have HB3 := Lib.hid hb3
          have HR3 := Lib.hid hr
          clear hb3 hr
          go_wp2_with fail
          go_ret2
          exact ⟨_, rfl, HR3.out.le (by omega), HB.out.trans (HB3.out.mono (by omega))⟩
        · simp only [Int.reduceEq, if_true, if_false, or_true] at hps ⊢
          have hl6 := mvN_length o i ps xs
          have HMV := fun (w : World) (h1 : IntsIn w.heap.size w a n ps) (h2 : IntsIn w.heap.size w a2 n2 xs) => specMatVec_any w o i a n cp ps a2 n2 c4 xs h1 hcp hcap h2
          obtain ⟨zs, hzs⟩ : ∃ zs, mvN o i ps xs = zs := ⟨_, rfl⟩
          obtain ⟨mb, hmb⟩ : ∃ mb, mvB o i ps xs = mb := ⟨_, rfl⟩
          rw [hzs, hmb] at HMV
          rw [hzs] at hl6
          rw [hzs, hmb]
          replace HMV := Lib.hid HMV
          clear hzs hmb
          go_enter Tryz.func172, Tryz.ntmps172
          go_wp2_with fail
          generalize w.alloc (.cells #[.int .i64 5, .int .i64 i, .int .i64 o, .slice a n cp] 38 (0, 0)) = wa at HP HX HA HB0 hs0 ⊢
          refine (HM.out _ (HP.out.le (by omega))).mono ?_
          rintro e w1 ⟨rfl, hb⟩
          have hsz := hb.size
          have HB := Lib.hid (HA.out.trans (hb.mono (by omega)))
          have HX1 := Lib.hid (HX.out.below hb (by omega))
          have HP1 := Lib.hid (HP.out.below hb (by omega))
          obtain ⟨⟨c0, c1, c2, c3⟩, -⟩ := cells4 ((hb.block w.heap.size (by omega)).trans HB0.out)
          clear hb
          go_wp2_with fail
          refine (HV.out _ (HX1.out.le (by omega))).mono ?_
          rintro e w' ⟨rfl, rfl⟩
          go_wp2_with fail
          refine (l5Mat_any _ _ _ _ _ _ _).mono ?_
          rintro e w2 ⟨rfl, hb2⟩
          have hs2 := hb2.size
          have HB2 := Lib.hid hb2
          clear hb2
          go_wp2_with fail
          refine (HMV.out w2 ((HP1.out.below HB2.out (by omega)).le (by omega)) ((HX1.out.below HB2.out (by omega)).le (by omega))).mono ?_
          rintro e w3 ⟨v, rfl, hr, hb3⟩
          obtain ⟨z, hz⟩ : ∃ z, zs.length = z := ⟨_, rfl⟩
          obtain ⟨a5, c5, rfl, hi5⟩ := hr.form' (Lib.hid hz) (by omega)
          have hs3 := hb3.size
          have HT := Lib.hid (specVecAdd_any w3 a2 n2 c4 xs a5 z c5 zs (((HX1.out.below HB2.out (by omega)).below hb3 (by omega)).le (by omega)) hi5)
          have HB3 := Lib.hid hb3
          clear hb3 hr hi5
          cases mb
          all_goals
            go_wp2_with fail
            refine HT.out.mono ?_
            rintro e w4 ⟨v4, rfl, hr4, hb4⟩
            have HB4 := Lib.hid hb4
            have HR4 := Lib.hid hr4
            clear hb4 hr4
            go_wp2_with fail
            go_ret2
            exact ⟨_, rfl, HR4.out.le (by omega), HB.out.trans (HB2.out.mono (by omega) |>.trans ((HB3.out.mono (by omega)).trans (HB4.out.mono (by omega))))⟩
      · have hf : fwOk k i o ps xs = false := by unfold fwOk; rw [hk, hv, l2, decide_eq_false hn]; rfl
        obtain ⟨e1, e2⟩ := fw_no hf
        rw [e1, e2]
        rw [hv] at HV
        replace HV := Lib.hid HV
        have hne : ((n2 : Int) == i) = false := by simpa using hn
        clear hk hv hf e1 e2 l1 l2 hn
        go_enter Tryz.func172, Tryz.ntmps172
        go_wp2_with fail
        generalize w.alloc (.cells #[.int .i64 k, .int .i64 i, .int .i64 o, .slice a n cp] 38 (0, 0)) = wa at HP HX HA HB0 hs0 ⊢
        refine (HM.out _ (HP.out.le (by omega))).mono ?_
        rintro e w1 ⟨rfl, hb⟩
        have hsz := hb.size
        have HB := Lib.hid (HA.out.trans (hb.mono (by omega)))
        have HX1 := Lib.hid (HX.out.below hb (by omega))
        have HP1 := Lib.hid (HP.out.below hb (by omega))
        obtain ⟨⟨c0, c1, c2, c3⟩, -⟩ := cells4 ((hb.block w.heap.size (by omega)).trans HB0.out)
        clear hb
        go_wp2_with fail
        refine (HV.out _ (HX1.out.le (by omega))).mono ?_
        rintro e w' ⟨rfl, rfl⟩
        go_wp2_with fail
        go_ret2
        exact ⟨_, rfl, (Row.empty w1 _ rfl).le (HB.out.size), HB.out.alloc HB.out.size _⟩
end Go.Proofs.YtpnifgpmleaohaaGreatDoor

end
