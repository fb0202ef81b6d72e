import Derived.Test.YtkflinobmagiiaaJoin33
import Derived.Test.YtkflinobmagiiaaJoin41
import Derived.Test.YtkflinobmagiiaaJoin34
/-! YtkflinobmagiiaaCutI -/
section

namespace Go.Proofs.Ytkflinobmagiiaa
open Go.RowKit Go.Sort
set_option linter.unusedVariables false

theorem cutsI_no {m : List dOp} {l : List Int} {k n' : Nat} (hl : l.length = n') (hk : k < n') (h : cutAt m.length l k = false) : cutsOkB m l = false := cutsOk_r (cutsB_no (by rw [hl]; exact hk) h)
theorem cutsI_yes {m : List dOp} {l : List Int} {n' : Nat} (hl : l.length = n') (hm : modelOkB m = true) (h : ∀ j, j < n' → cutAt m.length l j = true) : cutsOkB m l = true := by
  unfold cutsOkB
  rw [hm, cutsB_all fun j hj => h j (by omega)]
  rfl
set_option maxRecDepth 100000 in
set_option maxHeartbeats 3200000 in
theorem implCutsOk_c (w : World) (a : Option Addr) (n c : Nat) (m : List dOp) (h : ListAt shOp (Under w.heap.size) w a n m) (hc1 : n ≤ c) (hc2 : c ≤ 9223372036854775807) (hb : (Shape.list shOp).bulk m ≤ 1048576)
    (a' : Option Addr) (n' c' : Nat) (l : List Int) (h' : IntsIn w.heap.size w a' n' l) :
    Calls Try.prog 49 #[.agg #[.slice a n c], .slice a' n' c'] w fun e w' => e = .returned (.bool (cutsOkB m l)) ∧ Below w.heap.size w w' := by
  have hr' := h'.room
  have hal : Below w.heap.size w (w.alloc (.cells #[.slice a n c] 26 (0, 0))) := (Below.refl _ _).alloc (Nat.le_refl _) _
  have hb0 := heap_alloc_new w (.cells #[.slice a n c] 26 (0, 0))
  have hs0 : w.heap.size < (w.alloc (.cells #[.slice a n c] 26 (0, 0))).heap.size := by simp
  have hbx := box1 hb0
  have HC := Lib.hid (implModelOk_d _ [.slice a n c] m (shModel_reads.2 ⟨a, n, c, rfl, hc1, hc2, (h.below hal (Nat.le_refl _)).le hal.size⟩) hb)
  have HL := Lib.hid h'
  have HA := Lib.hid hal
  have HB0 := Lib.hid hb0
  have HN := Lib.hid h.1
  have HN' := Lib.hid h'.len
  obtain ⟨d, hd⟩ : ∃ d, modelOkB m = d := ⟨_, rfl⟩
  rw [hd] at HC
  have HD := Lib.hid hd
  obtain ⟨R, hR⟩ : ∃ R, cutsOkB m l = R := ⟨_, rfl⟩
  rw [hR]
  have HR := Lib.hid hR
  clear h h' hb hal hb0 hd hR
  cases d
  · obtain rfl : R = false := by rw [← HR.out]; exact cutsOk_l HD.out
    go_enter Try.func49, Try.ntmps49
    go_wp2_with fail
    refine HC.out.mono ?_
    rintro e w1 ⟨rfl, hb⟩
    have HB := Lib.hid (HA.out.trans (hb.mono HA.out.size))
    clear hb
    go_wp2_with fail
    go_ret
    exact ⟨rfl, HB.out⟩
  · have hn8 : n ≤ 8 := by have := (modelOk_has HD.out).2.2; have := HN.out; omega
    go_enter Try.func49, Try.ntmps49
    go_wp2_with fail
    generalize w.alloc (.cells #[.slice a n c] 26 (0, 0)) = wa at HC HA HB0 hs0 hbx ⊢
    refine HC.out.mono ?_
    rintro e w1 ⟨rfl, hb⟩
    have hs1 : w.heap.size < w1.heap.size := Nat.lt_of_lt_of_le hs0 hb.size
    have HB1 := Lib.hid ((hb.block w.heap.size hs0).trans HB0.out)
    have HW1 := Lib.hid (HA.out.trans (hb.mono HA.out.size))
    clear hb hbx
    go_wp2_with fail
    go_loopw [5, 13] (fun p i wr => ∃ k : Nat, k ≤ n' ∧ i = .int .i64 k ∧ p = .int .i64 (prevC l k) ∧ Hid (∀ j, j < k → cutAt m.length l j = true) ∧ Below w1.heap.size w1 wr) (fun _ i _ => n' - (intOf i).toNat)
    case atStart => exact ⟨0, Nat.zero_le _, rfl, rfl, Lib.hid fun j hj => absurd hj (Nat.not_lt_zero _), Below.refl _ _⟩
    case round =>
      obtain ⟨k, hk, rfl, rfl, hall, hbw⟩ := hrel
      have hsz := hbw.size
      have hbx := box1 ((hbw.block w.heap.size hs1).trans HB1.out)
      have hww : Below w.heap.size w wr := HW1.out.trans (hbw.mono HW1.out.size)
      obtain ⟨A, hA⟩ : ∃ A, prevC l k = A := ⟨_, rfl⟩
      rw [hA]
      by_cases hlt : k < n'
      · obtain ⟨b, o, rfl, hbB, hc0⟩ := HL.out.cells k hlt
        obtain ⟨X, hX⟩ : ∃ X, X = l.getD k 0 := ⟨_, rfl⟩
        rw [← hX] at hc0
        have hcell := (hww.cell (p := ⟨b, o + k, none⟩) hbB).trans hc0
        have HX := Lib.hid hX
        have HA2 := Lib.hid hA
        have HWW := Lib.hid hww
        have HBW := Lib.hid hbw
        clear hX hA hc0 hbw hww
        by_cases h1 : X ≤ A
        · have h1d : decide (X ≤ A) = true := decide_eq_true h1
          obtain rfl : R = false := by rw [← HR.out]; exact cutsI_no HN'.out hlt (cutAt_low (by rw [← HX.out, HA2.out]; exact h1))
          go_wp2_with fail
          go_ret
          exact ⟨rfl, HWW.out⟩
        · have h1d : decide (X ≤ A) = false := decide_eq_false h1
          by_cases h2 : (n : Int) ≤ X
          · have h2d : decide (X ≥ (n : Int)) = true := decide_eq_true h2
            obtain rfl : R = false := by rw [← HR.out]; exact cutsI_no HN'.out hlt (cutAt_high (by rw [← HX.out, HN.out]; exact h2))
            go_wp2_with fail
            go_ret
            exact ⟨rfl, HWW.out⟩
          · have h2d : decide (X ≥ (n : Int)) = false := decide_eq_false h2
            have HOK : Hid (cutAt m.length l k = true) := Lib.hid (cutAt_yes (by rw [← HX.out, HA2.out]; omega) (by rw [← HX.out, HN.out]; omega))
            have HNX : Hid (prevC l (k + 1) = X) := Lib.hid (by rw [prevC_succ]; exact HX.out.symm)
            go_wp2_with fail
            go_roundw
            case rel =>
              refine ⟨k + 1, by omega, by go_num, by rw [HNX.out], Lib.hid fun j hj => ?_, HBW.out⟩
              by_cases e : j = k
              · rw [e]; exact HOK.out
              · exact hall.out j (by omega)
            case measure => simp [intOf]; omega
      · obtain rfl : k = n' := by omega
        obtain rfl : R = true := by rw [← HR.out]; exact cutsI_yes HN'.out HD.out hall.out
        have HWW := Lib.hid hww
        clear hbw hww hA
        go_wp2_with fail
        go_ret
        exact ⟨rfl, HWW.out⟩
set_option maxRecDepth 100000 in
set_option maxHeartbeats 3200000 in
theorem implStageRange_c (w : World) (a : Option Addr) (n c : Nat) (m : List dOp) (h : ListAt shOp (Under w.heap.size) w a n m) (hc1 : n ≤ c) (hc2 : c ≤ 9223372036854775807) (hb : (Shape.list shOp).bulk m ≤ 1048576)
    (a' : Option Addr) (n' c' : Nat) (l : List Int) (h' : IntsIn w.heap.size w a' n' l) (s : Int) :
    Calls Try.prog 65 #[.agg #[.slice a n c], .slice a' n' c', .int .i64 s] w fun e w' => e = .returned (.tuple #[.int .i64 (fromC m l s), .int .i64 (toC m l s)]) ∧ Below w.heap.size w w' := by
  have hr' := h'.room
  have hal : Below w.heap.size w (w.alloc (.cells #[.slice a n c] 26 (0, 0))) := (Below.refl _ _).alloc (Nat.le_refl _) _
  have hb0 := heap_alloc_new w (.cells #[.slice a n c] 26 (0, 0))
  have hs0 : w.heap.size < (w.alloc (.cells #[.slice a n c] 26 (0, 0))).heap.size := by simp
  have hbx := box1 hb0
  have HC := Lib.hid (implCutsOk_c _ a n c m ((h.below hal (Nat.le_refl _)).le hal.size) hc1 hc2 hb a' n' c' l ((h'.below hal (Nat.le_refl _)).le hal.size))
  have HL := Lib.hid h'
  have HA := Lib.hid hal
  have HB0 := Lib.hid hb0
  have HN := Lib.hid h.1
  have HN' := Lib.hid h'.len
  obtain ⟨d, hd⟩ : ∃ d, cutsOkB m l = d := ⟨_, rfl⟩
  rw [hd] at HC
  have HD := Lib.hid hd
  obtain ⟨F, hF⟩ : ∃ F, fromC m l s = F := ⟨_, rfl⟩
  obtain ⟨T, hT⟩ : ∃ T, toC m l s = T := ⟨_, rfl⟩
  rw [hF, hT]
  have HF := Lib.hid hF
  have HT := Lib.hid hT
  clear h h' hb hal hb0 hd hF hT
  cases d
  · have hz := stage_no (stageB_l (s := s) HD.out)
    obtain rfl : F = 0 := by rw [← HF.out]; exact hz.1
    obtain rfl : T = 0 := by rw [← HT.out]; exact hz.2
    clear hz
    go_enter Try.func65, Try.ntmps65
    go_wp2_with fail
    refine HC.out.mono ?_
    rintro e w1 ⟨rfl, hb⟩
    have HB := Lib.hid (HA.out.trans (hb.mono HA.out.size))
    clear hb
    go_wp2_with fail
    go_ret2
    exact ⟨rfl, HB.out⟩
  · cases hp : inB 0 (n' : Int) s with
    | false =>
      have hz := stage_no (stageB_r (m := m) (by rw [HN'.out]; exact hp))
      obtain rfl : F = 0 := by rw [← HF.out]; exact hz.1
      obtain rfl : T = 0 := by rw [← HT.out]; exact hz.2
      clear hz
      by_cases h1 : s < 0
      · have h1d : decide (s < 0) = true := decide_eq_true h1
        clear hp
        go_enter Try.func65, Try.ntmps65
        go_wp2_with fail
        refine HC.out.mono ?_
        rintro e w1 ⟨rfl, hb⟩
        have HB := Lib.hid (HA.out.trans (hb.mono HA.out.size))
        clear hb
        go_wp2_with fail
        go_ret2
        exact ⟨rfl, HB.out⟩
      · have h1d : decide (s < 0) = false := decide_eq_false h1
        have h2 : s > (n' : Int) := by
          by_cases h3 : s > (n' : Int)
          · exact h3
          · rw [inB_yes (by omega) (by omega)] at hp
            cases hp
        have h2d : decide (s > (n' : Int)) = true := decide_eq_true h2
        clear hp
        go_enter Try.func65, Try.ntmps65
        go_wp2_with fail
        refine HC.out.mono ?_
        rintro e w1 ⟨rfl, hb⟩
        have HB := Lib.hid (HA.out.trans (hb.mono HA.out.size))
        clear hb
        go_wp2_with fail
        go_ret2
        exact ⟨rfl, HB.out⟩
    | true =>
      have hin := inB_has hp
      obtain ⟨j, rfl⟩ : ∃ j : Nat, s = j := ⟨s.toNat, by omega⟩
      have hjn : j ≤ n' := by omega
      have hst := stage_j (j := j) HD.out (by rw [HN'.out]; exact hjn)
      rw [HF.out, HT.out] at hst
      have HST := Lib.hid hst
      have hs1d : decide ((j : Int) < 0) = false := decide_eq_false (by omega)
      have hs2d : decide ((j : Int) > (n' : Int)) = false := decide_eq_false (by omega)
      have hs3 : ¬ (n' : Int) < (j : Int) := by omega
      have hs4 : ¬ n' < j := by omega
      clear hp hin hst HF HT
      by_cases j0 : j = 0
      · have hgt : decide ((j : Int) > 0) = false := decide_eq_false (by omega)
        have h0j : ¬ 0 < j := by omega
        obtain rfl : F = 0 := by rw [HST.out.1, j0]; rfl
        by_cases hjl : j < n'
        · obtain ⟨b, o, rfl, hbB, hc0⟩ := HL.out.cells j hjl
          rw [← endC_lt (n := m.length) (by rw [HN'.out]; exact hjl), ← HST.out.2] at hc0
          have HCL := Lib.hid fun (w1 : World) (hb : Below w.heap.size w w1) => (hb.cell (p := ⟨b, o + j, none⟩) hbB).trans hc0
          have HJ0 := Lib.hid j0
          clear hc0 j0
          go_enter Try.func65, Try.ntmps65
          go_wp2_with fail
          refine HC.out.mono ?_
          rintro e w1 ⟨rfl, hb⟩
          have hbx1 := box1 ((hb.block w.heap.size hs0).trans HB0.out)
          have HB := Lib.hid (HA.out.trans (hb.mono HA.out.size))
          clear hb
          go_wp2_with fail
          go_quiet (fail)
          have HBQ : Hid (Below w.heap.size w (w1.drewN nq)) := Lib.hid (HB.out.trans ⟨rfl, rfl, rfl, Nat.le_refl _, fun _ _ => rfl⟩)
          clear hbx1
          have hcl := HCL.out _ HBQ.out
          generalize w1.drewN nq = wq at HBQ hcl ⊢
          go_wp2_with fail
          go_ret2
          exact ⟨rfl, HBQ.out⟩
        · obtain rfl : T = (n : Int) := by rw [HST.out.2, endC_ge (by rw [HN'.out]; exact hjl), HN.out]
          have HJ0 := Lib.hid j0
          clear j0
          go_enter Try.func65, Try.ntmps65
          go_wp2_with fail
          refine HC.out.mono ?_
          rintro e w1 ⟨rfl, hb⟩
          have hbx1 := box1 ((hb.block w.heap.size hs0).trans HB0.out)
          have HB := Lib.hid (HA.out.trans (hb.mono HA.out.size))
          clear hb
          go_wp2_with fail
          go_quiet (fail)
          have HBQ : Hid (Below w.heap.size w (w1.drewN nq)) := Lib.hid (HB.out.trans ⟨rfl, rfl, rfl, Nat.le_refl _, fun _ _ => rfl⟩)
          clear hbx1
          generalize w1.drewN nq = wq at HBQ ⊢
          go_wp2_with fail
          go_ret2
          exact ⟨rfl, HBQ.out⟩
      · obtain ⟨i, hi⟩ : ∃ i, j = i + 1 := ⟨j - 1, by omega⟩
        have hgt : decide ((j : Int) > 0) = true := decide_eq_true (by omega)
        have h0j : 0 < j := by omega
        have hv1 : wrap64 ((j : Int) - 1) = (i : Int) := by rw [IntWalk.wrap64_in _ (by omega)]; omega
        have hv2 : IntKind.i64.wrap ((j : Int) - 1) = (i : Int) := by rw [IntKind.wrap_i64]; omega
        have hin : i < n' := by omega
        obtain ⟨b', o', eb', hbB', hc0'⟩ := HL.out.cells i hin
        have eb'2 := eb'
        rw [← prevC_pos hi, ← HST.out.1] at hc0'
        by_cases hjl : j < n'
        · obtain ⟨b, o, rfl, hbB, hc0⟩ := HL.out.cells j hjl
          cases eb'
          rw [← endC_lt (n := m.length) (by rw [HN'.out]; exact hjl), ← HST.out.2] at hc0
          have HCL := Lib.hid fun (w1 : World) (hb : Below w.heap.size w w1) => And.intro ((hb.cell (p := ⟨b', o' + j, none⟩) hbB).trans hc0) ((hb.cell (p := ⟨b', o' + i, none⟩) hbB').trans hc0')
          have HJ0 := Lib.hid hi
          clear hc0 hc0' j0 hi eb'2
          go_enter Try.func65, Try.ntmps65
          go_wp2_with fail
          refine HC.out.mono ?_
          rintro e w1 ⟨rfl, hb⟩
          have hbx1 := box1 ((hb.block w.heap.size hs0).trans HB0.out)
          have HB := Lib.hid (HA.out.trans (hb.mono HA.out.size))
          clear hb
          go_wp2_with fail
          go_quiet (fail)
          have HBQ : Hid (Below w.heap.size w (w1.drewN nq)) := Lib.hid (HB.out.trans ⟨rfl, rfl, rfl, Nat.le_refl _, fun _ _ => rfl⟩)
          clear hbx1
          obtain ⟨hcl, hcl'⟩ := HCL.out _ HBQ.out
          generalize w1.drewN nq = wq at HBQ hcl hcl' ⊢
          go_wp2_with fail
          go_ret2
          exact ⟨rfl, HBQ.out⟩
        · obtain rfl : T = (n : Int) := by rw [HST.out.2, endC_ge (by rw [HN'.out]; exact hjl), HN.out]
          subst eb'2
          have HCL := Lib.hid fun (w1 : World) (hb : Below w.heap.size w w1) => (hb.cell (p := ⟨b', o' + i, none⟩) hbB').trans hc0'
          have HJ0 := Lib.hid hi
          clear hc0' j0 hi
          go_enter Try.func65, Try.ntmps65
          go_wp2_with fail
          refine HC.out.mono ?_
          rintro e w1 ⟨rfl, hb⟩
          have hbx1 := box1 ((hb.block w.heap.size hs0).trans HB0.out)
          have HB := Lib.hid (HA.out.trans (hb.mono HA.out.size))
          clear hb
          go_wp2_with fail
          go_quiet (fail)
          have HBQ : Hid (Below w.heap.size w (w1.drewN nq)) := Lib.hid (HB.out.trans ⟨rfl, rfl, rfl, Nat.le_refl _, fun _ _ => rfl⟩)
          clear hbx1
          have hcl := HCL.out _ HBQ.out
          generalize w1.drewN nq = wq at HBQ hcl ⊢
          go_wp2_with fail
          go_ret2
          exact ⟨rfl, HBQ.out⟩
end Go.Proofs.Ytkflinobmagiiaa

end

/-! YtkflinobmagiiaaPlanP -/
section

namespace Go.Proofs.Ytkflinobmagiiaa
set_option linter.unusedVariables false

/-- What a stage does ahead, and back. -/
def aheadK (n s : Int) : List Int := (if 0 < s then [1] else []) ++ ([2] ++ if s < n - 1 then [3] else [])
def backPl (n s : Int) (r : Bool) : List Int := (if s < n - 1 then [4] else []) ++ ((if r = true then [5] else []) ++ ([6] ++ if 0 < s then [7] else []))
def eachP (ks : List Int) (m : Int) : List (Int × Int) := ks.map fun k => (k, m)
theorem aheadK_length (n s : Int) : (aheadK n s).length ≤ 3 := by
  unfold aheadK
  split <;> split <;> simp
theorem backK_length (n s : Int) (r : Bool) : (backPl n s r).length ≤ 4 := by
  unfold backPl
  split <;> split <;> split <;> simp
theorem eachP_length (ks : List Int) (m : Int) : (eachP ks m).length = ks.length := by simp [eachP]
theorem eachP_append (a b : List Int) (m : Int) : eachP (a ++ b) m = eachP a m ++ eachP b m := by simp [eachP]
/-- The first so many that go ahead. -/
def warmL (n s : Int) : Nat → List (Int × Int)
  | 0 => []
  | j + 1 => warmL n s j ++ eachP (aheadK n s) (j : Int)
/-- Then, for each in turn. -/
def turnL (n s m : Int) (r : Bool) (w : Nat) : Nat → List (Int × Int)
  | 0 => []
  | j + 1 => turnL n s m r w j ++ ((if (w : Int) + (j : Int) < m then eachP (aheadK n s) ((w : Int) + (j : Int)) else []) ++ eachP (backPl n s r) (j : Int))
def planB (ds n s m : Int) : Bool := inB 1 2 ds && taskB n s m
def planL (ds n s m : Int) (r : Bool) : List (Int × Int) :=
  if planB ds n s m = true then (warmL n s (warmN ds n s m).toNat ++ turnL n s m r (warmN ds n s m).toNat m.toNat) ++ [(8, 0)] else []
theorem planL_no {ds n s m : Int} {r : Bool} (h : planB ds n s m = false) : planL ds n s m r = [] := by unfold planL; rw [h]; rfl
theorem planL_yes {ds n s m : Int} {r : Bool} (h : planB ds n s m = true) : planL ds n s m r = (warmL n s (warmN ds n s m).toNat ++ turnL n s m r (warmN ds n s m).toNat m.toNat) ++ [(8, 0)] := by unfold planL; rw [if_pos h]
theorem planB_has {ds n s m : Int} (h : planB ds n s m = true) : (ds = 1 ∨ ds = 2) ∧ taskB n s m = true := by
  unfold planB inB at h
  simp only [Bool.and_eq_true, decide_eq_true_eq] at h
  exact ⟨by omega, h.2⟩
theorem warmL_length (n s : Int) : ∀ j, (warmL n s j).length ≤ 3 * j
  | 0 => by simp [warmL]
  | j + 1 => by
    have h1 := warmL_length n s j
    have h2 := aheadK_length n s
    simp only [warmL, List.length_append, eachP_length]
    omega
theorem turnL_length (n s m : Int) (r : Bool) (w : Nat) : ∀ j, (turnL n s m r w j).length ≤ 7 * j
  | 0 => by simp [turnL]
  | j + 1 => by
    have h1 := turnL_length n s m r w j
    have h2 := aheadK_length n s
    have h3 := backK_length n s r
    simp only [turnL, List.length_append, eachP_length]
    split
    · simp only [eachP_length]; omega
    · simp only [List.length_nil]; omega
theorem warmN_range {ds n s m : Int} (h : taskB n s m = true) : 0 ≤ warmN ds n s m ∧ warmN ds n s m ≤ m := by
  obtain ⟨h1, h2, h3, h4, h5, h6⟩ := taskB_has h
  unfold warmN
  rw [if_pos h]
  split <;> omega
theorem planL_length (ds n s m : Int) (r : Bool) : (planL ds n s m r).length ≤ 60 := by
  unfold planL
  split
  · rename_i h
    have ht := (planB_has h).2
    obtain ⟨h1, h2, h3, h4, h5, h6⟩ := taskB_has ht
    obtain ⟨h7, h8⟩ := warmN_range (ds := ds) ht
    have e1 := warmL_length n s (warmN ds n s m).toNat
    have e2 := turnL_length n s m r (warmN ds n s m).toNat m.toNat
    simp only [List.length_append, List.length_singleton]
    omega
  · simp
/-- The kinds from one on that a stage does. -/
def doesB (n s : Int) (r : Bool) (k : Int) : Bool := if k = 1 ∨ k = 7 then decide (0 < s) else if k = 3 ∨ k = 4 then decide (0 < n - 1 - s) else if k = 5 then r else true
def kindsK (n s : Int) (r : Bool) (f : Int) : Nat → List Int
  | 0 => []
  | c + 1 => kindsK n s r f c ++ if doesB n s r (f + (c : Int)) = true then [f + (c : Int)] else []
theorem kindsK_length (n s : Int) (r : Bool) (f : Int) : ∀ c, (kindsK n s r f c).length ≤ c
  | 0 => by simp [kindsK]
  | c + 1 => by
    have h1 := kindsK_length n s r f c
    simp only [kindsK, List.length_append]
    split <;> simp <;> omega
theorem kinds_ahead (n s : Int) (r : Bool) : kindsK n s r 1 3 = aheadK n s := by
  simp [kindsK, doesB, aheadK]
theorem kinds_back (n s : Int) (r : Bool) : kindsK n s r 4 4 = backPl n s r := by
  simp [kindsK, doesB, backPl]
theorem kinds_all (n s : Int) (r : Bool) : kindsK n s r 1 7 = aheadK n s ++ backPl n s r := by
  simp [kindsK, doesB, aheadK, backPl]
end Go.Proofs.Ytkflinobmagiiaa

end
