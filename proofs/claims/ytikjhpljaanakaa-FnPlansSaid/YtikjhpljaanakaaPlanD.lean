/-
  Plans: the model's Plan.
-/
import Derived.Test.YtikjhpljaanakaaPlanC
namespace Go.Proofs.Ytikjhpljaanakaa
open Go.RowKit Go.Sort
set_option linter.unusedVariables false
set_option linter.unusedSimpArgs false

set_option maxRecDepth 100000 in
set_option maxHeartbeats 3200000 in
theorem specPlan_any (w : World) (ds n s m : Int) (r : Bool) :
    Calls Try.prog 18 #[.int .i64 ds, .int .i64 n, .int .i64 s, .int .i64 m, .bool r] w fun e w' => ∃ v', e = .returned v' ∧ InsR w.heap.size w' v' (planL ds n s m r) ∧ Below w.heap.size w w' := by
  obtain ⟨L, hL⟩ : ∃ L, planL ds n s m r = L := ⟨_, rfl⟩
  rw [hL]
  have HE := Lib.hid (TwoR.empty (T := 54) w (Nat.le_refl _))
  have HA : Hid (Below w.heap.size w (w.alloc (.cells #[] 54 (0, 0)))) := Lib.hid ((Below.refl _ _).alloc (Nat.le_refl _) _)
  obtain ⟨p0, hp0⟩ : ∃ p, inB 1 2 ds = p := ⟨_, rfl⟩
  have H0 := Lib.hid fun w => hp0 ▸ l1In_any ds 1 2 w
  cases p0
  · obtain rfl : L = [] := by rw [← hL]; exact planL_no (by unfold planB taskB; simp [hp0])
    clear hp0  hL
    go_enter Try.func18, Try.ntmps18
    go_wp2_with fail
    refine (H0.out _).mono ?_
    rintro e w' ⟨rfl, rfl⟩
    go_wp2_with fail
    go_ret
    exact ⟨_, rfl, HE.out, HA.out⟩
  · obtain ⟨p1, hp1⟩ : ∃ p, inB 1 4 n = p := ⟨_, rfl⟩
    have H1 := Lib.hid fun w => hp1 ▸ l1In_any n 1 4 w
    cases p1
    · obtain rfl : L = [] := by rw [← hL]; exact planL_no (by unfold planB taskB; simp [hp1])
      clear hp0 hp1 hL
      go_enter Try.func18, Try.ntmps18
      go_wp2_with fail
      refine (H0.out _).mono ?_
      rintro e w' ⟨rfl, rfl⟩
      go_wp2_with fail
      refine (H1.out _).mono ?_
      rintro e w' ⟨rfl, rfl⟩
      go_wp2_with fail
      go_ret
      exact ⟨_, rfl, HE.out, HA.out⟩
    · have hn : 1 ≤ n ∧ n ≤ 4 := by unfold inB at hp1; simpa using hp1
      obtain ⟨hn1, hn2⟩ := hn
      obtain ⟨p2, hp2⟩ : ∃ p, inB 0 (n - 1) s = p := ⟨_, rfl⟩
      have H2 := Lib.hid fun w => hp2 ▸ l1In_any s 0 (n - 1) w
      cases p2
      · obtain rfl : L = [] := by rw [← hL]; exact planL_no (by unfold planB taskB; simp [hp2])
        clear hp0 hp1 hp2 hL
        go_enter Try.func18, Try.ntmps18
        go_wp2_with fail
        refine (H0.out _).mono ?_
        rintro e w' ⟨rfl, rfl⟩
        go_wp2_with fail
        refine (H1.out _).mono ?_
        rintro e w' ⟨rfl, rfl⟩
        go_wp2_with fail
        refine (H2.out _).mono ?_
        rintro e w' ⟨rfl, rfl⟩
        go_wp2_with fail
        go_ret
        exact ⟨_, rfl, HE.out, HA.out⟩
      · have hs : 0 ≤ s ∧ s ≤ n - 1 := by unfold inB at hp2; simpa using hp2
        obtain ⟨hs1, hs2'⟩ := hs
        have hs2 : s < n := by omega
        obtain ⟨p3, hp3⟩ : ∃ p, inB 1 5 m = p := ⟨_, rfl⟩
        have H3 := Lib.hid fun w => hp3 ▸ l1In_any m 1 5 w
        cases p3
        · obtain rfl : L = [] := by rw [← hL]; exact planL_no (by unfold planB taskB; simp [hp3])
          clear hp0 hp1 hp2 hp3 hL
          go_enter Try.func18, Try.ntmps18
          go_wp2_with fail
          refine (H0.out _).mono ?_
          rintro e w' ⟨rfl, rfl⟩
          go_wp2_with fail
          refine (H1.out _).mono ?_
          rintro e w' ⟨rfl, rfl⟩
          go_wp2_with fail
          refine (H2.out _).mono ?_
          rintro e w' ⟨rfl, rfl⟩
          go_wp2_with fail
          refine (H3.out _).mono ?_
          rintro e w' ⟨rfl, rfl⟩
          go_wp2_with fail
          go_ret
          exact ⟨_, rfl, HE.out, HA.out⟩
        · have hm : 1 ≤ m ∧ m ≤ 5 := by unfold inB at hp3; simpa using hp3
          obtain ⟨hm1, hm2⟩ := hm
          have ht : taskB n s m = true := taskB_yes hn1 hn2 hs1 hs2 hm1 hm2
          rw [planL_yes (by unfold planB; rw [hp0, ht]; rfl)] at hL
          have hw := warmN_range (ds := ds) ht
          have HW := Lib.hid fun wx : World => specWarmUp_any wx ds n s m
          obtain ⟨W, hW⟩ : ∃ W : Nat, warmN ds n s m = (W : Int) := ⟨(warmN ds n s m).toNat, by omega⟩
          obtain ⟨M, hM⟩ : ∃ M : Nat, m = (M : Int) := ⟨m.toNat, by omega⟩
          subst hM
          rw [hW] at hL hw HW
          simp only [Int.toNat_natCast] at hL
          have HAH := Lib.hid fun (base : Nat) (wx : World) (v : Value) (xs : List dTwo) (j : Int) (h : InsR base wx v xs) (hB : base ≤ wx.heap.size) (hl : xs.length ≤ 1000000) => specAhead_any base wx v xs n s j h hB hl hn1 hn2 hs1 hs2
          have HBA := Lib.hid fun (base : Nat) (wx : World) (v : Value) (xs : List dTwo) (j : Int) (h : InsR base wx v xs) (hB : base ≤ wx.heap.size) (hl : xs.length ≤ 1000000) => specBack_any base wx v xs n s j r h hB hl hn1 hn2 hs1 hs2
          have HL := Lib.hid hL
          clear hp0 hp1 hp2 hp3 hL ht hW
          go_enter Try.func18, Try.ntmps18
          go_wp2_with fail
          refine (H0.out _).mono ?_
          rintro e w' ⟨rfl, rfl⟩
          go_wp2_with fail
          refine (H1.out _).mono ?_
          rintro e w' ⟨rfl, rfl⟩
          go_wp2_with fail
          refine (H2.out _).mono ?_
          rintro e w' ⟨rfl, rfl⟩
          go_wp2_with fail
          refine (H3.out _).mono ?_
          rintro e w' ⟨rfl, rfl⟩
          go_wp2_with fail
          refine (HW.out _).mono ?_
          rintro e w1 ⟨rfl, hb⟩
          have HE1 := Lib.hid (HE.out.below hb : InsR w.heap.size w1 _ _)
          have HA1 := Lib.hid (HA.out.trans (hb.mono HA.out.size))
          clear hb
          go_wp2_with fail
          go_loopw [11, 13] (fun l i wr => ∃ k : Nat, k ≤ W ∧ i = .int .i64 k ∧ InsR w.heap.size wr l (warmL n s k) ∧ Below w.heap.size w wr) (fun _ i _ => W - (intOf i).toNat)
          case atStart => exact ⟨0, Nat.zero_le _, rfl, HE1.out, HA1.out⟩
          case round =>
            obtain ⟨k, hk, rfl, hr, hb⟩ := hrel
            have hkl := warmL_length n s k
            by_cases hlt : k < W
            · have HC := Lib.hid (HAH.out _ _ _ _ (k : Int) hr hb.size (by omega))
              have HB := Lib.hid hb
              clear hr hb
              go_wp2_with fail
              refine HC.out.mono ?_
              rintro e w2 ⟨v2, rfl, hr, hb⟩
              have HR := Lib.hid hr
              have HB2 := Lib.hid (HB.out.trans hb)
              clear hr hb
              go_wp2_with fail
              go_roundw
              case rel => exact ⟨k + 1, by omega, by go_num, HR.out, HB2.out⟩
              case measure => simp [intOf]; omega
            · obtain rfl : k = W := by omega
              have HR := Lib.hid hr
              have HB := Lib.hid hb
              clear hr hb
              have hwl := warmL_length n s k
              go_wp2_with fail
              go_loopw [11, 14] (fun l i wq => ∃ j : Nat, j ≤ M ∧ i = .int .i64 j ∧ InsR w.heap.size wq l (warmL n s k ++ turnL n s (M : Int) r k j) ∧ Below w.heap.size w wq) (fun _ i _ => M - (intOf i).toNat)
              case atStart => exact ⟨0, Nat.zero_le _, rfl, by rw [turnL, List.append_nil]; exact HR.out, HB.out⟩
              case round =>
                obtain ⟨j, hj, rfl, hr, hb⟩ := hrel
                have hkl := turnL_length n s (M : Int) r k j
                have hln : (warmL n s k ++ turnL n s (M : Int) r k j).length ≤ 100 := by rw [List.length_append]; omega
                by_cases hlt : j < M
                · by_cases hin : k + j < M
                  · have hin' : (k : Int) + (j : Int) < (M : Int) := by omega
                    have hst : turnL n s (M : Int) r k (j + 1) = turnL n s (M : Int) r k j ++ (eachP (aheadK n s) ((k : Int) + (j : Int)) ++ eachP (backK n s r) (j : Int)) := by rw [turnL, if_pos hin']
                    have HST := Lib.hid hst
                    have HC := Lib.hid (HAH.out _ _ _ _ ((k : Int) + (j : Int)) hr hb.size (by omega))
                    have HB' := Lib.hid hb
                    clear hr hb hst
                    go_wp2_with fail
                    refine HC.out.mono ?_
                    rintro e w2 ⟨v2, rfl, hr, hb⟩
                    have HB2 := Lib.hid (HB'.out.trans hb)
                    have HC2 := Lib.hid (HBA.out _ _ _ _ (j : Int) hr HB2.out.size (by rw [List.length_append, eachP_length]; have := aheadK_length n s; omega))
                    clear hr hb
                    go_wp2_with fail
                    refine HC2.out.mono ?_
                    rintro e w3 ⟨v3, rfl, hr, hb⟩
                    rw [List.append_assoc, List.append_assoc, ← HST.out] at hr
                    have HR3 := Lib.hid hr
                    have HB3 := Lib.hid (HB2.out.trans hb)
                    clear hr hb
                    go_wp2_with fail
                    go_roundw
                    case rel => exact ⟨j + 1, by omega, by go_num, HR3.out, HB3.out⟩
                    case measure => simp [intOf]; omega
                  · have hin' : ¬ (k : Int) + (j : Int) < (M : Int) := by omega
                    have hst : turnL n s (M : Int) r k (j + 1) = turnL n s (M : Int) r k j ++ eachP (backK n s r) (j : Int) := by rw [turnL, if_neg hin', List.nil_append]
                    have HST := Lib.hid hst
                    have HC2 := Lib.hid (HBA.out _ _ _ _ (j : Int) hr hb.size (by omega))
                    have HB2 := Lib.hid hb
                    clear hr hb hst
                    go_wp2_with fail
                    refine HC2.out.mono ?_
                    rintro e w3 ⟨v3, rfl, hr, hb⟩
                    rw [List.append_assoc, ← HST.out] at hr
                    have HR3 := Lib.hid hr
                    have HB3 := Lib.hid (HB2.out.trans hb)
                    clear hr hb
                    go_wp2_with fail
                    go_roundw
                    case rel => exact ⟨j + 1, by omega, by go_num, HR3.out, HB3.out⟩
                    case measure => simp [intOf]; omega
                · obtain rfl : j = M := by omega
                  obtain ⟨a1, c1, rfl, -⟩ := hr.form
                  have R := Lib.hid hr
                  have B := Lib.hid hb
                  clear hr hb
                  go_wp2_with (at_builtin; refine wpList_ins rfl _ _ rfl _ _ _ _ rfl R.out rfl (by omega) (by have := B.out.size; omega) ?_; intro a1 n1 c1 w1 hr hb; have R' := Lib.hid hr; have B' := Lib.hid (B.out.trans hb); clear hr hb R B; have R := R'; have B := B'; clear R' B')
                  go_ret
                  refine ⟨_, rfl, ?_, B.out⟩
                  rw [← HL.out]
                  exact R.out
end Go.Proofs.Ytikjhpljaanakaa
