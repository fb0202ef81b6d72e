/-
  Plans: the program's Plan.
-/
import Derived.Test.YtikjhpljaanakaaPlanI
namespace Go.Proofs.Ytikjhpljaanakaa
open Go.RowKit Go.Sort
set_option linter.unusedVariables false
set_option linter.unusedSimpArgs false

/-- Two rows of kinds, and what was there stays. -/
def KindsR (w : World) (n s : Int) (r : Bool) (wx : World) (u v : Value) : Prop :=
  ∃ a k c a' k' c', u = .slice a k c ∧ v = .slice a' k' c' ∧ IntsIn wx.heap.size wx a k (aheadK n s) ∧ IntsIn wx.heap.size wx a' k' (backK n s r) ∧ Below w.heap.size w wx
theorem Row.small {base : Nat} {w : World} {v : Value} {xs : List Int} (h : Row base w v xs) (hl : xs.length ≤ 100) : ∃ a k c, v = .slice a k c ∧ IntsIn w.heap.size w a k xs := by
  obtain ⟨a, c, e, hi⟩ := h.form
  exact ⟨a, _, c, e, hi (by omega)⟩
set_option maxRecDepth 100000 in
set_option maxHeartbeats 3200000 in
theorem implPlan_any (w : World) (ds n s m : Int) (r : Bool) :
    Calls Try.prog 11 #[.int .i64 ds, .int .i64 n, .int .i64 s, .int .i64 m, .bool r] w fun e w' => ∃ v', e = .returned v' ∧ InsR w.heap.size w' v' (planL ds n s m r) ∧ Below w.heap.size w w' := by
  obtain ⟨L, hL⟩ : ∃ L, planL ds n s m r = L := ⟨_, rfl⟩
  rw [hL]
  have hal : Below w.heap.size w (w.alloc (.cells #[.int .i64 n, .int .i64 s, .int .i64 m, .bool r] 48 (0, 0))) := (Below.refl _ _).alloc (Nat.le_refl _) _
  have hb0 := heap_alloc_new w (.cells #[.int .i64 n, .int .i64 s, .int .i64 m, .bool r] 48 (0, 0))
  have hs0 : w.heap.size < (w.alloc (.cells #[.int .i64 n, .int .i64 s, .int .i64 m, .bool r] 48 (0, 0))).heap.size := by simp
  obtain ⟨c0, c1, c2, c3⟩ := box4 hb0
  have HA := Lib.hid hal
  have HB0 := Lib.hid hb0
  have HS0 := Lib.hid hs0
  clear hal hb0 hs0
  by_cases hd : ds = 1 ∨ ds = 2
  case neg =>
    obtain rfl : L = [] := by rw [← hL]; exact planL_no (by unfold planB; rw [inB_no (by omega)]; rfl)
    have hd1 : (ds == 1) = false := by simp; omega
    have hd2 : (ds == 2) = false := by simp; omega
    have he1 : (ds != 1) = true := by simp; omega
    have he2 : (ds != 2) = true := by simp; omega
    clear hL hd
    go_enter Try.func11, Try.ntmps11
    go_wp2_with fail
    go_ret
    exact ⟨_, rfl, TwoR.nil _ _, HA.out⟩
  case pos =>
    obtain ⟨p, hp⟩ : ∃ p, taskB n s m = p := ⟨_, rfl⟩
    have HOK := Lib.hid fun (wx : World) => hp ▸ implTaskOk_any wx n s m r
    cases p
    · obtain rfl : L = [] := by rw [← hL]; exact planL_no (by unfold planB; rw [hp]; simp)
      clear hL hp
      rcases hd with rfl | rfl
      all_goals
        go_enter Try.func11, Try.ntmps11
        go_wp2_with fail
        refine (HOK.out _).mono ?_
        rintro e w1 ⟨rfl, hb⟩
        have HX := Lib.hid (HA.out.trans (hb.mono HA.out.size))
        clear hb
        go_wp2_with fail
        go_ret
        exact ⟨_, rfl, TwoR.nil _ _, HX.out⟩
    · obtain ⟨hn1, hn2, hs1, hs2, hm1, hm2⟩ := taskB_has hp
      rw [planL_yes (by unfold planB; rw [hp, inB_yes (by omega) (by omega)]; rfl)] at hL
      have hw := warmN_range (ds := ds) hp
      have HW := Lib.hid fun wx : World => implWarmUp_any wx ds n s m
      obtain ⟨W, hW⟩ : ∃ W : Nat, warmN ds n s m = (W : Int) := ⟨(warmN ds n s m).toNat, by omega⟩
      obtain ⟨M, hM⟩ : ∃ M : Nat, m = (M : Int) := ⟨m.toNat, by omega⟩
      subst hM
      rw [hW] at hL hw HW
      simp only [Int.toNat_natCast] at hL
      have HL := Lib.hid hL
      have HK1 := Lib.hid fun wx : World => implKinds_any wx n s (M : Int) r 1 3 3 hn1 hn2 hs1 hs2 (by omega) (by omega) (by omega) (by omega)
      have HK2 := Lib.hid fun wx : World => implKinds_any wx n s (M : Int) r 4 4 7 hn1 hn2 hs1 hs2 (by omega) (by omega) (by omega) (by omega)
      rw [kinds_ahead] at HK1
      rw [kinds_back] at HK2
      have hla := aheadK_length n s
      have hlb := backK_length n s r
      clear hL hp hW
      rcases hd with rfl | rfl
      all_goals
        go_enter Try.func11, Try.ntmps11
        go_wp2_with fail
        refine (HOK.out _).mono ?_
        rintro e w1 ⟨rfl, hb⟩
        have HX := Lib.hid (HA.out.trans (hb.mono HA.out.size))
        have HB1 := Lib.hid ((hb.block w.heap.size HS0.out).trans HB0.out)
        have hs1' : w.heap.size < w1.heap.size := Nat.lt_of_lt_of_le HS0.out hb.size
        clear hb c0 c1 c2 c3
        obtain ⟨c0, c1, c2, c3⟩ := box4 HB1.out
        go_upto_region 4 with fail
        go_cut [12, 13] (fun u v wx => KindsR w1 n s r wx u v)
        case first =>
          have B := Lib.hid ((Below.refl w1.heap.size w1).drew)
          go_region_law (go_simp; first
            | (go_at_call 30; (with_reducible refine (HK1.out _).mono ?_); rintro e t1 ⟨u1, rfl, hr, hb⟩; replace B := Lib.hid (B.out.trans (hb.mono B.out.size)); obtain ⟨a1, k1, cp1, rfl, hi⟩ := hr.small (by omega); have I1 := Lib.hid hi; (try replace I2 := Lib.hid ((I2.out.below hb (Nat.le_refl _)).le hb.size)); obtain ⟨z0, z1, z2, z3⟩ := box4 ((B.out.block w.heap.size hs1').trans HB1.out); clear hr hb hi)
            | (go_at_call 30; (with_reducible refine (HK2.out _).mono ?_); rintro e t2 ⟨u2, rfl, hr, hb⟩; replace B := Lib.hid (B.out.trans (hb.mono B.out.size)); obtain ⟨a2, k2, cp2, rfl, hi⟩ := hr.small (by omega); have I2 := Lib.hid hi; (try replace I1 := Lib.hid ((I1.out.below hb (Nat.le_refl _)).le hb.size)); obtain ⟨y0, y1, y2, y3⟩ := box4 ((B.out.block w.heap.size hs1').trans HB1.out); clear hr hb hi))
          all_goals
            go_wp2_with fail
            go_meet
            case rel => exact ⟨_, _, _, _, _, _, rfl, rfl, I1.out, I2.out, B.out⟩
        case rest =>
          obtain ⟨a1, k1, cp1, a2, k2, cp2, rfl, rfl, hi1, hi2, hb⟩ := hcut
          obtain ⟨w2, rfl⟩ : ∃ x, x = wc := ⟨_, rfl⟩
          have hk1 : k1 ≤ 10 := by have := hi1.len; omega
          have hk2 : k2 ≤ 10 := by have := hi2.len; omega
          have I1 := Lib.hid hi1
          have I2 := Lib.hid hi2
          have HX2 := Lib.hid (HX.out.trans (hb.mono HX.out.size))
          clear hi1 hi2 hb c0 c1 c2 c3
          go_wp2_with fail
          refine (HW.out _).mono ?_
          rintro e w3 ⟨rfl, hb⟩
          have HX3 := Lib.hid (HX2.out.trans (hb.mono HX2.out.size))
          have J1 := Lib.hid ((I1.out.below hb (Nat.le_refl _)).le hb.size)
          have J2 := Lib.hid ((I2.out.below hb (Nat.le_refl _)).le hb.size)
          have HE3 := Lib.hid (TwoR.nil (T := 54) w3.heap.size w3)
          have HAE := Lib.hid fun (wx : World) (v : Value) (xs : List dTwo) (j : Int) (h : InsR w3.heap.size wx v xs) (hB : Below w3.heap.size w3 wx) (hl : xs.length ≤ 1000000) => implAddEach_any w3.heap.size wx v xs a1 k1 cp1 _ j h hB.size hl (J1.out.below hB (Nat.le_refl _)) hk1
          have HBE := Lib.hid fun (wx : World) (v : Value) (xs : List dTwo) (j : Int) (h : InsR w3.heap.size wx v xs) (hB : Below w3.heap.size w3 wx) (hl : xs.length ≤ 1000000) => implAddEach_any w3.heap.size wx v xs a2 k2 cp2 _ j h hB.size hl (J2.out.below hB (Nat.le_refl _)) hk2
          clear hb I1 I2
          go_wp2_with fail
          go_loopw [15, 44] (fun l i wr => ∃ k : Nat, k ≤ W ∧ i = .int .i64 k ∧ InsR w3.heap.size wr l (warmL n s k) ∧ Below w3.heap.size w3 wr) (fun _ i _ => W - (intOf i).toNat)
          case atStart => exact ⟨0, Nat.zero_le _, rfl, HE3.out, Below.refl _ _⟩
          case round =>
            obtain ⟨k, hk, rfl, hr, hb⟩ := hrel
            have hkl := warmL_length n s k
            by_cases hlt : k < W
            · have HC := Lib.hid (HAE.out _ _ _ (k : Int) hr hb (by omega))
              have HB := Lib.hid hb
              clear hr hb
              go_wp2_with fail
              refine HC.out.mono ?_
              rintro e w4 ⟨v2, rfl, hr, hb⟩
              have HR := Lib.hid hr
              have HB2 := Lib.hid (HB.out.trans hb)
              clear hr hb
              go_wp2_with fail
              go_roundw
              case rel => exact ⟨k + 1, by omega, by go_num, HR.out, HB2.out⟩
              case measure => simp [intOf]; omega
            · obtain rfl : k = W := by omega
              have HR := Lib.hid hr
              have HB := Lib.hid hb
              clear hr hb
              have hwl := warmL_length n s k
              go_wp2_with fail
              go_loopw [15, 53] (fun l i wq => ∃ j : Nat, j ≤ M ∧ i = .int .i64 j ∧ InsR w3.heap.size wq l (warmL n s k ++ turnL n s (M : Int) r k j) ∧ Below w3.heap.size w3 wq) (fun _ i _ => M - (intOf i).toNat)
              case atStart => exact ⟨0, Nat.zero_le _, rfl, by rw [turnL, List.append_nil]; exact HR.out, HB.out⟩
              case round =>
                obtain ⟨j, hj, rfl, hr, hb⟩ := hrel
                have hkl := turnL_length n s (M : Int) r k j
                have hln : (warmL n s k ++ turnL n s (M : Int) r k j).length ≤ 100 := by rw [List.length_append]; omega
                by_cases hlt : j < M
                · by_cases hin : j + k < M
                  · have hin' : (k : Int) + (j : Int) < (M : Int) := by omega
                    have hst : turnL n s (M : Int) r k (j + 1) = turnL n s (M : Int) r k j ++ (eachP (aheadK n s) ((j : Int) + (k : Int)) ++ eachP (backK n s r) (j : Int)) := by rw [turnL, if_pos hin', Int.add_comm (k : Int)]
                    have HST := Lib.hid hst
                    have HC := Lib.hid (HAE.out _ _ _ ((j : Int) + (k : Int)) hr hb (by omega))
                    have HB' := Lib.hid hb
                    clear hr hb hst
                    go_wp2_with fail
                    refine HC.out.mono ?_
                    rintro e w5 ⟨v2, rfl, hr, hb⟩
                    have HB2 := Lib.hid (HB'.out.trans hb)
                    have HC2 := Lib.hid (HBE.out _ _ _ (j : Int) hr HB2.out (by rw [List.length_append, eachP_length]; omega))
                    clear hr hb
                    go_wp2_with fail
                    refine HC2.out.mono ?_
                    rintro e w6 ⟨v3, rfl, hr, hb⟩
                    rw [List.append_assoc, List.append_assoc, ← HST.out] at hr
                    have HR3 := Lib.hid hr
                    have HB3 := Lib.hid (HB2.out.trans hb)
                    clear hr hb
                    go_wp2_with fail
                    go_roundw
                    case rel => exact ⟨j + 1, by omega, by go_num, HR3.out, HB3.out⟩
                    case measure => simp [intOf]; omega
                  · have hin' : ¬ (k : Int) + (j : Int) < (M : Int) := by omega
                    have hst : turnL n s (M : Int) r k (j + 1) = turnL n s (M : Int) r k j ++ eachP (backK n s r) (j : Int) := by rw [turnL, if_neg hin', List.nil_append]
                    have HST := Lib.hid hst
                    have HC2 := Lib.hid (HBE.out _ _ _ (j : Int) hr hb (by omega))
                    have HB2 := Lib.hid hb
                    clear hr hb hst
                    go_wp2_with fail
                    refine HC2.out.mono ?_
                    rintro e w6 ⟨v3, rfl, hr, hb⟩
                    rw [List.append_assoc, ← HST.out] at hr
                    have HR3 := Lib.hid hr
                    have HB3 := Lib.hid (HB2.out.trans hb)
                    clear hr hb
                    go_wp2_with fail
                    go_roundw
                    case rel => exact ⟨j + 1, by omega, by go_num, HR3.out, HB3.out⟩
                    case measure => simp [intOf]; omega
                · obtain rfl : j = M := by omega
                  obtain ⟨a1, c1, rfl, -⟩ := hr.form
                  have R := Lib.hid hr
                  have B := Lib.hid hb
                  clear hr hb
                  go_wp2_with (at_builtin; refine wpList_ins rfl _ _ rfl _ _ _ _ rfl R.out rfl (by omega) (by have := B.out.size; omega) ?_; intro a1 n1 c1 w1 hr hb; have R' := Lib.hid hr; have B' := Lib.hid (B.out.trans hb); clear hr hb R B; have R := R'; have B := B'; clear R' B')
                  go_ret
                  have hfin := TwoR.le R.out (HX3.out.size)
                  rw [HL.out] at hfin
                  exact ⟨_, rfl, hfin, HX3.out.trans (B.out.mono HX3.out.size)⟩
end Go.Proofs.Ytikjhpljaanakaa
