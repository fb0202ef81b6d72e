import Derived.Test.YtcooobnaocbdjaaGreatJoin15
import Derived.Test.YtcooobnaocbdjaaGreatJoin11
import Derived.Test.YtcooobnaocbdjaaGreatJoin12
import Derived.Test.YtcooobnaocbdjaaGreatJoin16
import Derived.Deep.DeepCutAuto
import Derived.Deep.RegionLaw
import Derived.Lib.QuietBelow
/-! YtcooobnaocbdjaaGreatPMatV -/
section

namespace Go.Proofs.YtcooobnaocbdjaaGreat
open Go.RowKit
set_option linter.unusedVariables false

end Go.Proofs.YtcooobnaocbdjaaGreat

end

/-! YtcooobnaocbdjaaGreatPOpS -/
section

namespace Go.Proofs.YtcooobnaocbdjaaGreat
open Go.RowKit Go.Sort
set_option linter.unusedVariables false

/-- What a kind's size is, once In and Out are right. -/
theorem opSz_no {k i o : Int} (h : inB 1 6 i = false ∨ inB 1 6 o = false) : opSz k i o = 0 := by
  unfold opSz
  rcases h with h | h <;> rw [h] <;> simp
theorem opSz_yes {k i o : Int} (hi : inB 1 6 i = true) (ho : inB 1 6 o = true) : opSz k i o = (if k = 1 ∨ k = 5 then i * o else if k = 2 then i else if k = 4 then 1 else 0) := by
  unfold opSz
  rw [hi, ho]
  rfl
set_option maxRecDepth 100000 in
theorem specOpSize_any (w : World) (k i o : Int) (a : Option Addr) (n cp : Nat) (xs : List Int) (h : IntsIn w.heap.size w a n xs) :
    Calls Tryz.prog 169 #[.agg #[.int .i64 k, .int .i64 i, .int .i64 o, .slice a n cp]] w fun e w' => e = .returned (.int .i64 (opSz k i o)) ∧ Below w.heap.size w w' := by
  have hal : Below w.heap.size w (w.alloc (.cells #[.int .i64 k, .int .i64 i, .int .i64 o, .slice a n cp] 156 (0, 0))) := (Below.refl _ _).alloc (Nat.le_refl _) _
  have HA := Lib.hid hal
  have HI := Lib.hid (fun w => l1In_any i 1 6 w)
  have HO := Lib.hid (fun w => l1In_any o 1 6 w)
  clear h hal
  obtain ⟨d, hd⟩ : ∃ d, d = opSz k i o := ⟨_, rfl⟩
  rw [← hd]
  have HD := Lib.hid hd
  clear hd
  cases hi : inB 1 6 i with
  | false =>
    have hdf : d = 0 := by rw [HD.out]; exact opSz_no (.inl hi)
    subst hdf
    rw [hi] at HI
    clear hi
    go_enter Tryz.func169, Tryz.ntmps169
    go_wp2_with fail
    refine (HI.out _).mono ?_
    rintro e w' ⟨rfl, rfl⟩
    go_wp2_with fail
    go_ret
    exact ⟨rfl, HA.out⟩
  | true =>
    cases ho : inB 1 6 o with
    | false =>
      have hdf : d = 0 := by rw [HD.out]; exact opSz_no (.inr ho)
      subst hdf
      rw [hi] at HI
      rw [ho] at HO
      clear hi ho
      go_enter Tryz.func169, Tryz.ntmps169
      go_wp2_with fail
      refine (HI.out _).mono ?_
      rintro e w' ⟨rfl, rfl⟩
      go_wp2_with fail
      refine (HO.out _).mono ?_
      rintro e w' ⟨rfl, rfl⟩
      go_wp2_with fail
      go_ret
      exact ⟨rfl, HA.out⟩
    | true =>
      have hp := prod36 hi ho
      have hdd : d = (if k = 1 ∨ k = 5 then i * o else if k = 2 then i else if k = 4 then 1 else 0) := by rw [HD.out]; exact opSz_yes hi ho
      have HDD := Lib.hid hdd
      obtain ⟨P, hP⟩ : ∃ P, i * o = P := ⟨_, rfl⟩
      have hw : wrap64 (i * o) = P := by rw [IntWalk.wrap64_in (i * o) (by omega)]; exact hP
      have HPP := Lib.hid hP
      rw [hi] at HI
      rw [ho] at HO
      clear hi ho hp hdd hP
      go_enter Tryz.func169, Tryz.ntmps169
      go_wp2_with fail
      refine (HI.out _).mono ?_
      rintro e w' ⟨rfl, rfl⟩
      go_wp2_with fail
      refine (HO.out _).mono ?_
      rintro e w' ⟨rfl, rfl⟩
      by_cases k1 : k = 1
      · subst k1
        have hdv : d = P := by rw [HDD.out, if_pos (.inl rfl)]; exact HPP.out
        subst hdv
        clear HDD HPP
        go_wp2_with fail
        go_ret
        exact ⟨by simp [hw], HA.out⟩
      · by_cases k5 : k = 5
        · subst k5
          have hdv : d = P := by rw [HDD.out, if_pos (.inr rfl)]; exact HPP.out
          subst hdv
          clear HDD HPP
          go_wp2_with fail
          go_ret
          exact ⟨by simp [hw], HA.out⟩
        · by_cases k2 : k = 2
          · subst k2
            have hdv : d = i := by rw [HDD.out]; simp
            subst hdv
            clear HDD HPP
            go_wp2_with fail
            go_ret
            exact ⟨rfl, HA.out⟩
          · by_cases k4 : k = 4
            · subst k4
              have hdv : d = 1 := by rw [HDD.out]; simp
              subst hdv
              clear HDD HPP
              go_wp2_with fail
              go_ret
              exact ⟨rfl, HA.out⟩
            · have e1 : (k == 1) = false := by simpa using k1
              have e2 : (k == 2) = false := by simpa using k2
              have e4 : (k == 4) = false := by simpa using k4
              have e5 : (k == 5) = false := by simpa using k5
              have hd0 : d = 0 := by rw [HDD.out]; simp [k1, k2, k4, k5]
              subst hd0
              go_wp2_with fail
              go_ret
              exact ⟨rfl, HA.out⟩

theorem opOk_k {k i o : Int} {ps : List Int} (h : inB 1 5 k = false) : opOkB k i o ps = false := by unfold opOkB; rw [h]; simp
theorem opOk_i {k i o : Int} {ps : List Int} (h : inB 1 6 i = false) : opOkB k i o ps = false := by unfold opOkB; rw [h]; simp
theorem opOk_o {k i o : Int} {ps : List Int} (h : inB 1 6 o = false) : opOkB k i o ps = false := by unfold opOkB; rw [h]; simp
theorem opOk_d {k i o : Int} {ps : List Int} (h1 : ¬ k = 1) (h2 : ¬ i = o) : opOkB k i o ps = false := by unfold opOkB; rw [decide_eq_false h1, decide_eq_false h2]; simp
theorem opOk_l {k i o : Int} {ps : List Int} (h : ¬ (ps.length : Int) = opSz k i o) : opOkB k i o ps = false := by unfold opOkB; rw [decide_eq_false h]; simp
theorem opOk_all {k i o : Int} {ps : List Int} (h1 : inB 1 5 k = true) (h2 : inB 1 6 i = true) (h3 : inB 1 6 o = true) (h4 : k = 1 ∨ i = o) (h5 : (ps.length : Int) = opSz k i o) : opOkB k i o ps = ps.all okB := by
  unfold opOkB
  rw [h1, h2, h3, decide_eq_true h5]
  rcases h4 with h | h <;> simp [h]

set_option maxRecDepth 100000 in
set_option maxHeartbeats 3200000 in
theorem specOpOk_any (w : World) (k i o : Int) (a : Option Addr) (n cp : Nat) (xs : List Int) (h : IntsIn w.heap.size w a n xs) :
    Calls Tryz.prog 117 #[.agg #[.int .i64 k, .int .i64 i, .int .i64 o, .slice a n cp]] w fun e w' => e = .returned (.bool (opOkB k i o xs)) ∧ Below w.heap.size w w' := by
  have hal : Below w.heap.size w (w.alloc (.cells #[.int .i64 k, .int .i64 i, .int .i64 o, .slice a n cp] 156 (0, 0))) := (Below.refl _ _).alloc (Nat.le_refl _) _
  have hx := h.below hal (Nat.le_refl _)
  have hroom := h.room
  have hl := h.len
  have HZ := fun (w : World) (h : IntsIn w.heap.size w a n xs) => specOpSize_any w k i o a n cp xs h
  have HX := Lib.hid hx
  have HA := Lib.hid hal
  have HK := Lib.hid (fun w => l1In_any k 1 5 w)
  have HI := Lib.hid (fun w => l1In_any i 1 6 w)
  have HO := Lib.hid (fun w => l1In_any o 1 6 w)
  have hb0 := heap_alloc_new w (.cells #[.int .i64 k, .int .i64 i, .int .i64 o, .slice a n cp] 156 (0, 0))
  have HB0 := Lib.hid hb0
  have hs0 : w.heap.size < (w.alloc (.cells #[.int .i64 k, .int .i64 i, .int .i64 o, .slice a n cp] 156 (0, 0))).heap.size := by simp
  have HS0 := Lib.hid hs0
  have HL := Lib.hid hl
  obtain ⟨d, hd⟩ : ∃ d, d = opOkB k i o xs := ⟨_, rfl⟩
  rw [← hd]
  have HD := Lib.hid hd
  obtain ⟨Z, hZ⟩ : ∃ Z, opSz k i o = Z := ⟨_, rfl⟩
  rw [hZ] at HZ
  have hp36 : inB 1 6 i = true → inB 1 6 o = true → i * o ≤ 36 := fun a b => (prod36 a b).2
  clear h hal hx hd hb0 hl hs0
  cases hk : inB 1 5 k with
  | false =>
    have hdf : d = false := by rw [HD.out]; exact opOk_k hk
    subst hdf
    rw [hk] at HK
    replace HZ := Lib.hid HZ
    clear hk hZ
    go_enter Tryz.func117, Tryz.ntmps117
    go_upto_region 1 with fail
    obtain ⟨⟨c0, c1, c2, c3⟩, -⟩ := cells4 HB0.out
    generalize w.alloc (.cells #[.int .i64 k, .int .i64 i, .int .i64 o, .slice a n cp] 156 (0, 0)) = wa at HX HA HB0 HS0 c0 c1 c2 c3 ⊢
    have k0 := cell_regrown c0
    have k1 := cell_regrown c1
    have k2 := cell_regrown c2
    have k3 := cell_regrown c3
    have cK := fun d os => Calls.regrown_of (w := wa) (d := d) (os := os) ((HK.out _).mono fun e w' h => ⟨h.1, h.2 ▸ Below.refl _ _⟩)
    have cI := fun d os => Calls.regrown_of (w := wa) (d := d) (os := os) ((HI.out _).mono fun e w' h => ⟨h.1, h.2 ▸ Below.refl _ _⟩)
    have cO := fun d os => Calls.regrown_of (w := wa) (d := d) (os := os) ((HO.out _).mono fun e w' h => ⟨h.1, h.2 ▸ Below.refl _ _⟩)
    have cZ := fun d os => Calls.regrown_of (w := wa) (d := d) (os := os) (HZ.out _ ((HX.out.below (below_regrown wa d os) HA.out.size).le (Nat.le_trans HA.out.size (below_regrown wa d os).size)))
    have CK := Lib.hid cK
    have CI := Lib.hid cI
    have CO := Lib.hid cO
    have CZ := Lib.hid cZ
    clear c0 c1 c2 c3 cK cI cO cZ
    refine wp_region_quiet_below (by kernel_rfl) (by kernel_rfl) ?_
    repeat (go_big_quiet_step (with_reducible first | exact CK.out _ _ | exact CI.out _ _ | exact CO.out _ _ | exact CZ.out _ _))
    refine wpQuiet_nil ?_
    intro _ hw'
    obtain ⟨⟨dq, osq⟩, hw''⟩ := hw'
    subst hw''
    have hwq := below_regrown wa dq osq
    generalize grow (redrawn wa dq) osq = w1 at hwq ⊢
    have HW := Lib.hid hwq
    clear hwq k0 k1 k2 k3
    go_wp2_with fail
    go_ret
    exact ⟨rfl, HA.out.trans (HW.out.mono HA.out.size)⟩
  | true =>
    cases hi : inB 1 6 i with
    | false =>
      have hdf : d = false := by rw [HD.out]; exact opOk_i hi
      subst hdf
      rw [hk] at HK
      rw [hi] at HI
      replace HZ := Lib.hid HZ
      clear hk hi hZ
      go_enter Tryz.func117, Tryz.ntmps117
      go_upto_region 1 with fail
      obtain ⟨⟨c0, c1, c2, c3⟩, -⟩ := cells4 HB0.out
      generalize w.alloc (.cells #[.int .i64 k, .int .i64 i, .int .i64 o, .slice a n cp] 156 (0, 0)) = wa at HX HA HB0 HS0 c0 c1 c2 c3 ⊢
      have k0 := cell_regrown c0
      have k1 := cell_regrown c1
      have k2 := cell_regrown c2
      have k3 := cell_regrown c3
      have cK := fun d os => Calls.regrown_of (w := wa) (d := d) (os := os) ((HK.out _).mono fun e w' h => ⟨h.1, h.2 ▸ Below.refl _ _⟩)
      have cI := fun d os => Calls.regrown_of (w := wa) (d := d) (os := os) ((HI.out _).mono fun e w' h => ⟨h.1, h.2 ▸ Below.refl _ _⟩)
      have cO := fun d os => Calls.regrown_of (w := wa) (d := d) (os := os) ((HO.out _).mono fun e w' h => ⟨h.1, h.2 ▸ Below.refl _ _⟩)
      have cZ := fun d os => Calls.regrown_of (w := wa) (d := d) (os := os) (HZ.out _ ((HX.out.below (below_regrown wa d os) HA.out.size).le (Nat.le_trans HA.out.size (below_regrown wa d os).size)))
      have CK := Lib.hid cK
      have CI := Lib.hid cI
      have CO := Lib.hid cO
      have CZ := Lib.hid cZ
      clear c0 c1 c2 c3 cK cI cO cZ
      refine wp_region_quiet_below (by kernel_rfl) (by kernel_rfl) ?_
      repeat (go_big_quiet_step (with_reducible first | exact CK.out _ _ | exact CI.out _ _ | exact CO.out _ _ | exact CZ.out _ _))
      refine wpQuiet_nil ?_
      intro _ hw'
      obtain ⟨⟨dq, osq⟩, hw''⟩ := hw'
      subst hw''
      have hwq := below_regrown wa dq osq
      generalize grow (redrawn wa dq) osq = w1 at hwq ⊢
      have HW := Lib.hid hwq
      clear hwq k0 k1 k2 k3
      go_wp2_with fail
      go_ret
      exact ⟨rfl, HA.out.trans (HW.out.mono HA.out.size)⟩
    | true =>
      cases ho : inB 1 6 o with
      | false =>
        have hdf : d = false := by rw [HD.out]; exact opOk_o ho
        subst hdf
        rw [hk] at HK
        rw [hi] at HI
        rw [ho] at HO
        replace HZ := Lib.hid HZ
        clear hk hi ho hZ
        go_enter Tryz.func117, Tryz.ntmps117
        go_upto_region 1 with fail
        obtain ⟨⟨c0, c1, c2, c3⟩, -⟩ := cells4 HB0.out
        generalize w.alloc (.cells #[.int .i64 k, .int .i64 i, .int .i64 o, .slice a n cp] 156 (0, 0)) = wa at HX HA HB0 HS0 c0 c1 c2 c3 ⊢
        have k0 := cell_regrown c0
        have k1 := cell_regrown c1
        have k2 := cell_regrown c2
        have k3 := cell_regrown c3
        have cK := fun d os => Calls.regrown_of (w := wa) (d := d) (os := os) ((HK.out _).mono fun e w' h => ⟨h.1, h.2 ▸ Below.refl _ _⟩)
        have cI := fun d os => Calls.regrown_of (w := wa) (d := d) (os := os) ((HI.out _).mono fun e w' h => ⟨h.1, h.2 ▸ Below.refl _ _⟩)
        have cO := fun d os => Calls.regrown_of (w := wa) (d := d) (os := os) ((HO.out _).mono fun e w' h => ⟨h.1, h.2 ▸ Below.refl _ _⟩)
        have cZ := fun d os => Calls.regrown_of (w := wa) (d := d) (os := os) (HZ.out _ ((HX.out.below (below_regrown wa d os) HA.out.size).le (Nat.le_trans HA.out.size (below_regrown wa d os).size)))
        have CK := Lib.hid cK
        have CI := Lib.hid cI
        have CO := Lib.hid cO
        have CZ := Lib.hid cZ
        clear c0 c1 c2 c3 cK cI cO cZ
        refine wp_region_quiet_below (by kernel_rfl) (by kernel_rfl) ?_
        repeat (go_big_quiet_step (with_reducible first | exact CK.out _ _ | exact CI.out _ _ | exact CO.out _ _ | exact CZ.out _ _))
        refine wpQuiet_nil ?_
        intro _ hw'
        obtain ⟨⟨dq, osq⟩, hw''⟩ := hw'
        subst hw''
        have hwq := below_regrown wa dq osq
        generalize grow (redrawn wa dq) osq = w1 at hwq ⊢
        have HW := Lib.hid hwq
        clear hwq k0 k1 k2 k3
        go_wp2_with fail
        go_ret
        exact ⟨rfl, HA.out.trans (HW.out.mono HA.out.size)⟩
      | true =>
        by_cases h4 : k = 1 ∨ i = o
        · by_cases h5 : (n : Int) = Z
          · have hall : d = xs.all okB := by rw [HD.out]; exact opOk_all hk hi ho h4 (by rw [HL.out, hZ]; exact h5)
            have HAL := Lib.hid hall
            subst h5
            rw [hk] at HK
            rw [hi] at HI
            rw [ho] at HO
            replace HZ := Lib.hid HZ
            clear hk hi ho hZ hall
            have e4 : k = 1 ∨ (¬ k = 1 ∧ i = o) := by
              by_cases e : k = 1
              · exact .inl e
              · exact .inr ⟨e, h4.resolve_left e⟩
            clear h4
            rcases e4 with e4 | ⟨e4, e5⟩
            · subst e4
              go_enter Tryz.func117, Tryz.ntmps117
              go_upto_region 1 with fail
              obtain ⟨⟨c0, c1, c2, c3⟩, -⟩ := cells4 HB0.out
              generalize w.alloc (.cells #[.int .i64 1, .int .i64 i, .int .i64 o, .slice a n cp] 156 (0, 0)) = wa at HX HA HB0 HS0 c0 c1 c2 c3 ⊢
              have k0 := cell_regrown c0
              have k1 := cell_regrown c1
              have k2 := cell_regrown c2
              have k3 := cell_regrown c3
              have cK := fun d os => Calls.regrown_of (w := wa) (d := d) (os := os) ((HK.out _).mono fun e w' h => ⟨h.1, h.2 ▸ Below.refl _ _⟩)
              have cI := fun d os => Calls.regrown_of (w := wa) (d := d) (os := os) ((HI.out _).mono fun e w' h => ⟨h.1, h.2 ▸ Below.refl _ _⟩)
              have cO := fun d os => Calls.regrown_of (w := wa) (d := d) (os := os) ((HO.out _).mono fun e w' h => ⟨h.1, h.2 ▸ Below.refl _ _⟩)
              have cZ := fun d os => Calls.regrown_of (w := wa) (d := d) (os := os) (HZ.out _ ((HX.out.below (below_regrown wa d os) HA.out.size).le (Nat.le_trans HA.out.size (below_regrown wa d os).size)))
              have CK := Lib.hid cK
              have CI := Lib.hid cI
              have CO := Lib.hid cO
              have CZ := Lib.hid cZ
              clear c0 c1 c2 c3 cK cI cO cZ
              refine wp_region_quiet_below (by kernel_rfl) (by kernel_rfl) ?_
              repeat (go_big_quiet_step (with_reducible first | exact CK.out _ _ | exact CI.out _ _ | exact CO.out _ _ | exact CZ.out _ _))
              refine wpQuiet_nil ?_
              intro _ hw'
              obtain ⟨⟨dq, osq⟩, hw''⟩ := hw'
              subst hw''
              have hwq := below_regrown wa dq osq
              generalize grow (redrawn wa dq) osq = w1 at hwq ⊢
              have HW := Lib.hid hwq
              clear hwq k0 k1 k2 k3
              focus
                have HB := Lib.hid (HA.out.trans (HW.out.mono HA.out.size))
                have HX1 := Lib.hid (HX.out.below HW.out HA.out.size)
                have hr0 := (HW.out.block w.heap.size HS0.out).trans HB0.out
                obtain ⟨⟨c0, c1, c2, c3⟩, -⟩ := cells4 hr0
                clear hr0
                go_wp2_with fail
                go_loopw [3] (fun t wr => ∃ j : Nat, j ≤ n ∧ t = .int .i64 j ∧ Hid (∀ l, l < j → okB (xs.getD l 0) = true) ∧ wr = w1) (fun t _ => n - (intOf t).toNat)
                case atStart => exact ⟨0, Nat.zero_le _, rfl, fun l hl => absurd hl (Nat.not_lt_zero _), rfl⟩
                case round =>
                  obtain ⟨j, hj, rfl, hsame, rfl⟩ := hrel
                  by_cases hlt : j < n
                  · obtain ⟨b, p, rfl, hbB, hcell⟩ := HX1.out.cells j hlt
                    obtain ⟨X, hX⟩ : ∃ X, X = xs.getD j 0 := ⟨_, rfl⟩
                    rw [← hX] at hcell
                    have HXX := Lib.hid hX
                    clear hX
                    obtain ⟨o', ho'⟩ : ∃ o', okB X = o' := ⟨_, rfl⟩
                    have HS := Lib.hid (fun w => specFixOk_any X w)
                    rw [ho'] at HS
                    have HOO := Lib.hid ho'
                    clear ho'
                    cases o'
                    · have hdf : d = false := by rw [HAL.out]; exact all_place (by rw [HX1.out.len]; exact hlt) (by rw [← HXX.out]; exact HOO.out)
                      subst hdf
                      go_wp2_with fail
                      refine (HS.out _).mono ?_
                      rintro e w' ⟨rfl, rfl⟩
                      go_wp2_with fail
                      go_ret
                      exact ⟨rfl, HB.out⟩
                    · go_wp2_with fail
                      refine (HS.out _).mono ?_
                      rintro e w' ⟨rfl, rfl⟩
                      go_wp2_with fail
                      go_roundw
                      case rel =>
                        refine ⟨j + 1, by omega, by go_num, show Hid _ from fun l hl => ?_, trivial⟩
                        by_cases e : l = j
                        · subst e; rw [← HXX.out]; exact HOO.out
                        · exact hsame.out l (by omega)
                      case measure => simp [intOf]; omega
                  · obtain rfl : j = n := by omega
                    have hdt : d = true := by
                      rw [HAL.out]
                      exact all_of_get fun l hl => hsame.out l (by rw [HX1.out.len] at hl; exact hl)
                    subst hdt
                    go_wp2_with fail
                    go_ret
                    exact ⟨rfl, HB.out⟩
            · subst e5
              have e6 : (k == 1) = false := by simpa using e4
              have e6b : (k != 1) = true := by simpa using e4
              go_enter Tryz.func117, Tryz.ntmps117
              go_upto_region 1 with fail
              obtain ⟨⟨c0, c1, c2, c3⟩, -⟩ := cells4 HB0.out
              generalize w.alloc (.cells #[.int .i64 k, .int .i64 i, .int .i64 i, .slice a n cp] 156 (0, 0)) = wa at HX HA HB0 HS0 c0 c1 c2 c3 ⊢
              have k0 := cell_regrown c0
              have k1 := cell_regrown c1
              have k2 := cell_regrown c2
              have k3 := cell_regrown c3
              have cK := fun d os => Calls.regrown_of (w := wa) (d := d) (os := os) ((HK.out _).mono fun e w' h => ⟨h.1, h.2 ▸ Below.refl _ _⟩)
              have cI := fun d os => Calls.regrown_of (w := wa) (d := d) (os := os) ((HI.out _).mono fun e w' h => ⟨h.1, h.2 ▸ Below.refl _ _⟩)
              have cO := fun d os => Calls.regrown_of (w := wa) (d := d) (os := os) ((HO.out _).mono fun e w' h => ⟨h.1, h.2 ▸ Below.refl _ _⟩)
              have cZ := fun d os => Calls.regrown_of (w := wa) (d := d) (os := os) (HZ.out _ ((HX.out.below (below_regrown wa d os) HA.out.size).le (Nat.le_trans HA.out.size (below_regrown wa d os).size)))
              have CK := Lib.hid cK
              have CI := Lib.hid cI
              have CO := Lib.hid cO
              have CZ := Lib.hid cZ
              clear c0 c1 c2 c3 cK cI cO cZ
              refine wp_region_quiet_below (by kernel_rfl) (by kernel_rfl) ?_
              repeat (go_big_quiet_step (with_reducible first | exact CK.out _ _ | exact CI.out _ _ | exact CO.out _ _ | exact CZ.out _ _))
              refine wpQuiet_nil ?_
              intro _ hw'
              obtain ⟨⟨dq, osq⟩, hw''⟩ := hw'
              subst hw''
              have hwq := below_regrown wa dq osq
              generalize grow (redrawn wa dq) osq = w1 at hwq ⊢
              have HW := Lib.hid hwq
              clear hwq k0 k1 k2 k3
              focus
                have HB := Lib.hid (HA.out.trans (HW.out.mono HA.out.size))
                have HX1 := Lib.hid (HX.out.below HW.out HA.out.size)
                have hr0 := (HW.out.block w.heap.size HS0.out).trans HB0.out
                obtain ⟨⟨c0, c1, c2, c3⟩, -⟩ := cells4 hr0
                clear hr0
                go_wp2_with fail
                go_loopw [3] (fun t wr => ∃ j : Nat, j ≤ n ∧ t = .int .i64 j ∧ Hid (∀ l, l < j → okB (xs.getD l 0) = true) ∧ wr = w1) (fun t _ => n - (intOf t).toNat)
                case atStart => exact ⟨0, Nat.zero_le _, rfl, fun l hl => absurd hl (Nat.not_lt_zero _), rfl⟩
                case round =>
                  obtain ⟨j, hj, rfl, hsame, rfl⟩ := hrel
                  by_cases hlt : j < n
                  · obtain ⟨b, p, rfl, hbB, hcell⟩ := HX1.out.cells j hlt
                    obtain ⟨X, hX⟩ : ∃ X, X = xs.getD j 0 := ⟨_, rfl⟩
                    rw [← hX] at hcell
                    have HXX := Lib.hid hX
                    clear hX
                    obtain ⟨o', ho'⟩ : ∃ o', okB X = o' := ⟨_, rfl⟩
                    have HS := Lib.hid (fun w => specFixOk_any X w)
                    rw [ho'] at HS
                    have HOO := Lib.hid ho'
                    clear ho'
                    cases o'
                    · have hdf : d = false := by rw [HAL.out]; exact all_place (by rw [HX1.out.len]; exact hlt) (by rw [← HXX.out]; exact HOO.out)
                      subst hdf
                      go_wp2_with fail
                      refine (HS.out _).mono ?_
                      rintro e w' ⟨rfl, rfl⟩
                      go_wp2_with fail
                      go_ret
                      exact ⟨rfl, HB.out⟩
                    · go_wp2_with fail
                      refine (HS.out _).mono ?_
                      rintro e w' ⟨rfl, rfl⟩
                      go_wp2_with fail
                      go_roundw
                      case rel =>
                        refine ⟨j + 1, by omega, by go_num, show Hid _ from fun l hl => ?_, trivial⟩
                        by_cases e : l = j
                        · subst e; rw [← HXX.out]; exact HOO.out
                        · exact hsame.out l (by omega)
                      case measure => simp [intOf]; omega
                  · obtain rfl : j = n := by omega
                    have hdt : d = true := by
                      rw [HAL.out]
                      exact all_of_get fun l hl => hsame.out l (by rw [HX1.out.len] at hl; exact hl)
                    subst hdt
                    go_wp2_with fail
                    go_ret
                    exact ⟨rfl, HB.out⟩
          · have hdf : d = false := by rw [HD.out]; exact opOk_l (by rw [HL.out, hZ]; exact h5)
            subst hdf
            have hne : ((n : Int) == Z) = false := by simpa using h5
            rw [hk] at HK
            rw [hi] at HI
            rw [ho] at HO
            replace HZ := Lib.hid HZ
            clear hk hi ho hZ
            have e4 : k = 1 ∨ (¬ k = 1 ∧ i = o) := by
              by_cases e : k = 1
              · exact .inl e
              · exact .inr ⟨e, h4.resolve_left e⟩
            clear h4
            rcases e4 with e4 | ⟨e4, e5⟩
            · subst e4
              go_enter Tryz.func117, Tryz.ntmps117
              go_upto_region 1 with fail
              obtain ⟨⟨c0, c1, c2, c3⟩, -⟩ := cells4 HB0.out
              generalize w.alloc (.cells #[.int .i64 1, .int .i64 i, .int .i64 o, .slice a n cp] 156 (0, 0)) = wa at HX HA HB0 HS0 c0 c1 c2 c3 ⊢
              have k0 := cell_regrown c0
              have k1 := cell_regrown c1
              have k2 := cell_regrown c2
              have k3 := cell_regrown c3
              have cK := fun d os => Calls.regrown_of (w := wa) (d := d) (os := os) ((HK.out _).mono fun e w' h => ⟨h.1, h.2 ▸ Below.refl _ _⟩)
              have cI := fun d os => Calls.regrown_of (w := wa) (d := d) (os := os) ((HI.out _).mono fun e w' h => ⟨h.1, h.2 ▸ Below.refl _ _⟩)
              have cO := fun d os => Calls.regrown_of (w := wa) (d := d) (os := os) ((HO.out _).mono fun e w' h => ⟨h.1, h.2 ▸ Below.refl _ _⟩)
              have cZ := fun d os => Calls.regrown_of (w := wa) (d := d) (os := os) (HZ.out _ ((HX.out.below (below_regrown wa d os) HA.out.size).le (Nat.le_trans HA.out.size (below_regrown wa d os).size)))
              have CK := Lib.hid cK
              have CI := Lib.hid cI
              have CO := Lib.hid cO
              have CZ := Lib.hid cZ
              clear c0 c1 c2 c3 cK cI cO cZ
              refine wp_region_quiet_below (by kernel_rfl) (by kernel_rfl) ?_
              repeat (go_big_quiet_step (with_reducible first | exact CK.out _ _ | exact CI.out _ _ | exact CO.out _ _ | exact CZ.out _ _))
              refine wpQuiet_nil ?_
              intro _ hw'
              obtain ⟨⟨dq, osq⟩, hw''⟩ := hw'
              subst hw''
              have hwq := below_regrown wa dq osq
              generalize grow (redrawn wa dq) osq = w1 at hwq ⊢
              have HW := Lib.hid hwq
              clear hwq k0 k1 k2 k3
              focus
                have HB := Lib.hid (HA.out.trans (HW.out.mono HA.out.size))
                go_wp2_with fail
                go_ret
                exact ⟨rfl, HB.out⟩
            · subst e5
              have e6 : (k == 1) = false := by simpa using e4
              have e6b : (k != 1) = true := by simpa using e4
              go_enter Tryz.func117, Tryz.ntmps117
              go_upto_region 1 with fail
              obtain ⟨⟨c0, c1, c2, c3⟩, -⟩ := cells4 HB0.out
              generalize w.alloc (.cells #[.int .i64 k, .int .i64 i, .int .i64 i, .slice a n cp] 156 (0, 0)) = wa at HX HA HB0 HS0 c0 c1 c2 c3 ⊢
              have k0 := cell_regrown c0
              have k1 := cell_regrown c1
              have k2 := cell_regrown c2
              have k3 := cell_regrown c3
              have cK := fun d os => Calls.regrown_of (w := wa) (d := d) (os := os) ((HK.out _).mono fun e w' h => ⟨h.1, h.2 ▸ Below.refl _ _⟩)
              have cI := fun d os => Calls.regrown_of (w := wa) (d := d) (os := os) ((HI.out _).mono fun e w' h => ⟨h.1, h.2 ▸ Below.refl _ _⟩)
              have cO := fun d os => Calls.regrown_of (w := wa) (d := d) (os := os) ((HO.out _).mono fun e w' h => ⟨h.1, h.2 ▸ Below.refl _ _⟩)
              have cZ := fun d os => Calls.regrown_of (w := wa) (d := d) (os := os) (HZ.out _ ((HX.out.below (below_regrown wa d os) HA.out.size).le (Nat.le_trans HA.out.size (below_regrown wa d os).size)))
              have CK := Lib.hid cK
              have CI := Lib.hid cI
              have CO := Lib.hid cO
              have CZ := Lib.hid cZ
              clear c0 c1 c2 c3 cK cI cO cZ
              refine wp_region_quiet_below (by kernel_rfl) (by kernel_rfl) ?_
              repeat (go_big_quiet_step (with_reducible first | exact CK.out _ _ | exact CI.out _ _ | exact CO.out _ _ | exact CZ.out _ _))
              refine wpQuiet_nil ?_
              intro _ hw'
              obtain ⟨⟨dq, osq⟩, hw''⟩ := hw'
              subst hw''
              have hwq := below_regrown wa dq osq
              generalize grow (redrawn wa dq) osq = w1 at hwq ⊢
              have HW := Lib.hid hwq
              clear hwq k0 k1 k2 k3
              focus
                have HB := Lib.hid (HA.out.trans (HW.out.mono HA.out.size))
                go_wp2_with fail
                go_ret
                exact ⟨rfl, HB.out⟩
        · have h41 : ¬ k = 1 := fun e => h4 (.inl e)
          have h42 : ¬ i = o := fun e => h4 (.inr e)
          have hdf : d = false := by rw [HD.out]; exact opOk_d h41 h42
          subst hdf
          have e6 : (k == 1) = false := by simpa using h41
          have e6b : (k != 1) = true := by simpa using h41
          have e7 : (i == o) = false := by simpa using h42
          have e7b : (i != o) = true := by simpa using h42
          rw [hk] at HK
          rw [hi] at HI
          rw [ho] at HO
          replace HZ := Lib.hid HZ
          clear hk hi ho hZ h4 h41 h42
          go_enter Tryz.func117, Tryz.ntmps117
          go_upto_region 1 with fail
          obtain ⟨⟨c0, c1, c2, c3⟩, -⟩ := cells4 HB0.out
          generalize w.alloc (.cells #[.int .i64 k, .int .i64 i, .int .i64 o, .slice a n cp] 156 (0, 0)) = wa at HX HA HB0 HS0 c0 c1 c2 c3 ⊢
          have k0 := cell_regrown c0
          have k1 := cell_regrown c1
          have k2 := cell_regrown c2
          have k3 := cell_regrown c3
          have cK := fun d os => Calls.regrown_of (w := wa) (d := d) (os := os) ((HK.out _).mono fun e w' h => ⟨h.1, h.2 ▸ Below.refl _ _⟩)
          have cI := fun d os => Calls.regrown_of (w := wa) (d := d) (os := os) ((HI.out _).mono fun e w' h => ⟨h.1, h.2 ▸ Below.refl _ _⟩)
          have cO := fun d os => Calls.regrown_of (w := wa) (d := d) (os := os) ((HO.out _).mono fun e w' h => ⟨h.1, h.2 ▸ Below.refl _ _⟩)
          have cZ := fun d os => Calls.regrown_of (w := wa) (d := d) (os := os) (HZ.out _ ((HX.out.below (below_regrown wa d os) HA.out.size).le (Nat.le_trans HA.out.size (below_regrown wa d os).size)))
          have CK := Lib.hid cK
          have CI := Lib.hid cI
          have CO := Lib.hid cO
          have CZ := Lib.hid cZ
          clear c0 c1 c2 c3 cK cI cO cZ
          refine wp_region_quiet_below (by kernel_rfl) (by kernel_rfl) ?_
          repeat (go_big_quiet_step (with_reducible first | exact CK.out _ _ | exact CI.out _ _ | exact CO.out _ _ | exact CZ.out _ _))
          refine wpQuiet_nil ?_
          intro _ hw'
          obtain ⟨⟨dq, osq⟩, hw''⟩ := hw'
          subst hw''
          have hwq := below_regrown wa dq osq
          generalize grow (redrawn wa dq) osq = w1 at hwq ⊢
          have HW := Lib.hid hwq
          clear hwq k0 k1 k2 k3
          go_wp2_with fail
          go_ret
          exact ⟨rfl, HA.out.trans (HW.out.mono HA.out.size)⟩

end Go.Proofs.YtcooobnaocbdjaaGreat

end
