/-
  Right plans: the model's PlanOk.
-/
import Derived.Test.YtikjhpljaanakaaPlanL
namespace Go.Proofs.Ytikjhpljaanakaa
open Go.RowKit Go.Sort
set_option linter.unusedVariables false
set_option linter.unusedSimpArgs false

/-- What the model asks. -/
theorem planOk_spec {xs : List dTwo} {n s : Int} {M : Nat} {r : Bool} {N K : Nat} {ks : List Int} {R : Bool} (hR : R = true ↔ PlanOkP xs n s (M : Int) r) (ht : taskB n s (M : Int) = true) (hN : xs.length = N) (hks : kindsK n s r 1 7 = ks) (hK : ks.length = K) :
    R = true ↔ (N = M * K + 1 ∧ gX xs (N - 1) = (8, 0) ∧ ∀ k, k < K → ∀ j, j < M → PlaceOk (gX xs) (fun k => ks.getD k 0) N k j) := by
  obtain ⟨hK0, hK7, hKK⟩ := kinds_ok n s r
  have hM := (taskB_has ht).2.2.2.2.1
  have hkk : kkX n s r = fun k => ks.getD k 0 := by funext k; unfold kkX; rw [hks]
  rw [hks, hK] at hK0 hKK
  rw [hkk] at hKK
  rw [hR]
  constructor
  · intro h
    have h1 := h.impl
    have h2 := h.last
    have h3 := h.some
    rw [hks, hK, hkk, Int.toNat_natCast, hN] at h1
    rw [hN] at h2 h3
    obtain ⟨h4, h5⟩ := impl_spec hKK h2 h1
    refine ⟨by omega, h2, ?_⟩
    rw [Nat.sub_add_cancel (by omega)] at h5
    exact h5
  · rintro ⟨h1, h2, h3⟩
    refine ⟨ht, by rw [hN]; omega, by rw [hN]; exact h2, ?_⟩
    rw [hks, hK, hkk, Int.toNat_natCast, hN]
    refine spec_impl hKK hK0 (by omega) h2 ⟨by omega, ?_⟩
    rw [Nat.sub_add_cancel (by omega)]
    exact h3
set_option maxRecDepth 100000 in
set_option maxHeartbeats 6400000 in
theorem specPlanOk_any (w : World) (a : Option Addr) (N c : Nat) (xs : List dTwo) (n s m : Int) (r : Bool) (h : TwoIn w.heap.size w a N xs) (R : Bool) (hR : R = true ↔ PlanOkP xs n s m r) :
    Calls Try.prog 14 #[.slice a N c, .int .i64 n, .int .i64 s, .int .i64 m, .bool r] w fun e w' => e = .returned (.bool R) ∧ Below w.heap.size w w' := by
  have hroom := h.room
  have H0 := Lib.hid h
  have HR := Lib.hid hR
  have HLEN := Lib.hid h.len
  have notTask : taskB n s m = false → R = false := fun e => by
    cases R
    · rfl
    · have := (HR.out.1 rfl).task
      rw [e] at this
      cases this
  clear h hR
  obtain ⟨p1, hp1⟩ : ∃ p, inB 1 4 n = p := ⟨_, rfl⟩
  have H1 := Lib.hid fun w => hp1 ▸ l1In_any n 1 4 w
  cases p1
  · obtain rfl : R = false := notTask (by unfold taskB; simp [hp1])
    clear hp1 notTask
    go_enter Try.func14, Try.ntmps14
    go_wp2_with fail
    refine (H1.out _).mono ?_
    rintro e w' ⟨rfl, rfl⟩
    go_wp2_with fail
    go_ret
    exact ⟨rfl, Below.refl _ _⟩
  · have hn : 1 ≤ n ∧ n ≤ 4 := by unfold inB at hp1; simpa using hp1
    obtain ⟨hn1, hn2⟩ := hn
    obtain ⟨p2, hp2⟩ : ∃ p, inB 0 (n - 1) s = p := ⟨_, rfl⟩
    have H2 := Lib.hid fun w => hp2 ▸ l1In_any s 0 (n - 1) w
    cases p2
    · obtain rfl : R = false := notTask (by unfold taskB; simp [hp2])
      clear hp1 hp2 notTask
      go_enter Try.func14, Try.ntmps14
      go_wp2_with fail
      refine (H1.out _).mono ?_
      rintro e w' ⟨rfl, rfl⟩
      go_wp2_with fail
      refine (H2.out _).mono ?_
      rintro e w' ⟨rfl, rfl⟩
      go_wp2_with fail
      go_ret
      exact ⟨rfl, Below.refl _ _⟩
    · have hs : 0 ≤ s ∧ s ≤ n - 1 := by unfold inB at hp2; simpa using hp2
      obtain ⟨hs1, hs2'⟩ := hs
      have hs2 : s < n := by omega
      obtain ⟨p3, hp3⟩ : ∃ p, inB 1 5 m = p := ⟨_, rfl⟩
      have H3 := Lib.hid fun w => hp3 ▸ l1In_any m 1 5 w
      cases p3
      · obtain rfl : R = false := notTask (by unfold taskB; simp [hp3])
        clear hp1 hp2 hp3 notTask
        go_enter Try.func14, Try.ntmps14
        go_wp2_with fail
        refine (H1.out _).mono ?_
        rintro e w' ⟨rfl, rfl⟩
        go_wp2_with fail
        refine (H2.out _).mono ?_
        rintro e w' ⟨rfl, rfl⟩
        go_wp2_with fail
        refine (H3.out _).mono ?_
        rintro e w' ⟨rfl, rfl⟩
        go_wp2_with fail
        go_ret
        exact ⟨rfl, Below.refl _ _⟩
      · have hm : 1 ≤ m ∧ m ≤ 5 := by unfold inB at hp3; simpa using hp3
        obtain ⟨hm1, hm2⟩ := hm
        obtain ⟨M, hM⟩ : ∃ M : Nat, m = (M : Int) := ⟨m.toNat, by omega⟩
        subst hM
        have ht : taskB n s (M : Int) = true := taskB_yes hn1 hn2 hs1 hs2 hm1 hm2
        obtain ⟨hK0, hK7, -⟩ := kinds_ok n s r
        have HO := Lib.hid fun wx : World => specOrder_any wx n s r hn1 hn2 hs1 hs2
        obtain ⟨ks, hks⟩ : ∃ ks, kindsK n s r 1 7 = ks := ⟨_, rfl⟩
        obtain ⟨K, hK⟩ : ∃ K, ks.length = K := ⟨_, rfl⟩
        have hiff := planOk_spec HR.out ht HLEN.out hks hK
        rw [hks, hK] at hK0 hK7
        rw [hks] at HO
        obtain ⟨kk, hkk⟩ : ∃ kk : Nat → Int, kk = fun k => ks.getD k 0 := ⟨_, rfl⟩
        obtain ⟨g, hg⟩ : ∃ g, gX xs = g := ⟨_, rfl⟩
        rw [← hkk, hg] at hiff
        obtain ⟨T, hT⟩ : ∃ T : Nat, M * K = T := ⟨_, rfl⟩
        have hT35 : T ≤ 35 := by
          have h1 : M * K ≤ 5 * 7 := Nat.mul_le_mul (by omega) hK7
          omega
        have hTi : (M : Int) * (K : Int) = (T : Int) := by rw [← hT]; simp
        rw [hT] at hiff
        have HIFF := Lib.hid hiff
        have HKL := Lib.hid hK
        have HKF := Lib.hid hkk
        have HG := Lib.hid hg
        have HP := Lib.hid fun (wx : World) (hx : Below w.heap.size w wx) (k j : Int) => specPlace_any wx w.heap.size a N c xs k j (H0.out.below hx (Nat.le_refl _))
        rw [hg] at HP
        clear hp1 hp2 hp3 notTask ht hks hK hiff hkk hg hT
        by_cases hNT : N = T + 1
        · subst hNT
          obtain ⟨b, o, rfl, hbB, hz0, hz1⟩ := H0.out.cells T (by omega)
          obtain ⟨Z, hZ⟩ : ∃ Z, Z = xs.getD T (0, 0) := ⟨_, rfl⟩
          rw [← hZ] at hz0 hz1
          obtain ⟨Z1, Z2⟩ := Z
          dsimp only at hz0 hz1
          have hgZ : g T = (Z1, Z2) := by rw [← HG.out]; unfold gX; exact hZ.symm
          have HGZ := Lib.hid hgZ
          clear hZ hgZ
          by_cases e1 : Z1 = 8
          · by_cases e2 : Z2 = 0
            · obtain rfl := e1
              obtain rfl := e2
              go_enter Try.func14, Try.ntmps14
              go_wp2_with fail
              refine (H1.out _).mono ?_
              rintro e w' ⟨rfl, rfl⟩
              go_wp2_with fail
              refine (H2.out _).mono ?_
              rintro e w' ⟨rfl, rfl⟩
              go_wp2_with fail
              refine (H3.out _).mono ?_
              rintro e w' ⟨rfl, rfl⟩
              go_wp2_with fail
              refine (HO.out _).mono ?_
              rintro e w3 ⟨v3, rfl, hr, hb⟩
              obtain ⟨a3, cp3, rfl, hi3⟩ := hr.form' HKL (by omega)
              have I3 := Lib.hid hi3
              have HB := Lib.hid hb
              have d0 := (hb.cell (p := ⟨b, o + T * 2, none⟩) hbB).trans hz0
              have d1 := (hb.cell (p := ⟨b, o + T * 2 + 1, none⟩) hbB).trans hz1
              clear hz0 hz1
              clear hr hb hi3
              go_wp2_with fail
              go_loop [12] (fun i => ∃ k : Nat, k ≤ K ∧ i = .int .i64 k ∧ Hid (∀ q, q < k → ∀ j, j < M → PlaceOk g kk (T + 1) q j)) (fun i => K - (intOf i).toNat)
              case atStart => exact ⟨0, Nat.zero_le _, rfl, Lib.hid fun q hq => absurd hq (Nat.not_lt_zero _)⟩
              case round =>
                obtain ⟨k, hk, rfl, hall⟩ := hrel
                by_cases hltk : k < K
                · obtain ⟨bk, ok, rfl, hbk, hck⟩ := I3.out.cells k hltk
                  obtain ⟨X, hX⟩ : ∃ X, X = ks.getD k 0 := ⟨_, rfl⟩
                  rw [← hX] at hck
                  have hkX : kk k = X := by rw [HKF.out, hX]
                  have HKX := Lib.hid hkX
                  clear hX hkX
                  go_wp2_with fail
                  go_loop [13] (fun i => ∃ j : Nat, j ≤ M ∧ i = .int .i64 j ∧ Hid (∀ i, i < j → PlaceOk g kk (T + 1) k i)) (fun i => M - (intOf i).toNat)
                  case atStart => exact ⟨0, Nat.zero_le _, rfl, Lib.hid fun q hq => absurd hq (Nat.not_lt_zero _)⟩
                  case round =>
                    obtain ⟨j, hj, rfl, hinn⟩ := hrel
                    by_cases hltj : j < M
                    · have HCA := HP.out w3 HB.out X (j : Int)
                      obtain ⟨A, hA⟩ : ∃ A, placeG g (X, (j : Int)) (T + 1) = A := ⟨_, rfl⟩
                      rw [hA] at HCA
                      replace HCA := Lib.hid HCA
                      have HA := Lib.hid hA
                      have hAn : A ≤ (T : Int) + 1 ∧ -1 ≤ A := by
                        rw [← hA]
                        by_cases h0 : 0 ≤ placeG g (X, (j : Int)) (T + 1)
                        · obtain ⟨p, h1, h2, -⟩ := place_has h0
                          omega
                        · have := (show placeG g (X, (j : Int)) (T + 1) = -1 ∨ 0 ≤ placeG g (X, (j : Int)) (T + 1) by
                            unfold placeG
                            split
                            · rename_i h1
                              obtain ⟨p, -, h2, -⟩ := occ_one h1
                              right; omega
                            · left; rfl)
                          omega
                      obtain ⟨hAn1, hAn2⟩ := hAn
                      clear hA
                      by_cases hA0 : 0 ≤ A
                      · have dA : decide (A < 0) = false := decide_eq_false (by omega)
                        have hdA : ¬ A < 0 := by omega
                        by_cases hk0 : k = 0
                        · have gk : decide ((k : Int) > 0) = false := decide_eq_false (by omega)
                          have gk2 : ¬ 0 < k := by omega
                          clear hk0
                          by_cases hj0 : j = 0
                          · have gj : decide ((j : Int) > 0) = false := decide_eq_false (by omega)
                            have gj2 : ¬ 0 < j := by omega
                            clear hj0
                            have hok : Hid (PlaceOk g kk (T + 1) k j) := Lib.hid ⟨by rw [HKX.out, HA.out]; exact hA0, fun hh => by omega, fun hh => by omega⟩
                            go_wp2_with fail
                            refine HCA.out.mono ?_
                            rintro e w' ⟨rfl, rfl⟩
                            go_wp2_with fail
                            go_round
                            case rel =>
                              refine ⟨j + 1, by omega, by go_num, Lib.hid fun i hi => ?_⟩
                              by_cases e : i = j
                              · rw [e]; exact hok.out
                              · exact hinn.out i (by omega)
                            case measure => simp [intOf]; omega
                          · have gj : decide ((j : Int) > 0) = true := decide_eq_true (by omega)
                            have gj2 : 0 < j := by omega
                            clear hj0
                            have hcc := HP.out w3 HB.out X ((j : Int) - 1)
                            obtain ⟨C, hC⟩ : ∃ C, placeG g (X, ((j : Int) - 1)) (T + 1) = C := ⟨_, rfl⟩
                            rw [hC] at hcc
                            have HCC := Lib.hid hcc
                            have HC := Lib.hid hC
                            clear hcc hC
                            by_cases hCA : C < A
                            · have gc : decide (C ≥ A) = false := decide_eq_false (by omega)
                              have gc2 : decide (A ≤ C) = false := decide_eq_false (by omega)
                              have hok : Hid (PlaceOk g kk (T + 1) k j) := Lib.hid ⟨by rw [HKX.out, HA.out]; exact hA0, fun hh => by omega, fun hh => by rw [HKX.out, HA.out, HC.out]; exact hCA⟩
                              go_wp2_with fail
                              refine HCA.out.mono ?_
                              rintro e w' ⟨rfl, rfl⟩
                              go_wp2_with fail
                              refine HCC.out.mono ?_
                              rintro e w' ⟨rfl, rfl⟩
                              go_wp2_with fail
                              go_round
                              case rel =>
                                refine ⟨j + 1, by omega, by go_num, Lib.hid fun i hi => ?_⟩
                                by_cases e : i = j
                                · rw [e]; exact hok.out
                                · exact hinn.out i (by omega)
                              case measure => simp [intOf]; omega
                            · have gc : decide (C ≥ A) = true := decide_eq_true (by omega)
                              have gc2 : decide (A ≤ C) = true := decide_eq_true (by omega)
                              obtain rfl : R = false := by
                                cases R
                                · rfl
                                · exfalso
                                  have hq := (HIFF.out.1 rfl).2.2 k hltk j hltj
                                  have hq3 := hq.2.2 gj2
                                  rw [HKX.out, HA.out, HC.out] at hq3
                                  exact hCA hq3
                              go_wp2_with fail
                              refine HCA.out.mono ?_
                              rintro e w' ⟨rfl, rfl⟩
                              go_wp2_with fail
                              refine HCC.out.mono ?_
                              rintro e w' ⟨rfl, rfl⟩
                              go_wp2_with fail
                              go_ret
                              exact ⟨rfl, HB.out⟩
                        · have gk : decide ((k : Int) > 0) = true := decide_eq_true (by omega)
                          have gk2 : 0 < k := by omega
                          clear hk0
                          obtain ⟨k', hk'⟩ : ∃ k' : Nat, k = k' + 1 := ⟨k - 1, by omega⟩
                          have hkm : (k : Int) - 1 = (k' : Int) := by omega
                          obtain ⟨bk', ok', e', hbk', hck'⟩ := I3.out.cells k' (by omega)
                          cases e'
                          obtain ⟨Y, hY⟩ : ∃ Y, Y = ks.getD k' 0 := ⟨_, rfl⟩
                          rw [← hY] at hck'
                          have hkY : kk (k - 1) = Y := by rw [HKF.out, hY, hk']; rfl
                          have HKY := Lib.hid hkY
                          have hbb := HP.out w3 HB.out Y (j : Int)
                          obtain ⟨D, hD⟩ : ∃ D, placeG g (Y, (j : Int)) (T + 1) = D := ⟨_, rfl⟩
                          rw [hD] at hbb
                          have HBB := Lib.hid hbb
                          have HD := Lib.hid hD
                          have hk7 : k' ≤ 7 := by omega
                          have HK' := Lib.hid hk'
                          clear hbb hD hY hkY hk'
                          by_cases hDA : D < A
                          · have gd : decide (D ≥ A) = false := decide_eq_false (by omega)
                            have gd2 : decide (A ≤ D) = false := decide_eq_false (by omega)
                            by_cases hj0 : j = 0
                            · have gj : decide ((j : Int) > 0) = false := decide_eq_false (by omega)
                              have gj2 : ¬ 0 < j := by omega
                              clear hj0
                              have hok : Hid (PlaceOk g kk (T + 1) k j) := Lib.hid ⟨by rw [HKX.out, HA.out]; exact hA0, fun hh => by rw [HKX.out, HKY.out, HA.out, HD.out]; exact hDA, fun hh => by omega⟩
                              go_wp2_with fail
                              refine HCA.out.mono ?_
                              rintro e w' ⟨rfl, rfl⟩
                              go_wp2_with fail
                              refine HBB.out.mono ?_
                              rintro e w' ⟨rfl, rfl⟩
                              go_wp2_with fail
                              go_round
                              case rel =>
                                refine ⟨j + 1, by omega, by go_num, Lib.hid fun i hi => ?_⟩
                                by_cases e : i = j
                                · rw [e]; exact hok.out
                                · exact hinn.out i (by omega)
                              case measure => simp [intOf]; omega
                            · have gj : decide ((j : Int) > 0) = true := decide_eq_true (by omega)
                              have gj2 : 0 < j := by omega
                              clear hj0
                              have hcc := HP.out w3 HB.out X ((j : Int) - 1)
                              obtain ⟨C, hC⟩ : ∃ C, placeG g (X, ((j : Int) - 1)) (T + 1) = C := ⟨_, rfl⟩
                              rw [hC] at hcc
                              have HCC := Lib.hid hcc
                              have HC := Lib.hid hC
                              clear hcc hC
                              by_cases hCA : C < A
                              · have gc : decide (C ≥ A) = false := decide_eq_false (by omega)
                                have gc2 : decide (A ≤ C) = false := decide_eq_false (by omega)
                                have hok : Hid (PlaceOk g kk (T + 1) k j) := Lib.hid ⟨by rw [HKX.out, HA.out]; exact hA0, fun hh => by rw [HKX.out, HKY.out, HA.out, HD.out]; exact hDA, fun hh => by rw [HKX.out, HA.out, HC.out]; exact hCA⟩
                                go_wp2_with fail
                                refine HCA.out.mono ?_
                                rintro e w' ⟨rfl, rfl⟩
                                go_wp2_with fail
                                refine HBB.out.mono ?_
                                rintro e w' ⟨rfl, rfl⟩
                                go_wp2_with fail
                                refine HCC.out.mono ?_
                                rintro e w' ⟨rfl, rfl⟩
                                go_wp2_with fail
                                go_round
                                case rel =>
                                  refine ⟨j + 1, by omega, by go_num, Lib.hid fun i hi => ?_⟩
                                  by_cases e : i = j
                                  · rw [e]; exact hok.out
                                  · exact hinn.out i (by omega)
                                case measure => simp [intOf]; omega
                              · have gc : decide (C ≥ A) = true := decide_eq_true (by omega)
                                have gc2 : decide (A ≤ C) = true := decide_eq_true (by omega)
                                obtain rfl : R = false := by
                                  cases R
                                  · rfl
                                  · exfalso
                                    have hq := (HIFF.out.1 rfl).2.2 k hltk j hltj
                                    have hq3 := hq.2.2 gj2
                                    rw [HKX.out, HA.out, HC.out] at hq3
                                    exact hCA hq3
                                go_wp2_with fail
                                refine HCA.out.mono ?_
                                rintro e w' ⟨rfl, rfl⟩
                                go_wp2_with fail
                                refine HBB.out.mono ?_
                                rintro e w' ⟨rfl, rfl⟩
                                go_wp2_with fail
                                refine HCC.out.mono ?_
                                rintro e w' ⟨rfl, rfl⟩
                                go_wp2_with fail
                                go_ret
                                exact ⟨rfl, HB.out⟩
                          · have gd : decide (D ≥ A) = true := decide_eq_true (by omega)
                            have gd2 : decide (A ≤ D) = true := decide_eq_true (by omega)
                            obtain rfl : R = false := by
                              cases R
                              · rfl
                              · exfalso
                                have hq := (HIFF.out.1 rfl).2.2 k hltk j hltj
                                have hq2 := hq.2.1 gk2
                                rw [HKX.out, HKY.out, HA.out, HD.out] at hq2
                                exact hDA hq2
                            go_wp2_with fail
                            refine HCA.out.mono ?_
                            rintro e w' ⟨rfl, rfl⟩
                            go_wp2_with fail
                            refine HBB.out.mono ?_
                            rintro e w' ⟨rfl, rfl⟩
                            go_wp2_with fail
                            go_ret
                            exact ⟨rfl, HB.out⟩
                      · have dA : decide (A < 0) = true := decide_eq_true (by omega)
                        obtain rfl : R = false := by
                          cases R
                          · rfl
                          · exfalso
                            have hq := (HIFF.out.1 rfl).2.2 k hltk j hltj
                            have hq1 := hq.1
                            rw [HKX.out, HA.out] at hq1
                            exact hA0 hq1
                        go_wp2_with fail
                        refine HCA.out.mono ?_
                        rintro e w' ⟨rfl, rfl⟩
                        go_wp2_with fail
                        go_ret
                        exact ⟨rfl, HB.out⟩
                    · obtain rfl : j = M := by omega
                      go_wp2_with fail
                      go_round
                      case rel =>
                        refine ⟨k + 1, by omega, by go_num, Lib.hid fun q hq => ?_⟩
                        by_cases e : q = k
                        · rw [e]; exact fun i hi => hinn.out i hi
                        · exact hall.out q (by omega)
                      case measure => simp [intOf]; omega
                · obtain rfl : k = K := by omega
                  obtain rfl : R = true := HIFF.out.2 ⟨by trivial, by rw [Nat.add_sub_cancel, HGZ.out], hall.out⟩
                  go_wp2_with fail
                  go_ret
                  exact ⟨rfl, HB.out⟩
            · obtain rfl : R = false := by
                cases R
                · rfl
                · exfalso
                  have h2 := (HIFF.out.1 rfl).2.1
                  rw [Nat.add_sub_cancel, HGZ.out] at h2
                  exact e2 (congrArg Prod.snd h2)
              subst e1
              have hne : (Z2 == 0) = false := by simpa using e2
              go_enter Try.func14, Try.ntmps14
              go_wp2_with fail
              refine (H1.out _).mono ?_
              rintro e w' ⟨rfl, rfl⟩
              go_wp2_with fail
              refine (H2.out _).mono ?_
              rintro e w' ⟨rfl, rfl⟩
              go_wp2_with fail
              refine (H3.out _).mono ?_
              rintro e w' ⟨rfl, rfl⟩
              go_wp2_with fail
              refine (HO.out _).mono ?_
              rintro e w3 ⟨v3, rfl, hr, hb⟩
              obtain ⟨a3, cp3, rfl, hi3⟩ := hr.form' HKL (by omega)
              have I3 := Lib.hid hi3
              have HB := Lib.hid hb
              have d0 := (hb.cell (p := ⟨b, o + T * 2, none⟩) hbB).trans hz0
              have d1 := (hb.cell (p := ⟨b, o + T * 2 + 1, none⟩) hbB).trans hz1
              clear hz0 hz1
              clear hr hb hi3
              go_wp2_with fail
              go_ret
              exact ⟨rfl, HB.out⟩
          · obtain rfl : R = false := by
              cases R
              · rfl
              · exfalso
                have h2 := (HIFF.out.1 rfl).2.1
                rw [Nat.add_sub_cancel, HGZ.out] at h2
                exact e1 (congrArg Prod.fst h2)
            have hne : (Z1 == 8) = false := by simpa using e1
            go_enter Try.func14, Try.ntmps14
            go_wp2_with fail
            refine (H1.out _).mono ?_
            rintro e w' ⟨rfl, rfl⟩
            go_wp2_with fail
            refine (H2.out _).mono ?_
            rintro e w' ⟨rfl, rfl⟩
            go_wp2_with fail
            refine (H3.out _).mono ?_
            rintro e w' ⟨rfl, rfl⟩
            go_wp2_with fail
            refine (HO.out _).mono ?_
            rintro e w3 ⟨v3, rfl, hr, hb⟩
            obtain ⟨a3, cp3, rfl, hi3⟩ := hr.form' HKL (by omega)
            have I3 := Lib.hid hi3
            have HB := Lib.hid hb
            have d0 := (hb.cell (p := ⟨b, o + T * 2, none⟩) hbB).trans hz0
            have d1 := (hb.cell (p := ⟨b, o + T * 2 + 1, none⟩) hbB).trans hz1
            clear hz0 hz1
            clear hr hb hi3
            go_wp2_with fail
            go_ret
            exact ⟨rfl, HB.out⟩
        · obtain rfl : R = false := by
            cases R
            · rfl
            · exfalso
              exact hNT (HIFF.out.1 rfl).1
          have hne : ((N : Int) == (T : Int) + 1) = false := by simp; omega
          have hne2 : ((N : Int) != (T : Int) + 1) = true := by simp; omega
          go_enter Try.func14, Try.ntmps14
          go_wp2_with fail
          refine (H1.out _).mono ?_
          rintro e w' ⟨rfl, rfl⟩
          go_wp2_with fail
          refine (H2.out _).mono ?_
          rintro e w' ⟨rfl, rfl⟩
          go_wp2_with fail
          refine (H3.out _).mono ?_
          rintro e w' ⟨rfl, rfl⟩
          go_wp2_with fail
          refine (HO.out _).mono ?_
          rintro e w3 ⟨v3, rfl, hr, hb⟩
          obtain ⟨a3, cp3, rfl, hi3⟩ := hr.form' HKL (by omega)
          have I3 := Lib.hid hi3
          have HB := Lib.hid hb
          clear hr hb hi3
          go_wp2_with fail
          go_ret
          exact ⟨rfl, HB.out⟩
end Go.Proofs.Ytikjhpljaanakaa
