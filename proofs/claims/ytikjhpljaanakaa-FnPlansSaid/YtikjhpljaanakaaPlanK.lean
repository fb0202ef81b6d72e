/-
  Right plans: the program's.
-/
import Derived.Test.YtikjhpljaanakaaPlanR
import Derived.Test.YtikjhpljaanakaaPlanI
namespace Go.Proofs.Ytikjhpljaanakaa
open Go.RowKit Go.Sort
set_option linter.unusedVariables false
set_option linter.unusedSimpArgs false

set_option maxRecDepth 100000 in
set_option maxHeartbeats 1600000 in
theorem implIndex_any (w : World) (B : Nat) (a : Option Addr) (K c : Nat) (ks : List Int) (x : Int) (h : IntsIn B w a K ks) :
    Calls Try.prog 38 #[.slice a K c, .int .i64 x] w fun e w' => (∃ i : Int, e = .returned (.int .i64 i) ∧ ((i = -1 ∧ ∀ k, k < K → ks.getD k 0 ≠ x) ∨ ∃ k : Nat, k < K ∧ i = (k : Int) ∧ ks.getD k 0 = x)) ∧ w = w' := by
  have hroom := h.room
  have H := Lib.hid h
  clear h
  go_enter Try.func38, Try.ntmps38
  go_wp2_with fail
  go_loop [8] (fun i => ∃ k : Nat, k ≤ K ∧ i = .int .i64 k ∧ Hid (∀ j, j < k → ks.getD j 0 ≠ x)) (fun i => K - (intOf i).toNat)
  case atStart => exact ⟨0, Nat.zero_le _, rfl, Lib.hid fun j hj => absurd hj (Nat.not_lt_zero _)⟩
  case round =>
    obtain ⟨k, hk, rfl, hall⟩ := hrel
    by_cases hlt : k < K
    · obtain ⟨b, o, rfl, hbB, hc0⟩ := H.out.cells k hlt
      obtain ⟨X, hX⟩ : ∃ X, X = ks.getD k 0 := ⟨_, rfl⟩
      rw [← hX] at hc0
      have HX := Lib.hid hX
      clear hX
      by_cases e : x = X
      · subst e
        go_wp2_with fail
        go_ret
        exact ⟨⟨_, rfl, .inr ⟨k, hlt, rfl, HX.out.symm⟩⟩, rfl⟩
      · have hne : (x == X) = false := by simpa using e
        have hal : Hid (∀ j, j < k + 1 → ks.getD j 0 ≠ x) := Lib.hid fun j hj => by
          by_cases e2 : j = k
          · subst e2; rw [← HX.out]; exact fun e3 => e e3.symm
          · exact hall.out j (by omega)
        go_wp2_with fail
        go_round
        case rel => exact ⟨k + 1, by omega, by go_num, hal⟩
        case measure => simp [intOf]; omega
    · obtain rfl : k = K := by omega
      go_wp2_with fail
      go_ret
      exact ⟨⟨_, rfl, .inl ⟨rfl, hall.out⟩⟩, rfl⟩

set_option maxRecDepth 100000 in
set_option maxHeartbeats 6400000 in
theorem implPlanOk_any (w : World) (a : Option Addr) (N c : Nat) (xs : List dTwo) (n s m : Int) (r : Bool) (h : TwoIn w.heap.size w a N xs) (hc : N ≤ c) (hc2 : c ≤ 9223372036854775807) (R : Bool) (hR : R = true ↔ PlanOkP xs n s m r) :
    Calls Try.prog 15 #[.slice a N c, .int .i64 n, .int .i64 s, .int .i64 m, .bool r] w fun e w' => e = .returned (.bool R) ∧ Below w.heap.size w w' := by
  have hroom := h.room
  have hal : Below w.heap.size w (w.alloc (.cells #[.int .i64 n, .int .i64 s, .int .i64 m, .bool r] 48 (0, 0))) := (Below.refl _ _).alloc (Nat.le_refl _) _
  have hb0 := heap_alloc_new w (.cells #[.int .i64 n, .int .i64 s, .int .i64 m, .bool r] 48 (0, 0))
  have hs0 : w.heap.size < (w.alloc (.cells #[.int .i64 n, .int .i64 s, .int .i64 m, .bool r] 48 (0, 0))).heap.size := by simp
  obtain ⟨c0, c1, c2, c3⟩ := box4 hb0
  have H0 := Lib.hid h
  have HA := Lib.hid hal
  have HB0 := Lib.hid hb0
  have HS0 := Lib.hid hs0
  have HR := Lib.hid hR
  have HLEN := Lib.hid h.len
  clear hal hb0 hs0 h hR
  obtain ⟨p, hp⟩ : ∃ p, taskB n s m = p := ⟨_, rfl⟩
  have HOK := Lib.hid fun (wx : World) => hp ▸ implTaskOk_any wx n s m r
  cases p
  · obtain rfl : R = false := by
      cases R
      · rfl
      · have := (HR.out.1 rfl).task
        rw [hp] at this
        cases this
    clear hp
    go_enter Try.func15, Try.ntmps15
    go_wp2_with fail
    refine (HOK.out _).mono ?_
    rintro e w1 ⟨rfl, hb⟩
    have HX := Lib.hid (HA.out.trans (hb.mono HA.out.size))
    clear hb
    go_wp2_with fail
    go_ret
    exact ⟨rfl, HX.out⟩
  · obtain ⟨hn1, hn2, hs1, hs2, hm1, hm2⟩ := taskB_has hp
    by_cases hN : N = 0
    · obtain rfl : R = false := by
        cases R
        · rfl
        · have := (HR.out.1 rfl).some
          have := HLEN.out
          omega
      subst hN
      clear hp
      go_enter Try.func15, Try.ntmps15
      go_wp2_with fail
      refine (HOK.out _).mono ?_
      rintro e w1 ⟨rfl, hb⟩
      have HX := Lib.hid (HA.out.trans (hb.mono HA.out.size))
      clear hb
      go_wp2_with fail
      go_ret
      exact ⟨rfl, HX.out⟩
    · obtain ⟨nb, hnb⟩ : ∃ nb, N = nb + 1 := ⟨N - 1, by omega⟩
      subst hnb
      obtain ⟨b, o, rfl, hbB, hz0, hz1⟩ := H0.out.cells nb (by omega)
      obtain ⟨Z, hZ⟩ : ∃ Z, Z = xs.getD nb (0, 0) := ⟨_, rfl⟩
      rw [← hZ] at hz0 hz1
      obtain ⟨Z1, Z2⟩ := Z
      dsimp only at hz0 hz1
      have HZ := Lib.hid hZ
      clear hZ hN
      by_cases hl : Z1 = 8 ∧ Z2 = 0
      · obtain ⟨rfl, rfl⟩ := hl
        obtain ⟨hK0, hK7, hKK⟩ := kinds_ok n s r
        have HK := Lib.hid fun wx : World => implKinds_any wx n s m r 1 7 7 hn1 hn2 hs1 hs2 (by omega) (by omega) (by omega) (by omega)
        obtain ⟨M, hM⟩ : ∃ M : Nat, m = (M : Int) := ⟨m.toNat, by omega⟩
        have hiff : R = true ↔ ImplG (gX xs) (kkX n s r) (kindsK n s r 1 7).length M nb := by
          rw [HR.out]
          constructor
          · intro hh
            have := hh.impl
            rw [HLEN.out, Nat.add_sub_cancel, hM, Int.toNat_natCast] at this
            exact this
          · intro hh
            refine ⟨hp, by rw [HLEN.out]; omega, ?_, ?_⟩
            · rw [HLEN.out, Nat.add_sub_cancel]; unfold gX; rw [← HZ.out]
            · rw [HLEN.out, Nat.add_sub_cancel, hM, Int.toNat_natCast]; exact hh
        subst hM
        obtain ⟨ks, hks⟩ : ∃ ks, kindsK n s r 1 7 = ks := ⟨_, rfl⟩
        have hkk : kkX n s r = fun k => ks.getD k 0 := by funext k; unfold kkX; rw [hks]
        obtain ⟨kk, hkk2⟩ : ∃ kk : Nat → Int, kk = fun k => ks.getD k 0 := ⟨_, rfl⟩
        rw [hkk, ← hkk2] at hiff hKK
        rw [hks] at hiff hKK hK0 hK7 HK
        obtain ⟨K, hK⟩ : ∃ K, ks.length = K := ⟨_, rfl⟩
        rw [hK] at hiff hKK hK0 hK7
        obtain ⟨g, hg⟩ : ∃ g, gX xs = g := ⟨_, rfl⟩
        rw [hg] at hiff
        have HKL := Lib.hid hK
        have HIFF := Lib.hid hiff
        have HKK := Lib.hid hKK
        have HKF := Lib.hid hkk2
        have HG := Lib.hid hg
        have hmk := fun (w : World) => run_make_many (P := Try.prog) 50 3 (.int .i64 0) 1 8 Try.underlying50 Try.infoI64 (K + 1) (by omega) (by omega) w
        obtain ⟨ZZ, hZZ⟩ : ∃ ZZ, ZZ = madeCells (Value.cells (.int .i64 0)) ((K + 1) * 1) := ⟨_, rfl⟩
        have hZl : ZZ.toList = icells (List.replicate (K + 1) 0) := by
          rw [hZZ]
          show (madeCells #[Value.int .i64 0] _).toList = _
          rw [toList_madeCells_one]
          simp [icells]
        have hZs : ZZ.size = K + 1 := by have := congrArg List.length hZl; simpa [icells] using this
        rw [← hZZ, show (((K + 1 : Nat) : Int)) = (K : Int) + 1 by omega] at hmk
        have HZl := Lib.hid hZl
        have HZs := Lib.hid hZs
        clear hp hkk hkk2 hks hK hiff hKK hg hZZ hZl hZs
        go_enter Try.func15, Try.ntmps15
        go_wp2_with fail
        refine (HOK.out _).mono ?_
        rintro e w1 ⟨rfl, hb⟩
        have HX := Lib.hid (HA.out.trans (hb.mono HA.out.size))
        have d0 := (HX.out.cell (p := ⟨b, o + nb * 2, none⟩) hbB).trans hz0
        have d1 := (HX.out.cell (p := ⟨b, o + nb * 2 + 1, none⟩) hbB).trans hz1
        have HB1 := Lib.hid ((hb.block w.heap.size HS0.out).trans HB0.out)
        clear hb hz0 hz1 c0 c1 c2 c3
        obtain ⟨c0, c1, c2, c3⟩ := box4 HB1.out
        go_wp2_with fail
        refine (HK.out _).mono ?_
        rintro e w2 ⟨v2, rfl, hr, hb⟩
        have HX2 := Lib.hid (HX.out.trans (hb.mono HX.out.size))
        obtain ⟨a2, cp2, rfl, hi2⟩ := hr.form' HKL (by omega)
        have I2 := Lib.hid hi2
        clear hr hb hi2 d0 d1 c0 c1 c2 c3
        have hO : (w2.alloc (.cells ZZ 3)).ownsRow w2.heap.size 3 1 (.slice (some ⟨w2.heap.size, 0, none⟩) (K + 1) (K + 1)) (K + 1) (icells (List.replicate (K + 1) 0)) := by
          refine ⟨by rw [icells_length, List.length_replicate, Nat.mul_one], .inr ⟨_, _, ZZ, rfl, Nat.le_refl _, heap_alloc_new w2 _, Nat.le_refl _, by unfold maxLen; omega, by rw [HZs.out, Nat.mul_one], ?_⟩⟩
          rw [HZl.out]
          exact List.take_of_length_le (Nat.le_of_eq (by rw [icells_length, List.length_replicate, Nat.mul_one]))
        have hf0 := hO.frozenAt 0
        obtain ⟨u0, hu0⟩ : ∃ u, (w2.alloc (.cells ZZ 3)).cell? ⟨w2.heap.size, 0, none⟩ = some u := by
          rw [hO.cellAt 0 (by omega)]
          exact ⟨_, List.getElem?_eq_getElem (by rw [icells_length, List.length_replicate]; omega)⟩
        have hO2 : (w2.alloc (.cells (ZZ.setIfInBounds 0 (.int .i64 (M : Int))) 3)).ownsRow w2.heap.size 3 1 (.slice (some ⟨w2.heap.size, 0, none⟩) (K + 1) (K + 1)) (K + 1) (icells (thrL g kk M K 0)) := by
          refine ⟨by rw [icells_length, thrL_length, Nat.mul_one], .inr ⟨_, _, _, rfl, Nat.le_refl _, heap_alloc_new w2 _, Nat.le_refl _, by unfold maxLen; omega, by rw [Array.size_setIfInBounds, HZs.out, Nat.mul_one], ?_⟩⟩
          rw [Array.toList_setIfInBounds, HZl.out, icells_set, ← thrL_zero g kk M K]
          exact List.take_of_length_le (Nat.le_of_eq (by rw [icells_length, thrL_length, Nat.mul_one]))
        have HO := Lib.hid hO2
        have HOB : Hid (Below w2.heap.size w2 (w2.alloc (.cells (ZZ.setIfInBounds 0 (.int .i64 (M : Int))) 3))) := Lib.hid ((Below.refl _ _).alloc (Nat.le_refl _) _)
        clear hO hO2
        go_wp2_with fail
        generalize w2.alloc (.cells (ZZ.setIfInBounds 0 (.int .i64 (M : Int))) 3) = w3 at HO HOB ⊢
        clear hf0 hu0 hmk
        go_loopw [54] (fun i wr => ∃ p : Nat, p ≤ nb ∧ i = .int .i64 p ∧ Hid (∀ q, q < p → NextOk g kk K M q) ∧ wr.ownsRow w2.heap.size 3 1 (.slice (some ⟨w2.heap.size, 0, none⟩) (K + 1) (K + 1)) (K + 1) (icells (thrL g kk M K p)) ∧ Below w2.heap.size w2 wr) (fun i _ => nb - (intOf i).toNat)
        case atStart => exact ⟨0, Nat.zero_le _, rfl, Lib.hid fun q hq => absurd hq (Nat.not_lt_zero _), HO.out, HOB.out⟩
        case round =>
          obtain ⟨p, hp, rfl, hall, hrow, hb⟩ := hrel
          have hlt2 : w2.heap.size < wr.heap.size := (World.ownsRow.lt hrow w2.heap.size rfl).2
          by_cases hlt : p < nb
          · obtain ⟨b', o', e', hbB', hy0, hy1⟩ := H0.out.cells p (by omega)
            cases e'
            obtain ⟨X, hX⟩ : ∃ X, X = xs.getD p (0, 0) := ⟨_, rfl⟩
            rw [← hX] at hy0 hy1
            obtain ⟨X1, X2⟩ := X
            dsimp only at hy0 hy1
            have hgp : g p = (X1, X2) := by rw [← HG.out]; unfold gX; exact hX.symm
            have hww : Below w.heap.size w wr := HX2.out.trans (hb.mono HX2.out.size)
            have d0 := (hww.cell (p := ⟨b, o + p * 2, none⟩) hbB).trans hy0
            have d1 := (hww.cell (p := ⟨b, o + p * 2 + 1, none⟩) hbB).trans hy1
            have hrw := hrow.alloc (.cells #[.int .i64 X1, .int .i64 X2] 54 (0, 0))
            have hba := hb.alloc hb.size (.cells #[.int .i64 X1, .int .i64 X2] 54 (0, 0))
            have hbx := heap_alloc_new wr (.cells #[.int .i64 X1, .int .i64 X2] 54 (0, 0))
            have hsza : (wr.alloc (.cells #[.int .i64 X1, .int .i64 X2] 54 (0, 0))).heap.size = wr.heap.size + 1 := by simp
            have HCI := Lib.hid fun (wx : World) (hx : Below w2.heap.size w2 wx) => implIndex_any wx w2.heap.size a2 K cp2 ks X1 (I2.out.below hx (Nat.le_refl _))
            have HRW := Lib.hid hrw
            have HBA := Lib.hid hba
            have HBX := Lib.hid hbx
            have HSZA := Lib.hid hsza
            have HGP := Lib.hid hgp
            clear hy0 hy1 hX hgp hww hrow hb hrw hba hbx hsza
            go_wp2_with fail
            refine (HCI.out _ HBA.out).mono ?_
            rintro e w4 ⟨⟨i, rfl, hi⟩, rfl⟩
            generalize wr.alloc (.cells #[.int .i64 X1, .int .i64 X2] 54 (0, 0)) = wa at HRW HBA HBX HSZA ⊢
            obtain ⟨z0, z1⟩ : wa.cell? ⟨wr.heap.size, 0, none⟩ = some (.int .i64 X1) ∧ wa.cell? ⟨wr.heap.size, 1, none⟩ = some (.int .i64 X2) := ⟨by rw [cell_of_row _ _ _ _ _ _ HBX.out]; rfl, by rw [cell_of_row _ _ _ _ _ _ HBX.out]; rfl⟩
            have hfin : ∀ nq, Below w.heap.size w (wa.drewN nq) := fun nq => HX2.out.trans ((HBA.out.trans (⟨rfl, rfl, rfl, Nat.le_refl _, fun _ _ => rfl⟩ : Below w2.heap.size wa (wa.drewN nq))).mono HX2.out.size)
            have HFIN := Lib.hid hfin
            clear hfin d0 d1
            rcases hi with ⟨rfl, hno⟩ | ⟨k, hk, rfl, hkx⟩
            · obtain rfl : R = false := by
                cases R
                · rfl
                · exfalso
                  obtain ⟨k, h1, h2, -⟩ := (HIFF.out.1 rfl).1 p hlt
                  rw [HGP.out, HKF.out] at h2
                  exact hno k h1 (congrArg Prod.fst h2).symm
              clear hno
              go_wp2_with fail
              go_quiet (fail)
              go_wp2_with fail
              go_ret
              exact ⟨rfl, HFIN.out _⟩
            · obtain ⟨C, hC⟩ : ∃ C, cntG g (kk k) p = C := ⟨_, rfl⟩
              obtain ⟨P, hP⟩ : ∃ P, prevG g kk M k p = P := ⟨_, rfl⟩
              have hkk : kk k = X1 := by rw [HKF.out]; exact hkx
              have hnx : NextOk g kk K M p ↔ X2 = (C : Int) ∧ C < P := by
                constructor
                · rintro ⟨k', h1, h2, h3⟩
                  have h4 : k' = k := HKK.out.inj k' k h1 hk (by rw [HGP.out] at h2; rw [hkk]; exact (congrArg Prod.fst h2).symm)
                  subst h4
                  rw [hC] at h2 h3
                  rw [hP] at h3
                  rw [HGP.out] at h2
                  exact ⟨congrArg Prod.snd h2, h3⟩
                · rintro ⟨h1, h2⟩
                  refine ⟨k, hk, by rw [HGP.out, hC, hkk, h1], by rw [hC, hP]; exact h2⟩
              have hc1 : wa.cell? ⟨w2.heap.size, k + 1, none⟩ = some (.int .i64 (C : Int)) := by
                rw [HRW.out.cellAt _ (by omega), icells_get _ _ (by rw [thrL_length]; omega), thrL_succ hk, hC]
              have hc0 : wa.cell? ⟨w2.heap.size, k, none⟩ = some (.int .i64 (P : Int)) := by
                rw [HRW.out.cellAt _ (by omega), icells_get _ _ (by rw [thrL_length]; omega), thrL_prev hk, hP]
              have hCn : C ≤ nb := by rw [← hC]; have := cnt_le g (kk k) p; omega
              have HC := Lib.hid hC
              have HNX := Lib.hid hnx
              have HKX := Lib.hid hkk
              obtain ⟨t, ht⟩ : ∃ t : Nat, t = k + 1 := ⟨_, rfl⟩
              have ht1 : 1 + (k : Int) = (t : Int) := by omega
              have ht2 : (t : Int) - 1 = (k : Int) := by omega
              rw [← ht] at hc1
              have HT := Lib.hid ht
              have ht3 : t ≤ K := by omega
              have ht4 : 0 < t := by omega
              have hf1 := HRW.out.frozenAt t
              clear hC hP hkk hnx hkx ht
              go_upto_region 12 with fail
              have ht0 : ((t : Int) == 0) = false := by simp; omega
              by_cases hX2 : X2 = (C : Int)
              · by_cases hlt3 : C < P
                · have hg3 : ¬ ((C : Int) ≥ (P : Int)) := by omega
                  have hg4 : decide ((P : Int) ≤ (C : Int)) = false := decide_eq_false (by omega)
                  subst hX2
                  go_quiet (fail)
                  have HQ : Hid (Below wa.heap.size wa (wa.drewN nq)) := Lib.hid ⟨rfl, rfl, rfl, Nat.le_refl _, fun _ _ => rfl⟩
                  have HRQ : Hid ((wa.drewN nq).ownsRow w2.heap.size 3 1 (.slice (some ⟨w2.heap.size, 0, none⟩) (K + 1) (K + 1)) (K + 1) (icells (thrL g kk M K p))) := Lib.hid HRW.out
                  have hd1 : (wa.drewN nq).cell? ⟨w2.heap.size, t, none⟩ = some (.int .i64 (C : Int)) := hc1
                  have hd2 : (wa.drewN nq).frozen? ⟨w2.heap.size, t, none⟩ = false := hf1
                  clear hc0 hc1 hf1 z0 z1
                  generalize wa.drewN nq = wq at HQ HRQ hd1 hd2 ⊢
                  go_wp2_with fail
                  obtain ⟨hs1', hs2'⟩ := HRQ.out.stored t (.int .i64 ((C : Int) + 1))
                  go_roundw
                  case rel =>
                    have hst := thrL_step (g := g) (kk := kk) (M := M) (K := K) (p := p) HKK.out hk (by rw [HGP.out, HKX.out])
                    rw [HC.out, ← HT.out] at hst
                    rw [icells_set, ← hst] at hs1'
                    refine ⟨p + 1, by omega, by go_num, Lib.hid fun q hq => ?_, hs1', ?_⟩
                    · by_cases e : q = p
                      · subst e
                        exact HNX.out.2 ⟨rfl, hlt3⟩
                      · exact hall.out q (by omega)
                    · exact (HBA.out.trans (HQ.out.mono HBA.out.size)).setCell (by exact Nat.le_refl _) _
                  case measure => simp [intOf]; omega
                · obtain rfl : R = false := by
                    cases R
                    · rfl
                    · exact absurd (HNX.out.1 ((HIFF.out.1 rfl).1 p hlt)).2 hlt3
                  have hg3 : decide ((C : Int) ≥ (P : Int)) = true := decide_eq_true (by omega)
                  subst hX2
                  go_quiet (fail)
                  go_wp2_with fail
                  go_ret
                  exact ⟨rfl, HFIN.out _⟩
              · obtain rfl : R = false := by
                  cases R
                  · rfl
                  · exact absurd (HNX.out.1 ((HIFF.out.1 rfl).1 p hlt)).1 hX2
                have hne : (X2 == (C : Int)) = false := by simpa using hX2
                have hne2 : (X2 != (C : Int)) = true := by simpa using hX2
                go_quiet (fail)
                go_wp2_with fail
                go_ret
                exact ⟨rfl, HFIN.out _⟩
          · obtain rfl : p = nb := by omega
            have hlast : K - 1 < K := by omega
            obtain ⟨C, hC⟩ : ∃ C, cntG g (kk (K - 1)) p = C := ⟨_, rfl⟩
            have hcK : wr.cell? ⟨w2.heap.size, K, none⟩ = some (.int .i64 (C : Int)) := by
              rw [hrow.cellAt _ (by omega), icells_get _ _ (by rw [thrL_length]; omega)]
              have := thrL_succ (g := g) (kk := kk) (M := M) (p := p) hlast
              rw [Nat.sub_add_cancel hK0, hC] at this
              rw [this]
            have hfin : R = decide (C = M) := by
              have h1 := HIFF.out
              unfold ImplG at h1
              rw [hC] at h1
              cases R
              · refine (decide_eq_false fun e => ?_).symm
                have := h1.2 ⟨hall.out, e⟩
                cases this
              · exact (decide_eq_true (h1.1 rfl).2).symm
            have HFIN := Lib.hid (HX2.out.trans (hb.mono HX2.out.size))
            clear hrow hb hC
            by_cases e : C = M
            · subst e
              rw [decide_eq_true rfl] at hfin
              subst hfin
              go_wp2_with fail
              go_ret
              exact ⟨rfl, HFIN.out⟩
            · rw [decide_eq_false e] at hfin
              subst hfin
              have hne : ((C : Int) == (M : Int)) = false := by simp; omega
              go_wp2_with fail
              go_ret
              exact ⟨rfl, HFIN.out⟩
      · obtain rfl : R = false := by
          cases R
          · rfl
          · exfalso
            have h2 := (HR.out.1 rfl).last
            rw [HLEN.out, Nat.add_sub_cancel] at h2
            unfold gX at h2
            rw [← HZ.out] at h2
            exact hl ⟨congrArg Prod.fst h2, congrArg Prod.snd h2⟩
        clear hp
        by_cases e1 : Z1 = 8
        · have e2 : (Z2 == 0) = false := by simp; omega
          subst e1
          go_enter Try.func15, Try.ntmps15
          go_wp2_with fail
          refine (HOK.out _).mono ?_
          rintro e w1 ⟨rfl, hb⟩
          have HX := Lib.hid (HA.out.trans (hb.mono HA.out.size))
          have d0 := (HX.out.cell (p := ⟨b, o + nb * 2, none⟩) hbB).trans hz0
          have d1 := (HX.out.cell (p := ⟨b, o + nb * 2 + 1, none⟩) hbB).trans hz1
          clear hb hz0 hz1
          go_wp2_with fail
          go_ret
          exact ⟨rfl, HX.out⟩
        · have e2 : (Z1 == 8) = false := by simpa using e1
          go_enter Try.func15, Try.ntmps15
          go_wp2_with fail
          refine (HOK.out _).mono ?_
          rintro e w1 ⟨rfl, hb⟩
          have HX := Lib.hid (HA.out.trans (hb.mono HA.out.size))
          have d0 := (HX.out.cell (p := ⟨b, o + nb * 2, none⟩) hbB).trans hz0
          have d1 := (HX.out.cell (p := ⟨b, o + nb * 2 + 1, none⟩) hbB).trans hz1
          clear hb hz0 hz1
          go_wp2_with fail
          go_ret
          exact ⟨rfl, HX.out⟩
end Go.Proofs.Ytikjhpljaanakaa
