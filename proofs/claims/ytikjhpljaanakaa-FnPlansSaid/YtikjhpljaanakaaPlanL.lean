/-
  Right plans: the model's.
-/
import Derived.Test.YtikjhpljaanakaaPlanR
import Derived.Test.YtikjhpljaanakaaPlanI
namespace Go.Proofs.Ytikjhpljaanakaa
open Go.RowKit Go.Sort
set_option linter.unusedVariables false
set_option linter.unusedSimpArgs false

set_option maxRecDepth 100000 in
set_option maxHeartbeats 1600000 in
theorem specPlace_any (w : World) (B : Nat) (a : Option Addr) (n c : Nat) (xs : List dTwo) (k m : Int) (h : TwoIn B w a n xs) :
    Calls Try.prog 37 #[.slice a n c, .int .i64 k, .int .i64 m] w fun e w' => e = .returned (.int .i64 (placeG (gX xs) (k, m) n)) ∧ w = w' := by
  have hroom := h.room
  have H := Lib.hid h
  obtain ⟨g, hg⟩ : ∃ g, gX xs = g := ⟨_, rfl⟩
  rw [hg]
  obtain ⟨R, hR⟩ : ∃ R, placeG g (k, m) n = R := ⟨_, rfl⟩
  rw [hR]
  have HG := Lib.hid hg
  have HR := Lib.hid hR
  clear h hg hR
  go_enter Try.func37, Try.ntmps37
  go_wp2_with fail
  go_loop [7, 8] (fun t i => ∃ p : Nat, p ≤ n ∧ i = .int .i64 p ∧ t = .int .i64 (posG g (k, m) p) ∧ Hid (occG g (k, m) p ≤ 1 ∧ (occG g (k, m) p = 0 → posG g (k, m) p = -1) ∧ (occG g (k, m) p = 1 → 0 ≤ posG g (k, m) p))) (fun _ i => n - (intOf i).toNat)
  case atStart => exact ⟨0, Nat.zero_le _, rfl, rfl, Lib.hid ⟨by simp [occG], fun _ => rfl, fun h => by simp [occG] at h⟩⟩
  case round =>
    obtain ⟨p, hp, rfl, rfl, hinv⟩ := hrel
    obtain ⟨V, hV⟩ : ∃ V, posG g (k, m) p = V := ⟨_, rfl⟩
    rw [hV]
    by_cases hlt : p < n
    · obtain ⟨b, o, rfl, hbB, hc0, hc1⟩ := H.out.cells p hlt
      obtain ⟨X, hX⟩ : ∃ X, X = xs.getD p (0, 0) := ⟨_, rfl⟩
      rw [← hX] at hc0 hc1
      obtain ⟨X1, X2⟩ := X
      dsimp only at hc0 hc1
      have hgp : g p = (X1, X2) := by rw [← HG.out]; unfold gX; exact hX.symm
      have HGP := Lib.hid hgp
      have HV := Lib.hid hV
      clear hX hgp hV
      by_cases e1 : X1 = k
      · subst e1
        by_cases e2 : X2 = m
        · subst e2
          have hst : occG g (X1, X2) (p + 1) = occG g (X1, X2) p + 1 ∧ posG g (X1, X2) (p + 1) = (p : Int) := ⟨by rw [occG, if_pos HGP.out], by rw [posG, if_pos HGP.out]⟩
          have HST := Lib.hid hst
          clear hst
          by_cases h0 : 0 ≤ V
          · have hfin : R = -1 := by
              have h2 := hinv.out
              rw [HV.out] at h2
              have h3 : 2 ≤ occG g (X1, X2) n := by
                have h4 := occ_mono (g := g) (x := (X1, X2)) (show p + 1 ≤ n by omega)
                have h5 := HST.out.1
                have h6 : occG g (X1, X2) p ≠ 0 := fun e => by have := h2.2.1 e; omega
                omega
              rw [← HR.out]
              unfold placeG
              rw [if_neg (by omega)]
            subst hfin
            go_wp2_with fail
            go_ret
            exact ⟨rfl, rfl⟩
          · have hinv' : Hid (occG g (X1, X2) (p + 1) ≤ 1 ∧ (occG g (X1, X2) (p + 1) = 0 → posG g (X1, X2) (p + 1) = -1) ∧ (occG g (X1, X2) (p + 1) = 1 → 0 ≤ posG g (X1, X2) (p + 1))) := Lib.hid (by
              have h2 := hinv.out
              rw [HV.out] at h2
              have h5 := HST.out
              have h6 : occG g (X1, X2) p ≠ 1 := fun e => h0 (h2.2.2 e)
              rw [h5.1, h5.2]
              omega)
            go_wp2_with fail
            go_round
            case rel => exact ⟨p + 1, by omega, by go_num, by rw [HST.out.2], hinv'⟩
            case measure => simp [intOf]; omega
        · have hst : occG g (X1, m) (p + 1) = occG g (X1, m) p ∧ posG g (X1, m) (p + 1) = posG g (X1, m) p := by
            have : ¬ g p = (X1, m) := by rw [HGP.out]; exact fun e => e2 (congrArg Prod.snd e)
            exact ⟨by rw [occG, if_neg this]; rfl, by rw [posG, if_neg this]⟩
          have HST := Lib.hid hst
          have hne : (X2 == m) = false := by simpa using e2
          clear hst
          go_wp2_with fail
          go_round
          case rel => exact ⟨p + 1, by omega, by go_num, by rw [HST.out.2, HV.out], by rw [HST.out.1, HST.out.2]; exact hinv⟩
          case measure => simp [intOf]; omega
      · have hst : occG g (k, m) (p + 1) = occG g (k, m) p ∧ posG g (k, m) (p + 1) = posG g (k, m) p := by
          have : ¬ g p = (k, m) := by rw [HGP.out]; exact fun e => e1 (congrArg Prod.fst e)
          exact ⟨by rw [occG, if_neg this]; rfl, by rw [posG, if_neg this]⟩
        have HST := Lib.hid hst
        have hne : (X1 == k) = false := by simpa using e1
        clear hst
        go_wp2_with fail
        go_round
        case rel => exact ⟨p + 1, by omega, by go_num, by rw [HST.out.2, HV.out], by rw [HST.out.1, HST.out.2]; exact hinv⟩
        case measure => simp [intOf]; omega
    · obtain rfl : p = n := by omega
      have hfin : V = R := by
        have h2 := hinv.out
        rw [← HR.out, ← hV]
        unfold placeG
        by_cases e : occG g (k, m) p = 1
        · rw [if_pos e]
        · rw [if_neg e]
          exact h2.2.1 (by omega)
      subst hfin
      clear hV
      go_wp2_with fail
      go_ret
      exact ⟨rfl, rfl⟩

theorem Row.empty9 {base : Nat} (w : World) (h : base ≤ w.heap.size) : Row base (w.alloc (.cells #[] 3 (0, 0))) (.slice (some ⟨w.heap.size, 0, none⟩) 0 0) [] :=
  ⟨by simp [icells], .inr ⟨w.heap.size, 0, #[], rfl, h, heap_alloc_new w _, Nat.le_refl _, Nat.zero_le _, by simp, by simp [icells]⟩⟩
set_option maxRecDepth 100000 in
set_option maxHeartbeats 1600000 in
theorem specOrder_any (w : World) (n s : Int) (r : Bool) (hn1 : 1 ≤ n) (hn2 : n ≤ 4) (hs1 : 0 ≤ s) (hs2 : s < n) :
    Calls Try.prog 36 #[.int .i64 n, .int .i64 s, .bool r] w fun e w' => ∃ v', e = .returned v' ∧ Row w.heap.size w' v' (kindsK n s r 1 7) ∧ Below w.heap.size w w' := by
  obtain ⟨-, hK7, -⟩ := kinds_ok n s r
  have hks := kinds_all n s r
  obtain ⟨ks, hk⟩ : ∃ ks, kindsK n s r 1 7 = ks := ⟨_, rfl⟩
  rw [hk] at hks hK7 ⊢
  have HKS := Lib.hid hks
  have HE := Lib.hid (TwoR.empty (T := 54) w (Nat.le_refl _))
  have HA : Hid (Below w.heap.size w (w.alloc (.cells #[] 54 (0, 0)))) := Lib.hid ((Below.refl _ _).alloc (Nat.le_refl _) _)
  have HC1 := Lib.hid (specAhead_any w.heap.size _ _ [] n s 0 HE.out HA.out.size (by simp) hn1 hn2 hs1 hs2)
  obtain ⟨K, hK⟩ : ∃ K, ks.length = K := ⟨_, rfl⟩
  rw [hK] at hK7
  have HK := Lib.hid hK
  have hla := aheadK_length n s
  clear hks hk hK
  go_enter Try.func36, Try.ntmps36
  go_wp2_with fail
  refine HC1.out.mono ?_
  rintro e w1 ⟨v1, rfl, hr, hb⟩
  have T1 := Lib.hid (HA.out.trans hb)
  have HC2 := Lib.hid (specBack_any w.heap.size w1 v1 _ n s 0 r hr T1.out.size (by rw [List.nil_append, eachP_length]; omega) hn1 hn2 hs1 hs2)
  clear hr hb HC1
  go_wp2_with fail
  refine HC2.out.mono ?_
  rintro e w2 ⟨v2, rfl, hr, hb⟩
  rw [List.nil_append, ← eachP_append, ← HKS.out] at hr
  have T2 := Lib.hid (T1.out.trans hb)
  obtain ⟨a2, c2, rfl, -, -, hi⟩ := hr.form
  rw [eachP_length, HK.out] at hi ⊢
  have I2 := Lib.hid (hi (by omega))
  have HE2 := Lib.hid (Row.empty9 w2 (Nat.le_refl _))
  have HA2 : Hid (Below w2.heap.size w2 (w2.alloc (.cells #[] 3 (0, 0)))) := Lib.hid ((Below.refl _ _).alloc (Nat.le_refl _) _)
  clear hr hb hi HC2
  go_wp2_with fail
  go_loopw [8, 9] (fun v i wr => ∃ p : Nat, p ≤ K ∧ i = .int .i64 p ∧ Row w2.heap.size wr v (ks.take p) ∧ Below w2.heap.size w2 wr) (fun _ i _ => K - (intOf i).toNat)
  case atStart => exact ⟨0, Nat.zero_le _, rfl, HE2.out, HA2.out⟩
  case round =>
    obtain ⟨p, hp, rfl, hr, hb⟩ := hrel
    by_cases hlt : p < K
    · obtain ⟨b, o, rfl, hbB, hc0, hc1⟩ := I2.out.cells p hlt
      have hge : (eachP ks 0).getD p (0, 0) = (ks.getD p 0, 0) := by
        have := HK.out
        simp [eachP, List.getD, this, hlt]
      rw [hge] at hc0
      obtain ⟨X, hX⟩ : ∃ X, X = ks.getD p 0 := ⟨_, rfl⟩
      rw [← hX] at hc0
      dsimp only at hc0
      have hcell := (hb.cell (p := ⟨b, o + p * 2, none⟩) hbB).trans hc0
      have hst : ks.take (p + 1) = ks.take p ++ [X] := by
        have := HK.out
        rw [List.take_add_one, List.getElem?_eq_getElem (by omega), hX]
        simp [List.getD, this, hlt]
      have hln : (ks.take p).length ≤ 1048000 := by rw [List.length_take]; omega
      obtain ⟨a0, cp0, rfl, -⟩ := hr.form
      have R := Lib.hid hr
      have B := Lib.hid hb
      have HST := Lib.hid hst
      clear hr hb hc0 hc1 hX hst hge
      go_wp2_with (at_builtin; refine wpList_num rfl _ _ rfl _ _ _ rfl R.out rfl hln (by have := B.out.size; omega) ?_; intro a1 n1 c1 w1 hr hb; have R' := Lib.hid hr; have B' := Lib.hid (B.out.trans hb); clear hr hb R B; have R := R'; have B := B'; clear R' B')
      go_roundw
      case rel => exact ⟨p + 1, by omega, by go_num, by rw [HST.out]; exact R.out, B.out⟩
      case measure => simp [intOf]; omega
    · obtain rfl : p = K := by omega
      rw [List.take_of_length_le (by have := HK.out; omega)] at hr
      have HR := Lib.hid (Row.le (base' := w.heap.size) hr T2.out.size)
      have HB := Lib.hid (T2.out.trans (hb.mono T2.out.size))
      clear hr hb
      go_wp2_with fail
      go_ret
      exact ⟨_, rfl, HR.out, HB.out⟩
end Go.Proofs.Ytikjhpljaanakaa
