import Derived.Test.YtcooobnaocbdjaaGreatProg
import Derived.Test.YtcooobnaocbdjaaGreatJoin3
import Derived.Test.YtcooobnaocbdjaaGreatJoin4
import Derived.Test.YtcooobnaocbdjaaGreatJoin1
/-! YtcooobnaocbdjaaGreatPSpecFix -/
section

namespace Go.Proofs.YtcooobnaocbdjaaGreat
open Go.RowKit
set_option linter.unusedVariables false

theorem l1In_any (x lo hi : Int) (w : World) :
    Calls Tryz.prog 58 #[.int .i64 x, .int .i64 lo, .int .i64 hi] w fun e w' => e = .returned (.bool (inB lo hi x)) ∧ w = w' := by
  by_cases h1 : x < lo
  · have HD := Lib.hid (inB_no (hi := hi) (Or.inl h1))
    go_enter Tryz.func58, Tryz.ntmps58
    go_wp2
    go_ret
    exact ⟨by rw [HD.out] <;> rfl, rfl⟩
  · by_cases h2 : hi < x
    · have HD := Lib.hid (inB_no (lo := lo) (Or.inr h2))
      have h3 : decide (x ≤ hi) = false := by simpa using h2
      go_enter Tryz.func58, Tryz.ntmps58
      go_wp2
      go_ret
      exact ⟨by rw [HD.out] <;> rfl, rfl⟩
    · have h3 : lo ≤ x := by omega
      have h4 : x ≤ hi := by omega
      have HD := Lib.hid (inB_yes h3 h4)
      clear h1 h2
      go_enter Tryz.func58, Tryz.ntmps58
      go_wp2
      go_ret
      exact ⟨by rw [HD.out] <;> rfl, rfl⟩
theorem specFixOk_any (x : Int) (w : World) :
    Calls Tryz.prog 108 #[.int .i64 x] w fun e w' => e = .returned (.bool (okB x)) ∧ w = w' := by
  go_enter Tryz.func108, Tryz.ntmps108
  go_wp2_with fail
  refine (l1In_any x (-2147483647) 2147483647 _).mono ?_
  rintro e w1 ⟨rfl, rfl⟩
  go_wp2_with fail
  go_ret
  exact ⟨rfl, rfl⟩
end Go.Proofs.YtcooobnaocbdjaaGreat

end

/-! YtcooobnaocbdjaaGreatPVecOk -/
section

namespace Go.Proofs.YtcooobnaocbdjaaGreat
open Go.RowKit
set_option linter.unusedVariables false

set_option maxRecDepth 100000 in
theorem specVecOk_any (w : World) (a : Option Addr) (n c : Nat) (xs : List Int) (h : IntsIn w.heap.size w a n xs) :
    Calls Tryz.prog 61 #[.slice a n c] w fun e w' => e = .returned (.bool (vecOkB xs)) ∧ w = w' := by
  have hr := h.room
  have H := Lib.hid h
  clear h
  obtain ⟨d, hd⟩ : ∃ d, d = vecOkB xs := ⟨_, rfl⟩
  rw [← hd]
  have HD := Lib.hid hd
  clear hd
  go_enter Tryz.func61, Tryz.ntmps61
  go_wp2_with fail
  go_loop [3] (fun i => ∃ k : Nat, k ≤ n ∧ i = .int .i64 k ∧ Hid (∀ j, j < k → okB (xs.getD j 0) = true)) (fun i => n - (intOf i).toNat)
  case atStart => exact ⟨0, Nat.zero_le _, rfl, fun j hj => absurd hj (Nat.not_lt_zero _)⟩
  case round =>
    obtain ⟨k, hk, rfl, hall⟩ := hrel
    by_cases hlt : k < n
    · obtain ⟨b, o, rfl, hbB, hcell⟩ := H.out.cells k hlt
      obtain ⟨X, hX⟩ : ∃ X, X = xs.getD k 0 := ⟨_, rfl⟩
      rw [← hX] at hcell
      have HX := Lib.hid hX
      clear hX
      obtain ⟨o', ho⟩ : ∃ o', okB X = o' := ⟨_, rfl⟩
      have HS := Lib.hid (fun w => specFixOk_any X w)
      rw [ho] at HS
      have HO := Lib.hid ho
      clear ho
      cases o'
      · have hdf : d = false := by rw [HD.out]; exact vecOkB_place (by rw [H.out.len]; exact hlt) (by rw [← HX.out]; exact HO.out)
        subst hdf
        go_wp2_with fail
        refine (HS.out _).mono ?_
        rintro e w' ⟨rfl, rfl⟩
        go_wp2_with fail
        go_ret
        exact ⟨rfl, rfl⟩
      · go_wp2_with fail
        refine (HS.out _).mono ?_
        rintro e w' ⟨rfl, rfl⟩
        go_wp2_with fail
        go_round
        case rel =>
          refine ⟨k + 1, by omega, by go_num, show Hid _ from fun j hj => ?_⟩
          by_cases e : j = k
          · subst e; rw [← HX.out]; exact HO.out
          · exact hall.out j (by omega)
        case measure => simp [intOf]; omega
    · have hkn : k = n := by omega
      subst hkn
      have hdd : inB 1 6 (k : Int) = d := by
        rw [HD.out]
        have hl := H.out.len
        by_cases h0 : 1 ≤ k
        · by_cases h6 : k ≤ 6
          · rw [inB_yes (by omega) (by omega), vecOkB_yes (by omega) (by omega) (fun j hj => hall.out j (by omega))]
          · rw [inB_no (by omega), vecOkB_len (by omega)]
        · rw [inB_no (by omega), vecOkB_len (by omega)]
      have HE := Lib.hid hdd
      clear hdd
      go_wp2_with fail
      refine (l1In_any _ _ _ _).mono ?_
      rintro e w' ⟨rfl, rfl⟩
      go_wp2_with fail
      go_ret
      exact ⟨by rw [HE.out] <;> rfl, rfl⟩

theorem implDimOk_any (n : Int) (w : World) :
    Calls Tryz.prog 160 #[.int .i64 n] w fun e w' => e = .returned (.bool (inB 1 6 n)) ∧ w = w' := by
  by_cases h1 : n < 1
  · have HD := Lib.hid (inB_no (lo := 1) (hi := 6) (Or.inl h1))
    have h2 : decide (1 ≤ n) = false := by simpa using h1
    go_enter Tryz.func160, Tryz.ntmps160
    go_wp2
    go_ret
    exact ⟨by rw [HD.out] <;> rfl, rfl⟩
  · by_cases h2 : 6 < n
    · have HD := Lib.hid (inB_no (lo := 1) (hi := 6) (Or.inr h2))
      have h3 : decide (n ≤ 6) = false := by simpa using h2
      go_enter Tryz.func160, Tryz.ntmps160
      go_wp2
      go_ret
      exact ⟨by rw [HD.out] <;> rfl, rfl⟩
    · have h3 : 1 ≤ n := by omega
      have h4 : n ≤ 6 := by omega
      have HD := Lib.hid (inB_yes h3 h4)
      clear h1 h2
      go_enter Tryz.func160, Tryz.ntmps160
      go_wp2
      go_ret
      exact ⟨by rw [HD.out] <;> rfl, rfl⟩
theorem all_no {xs : List Int} {k : Nat} (hk : k < xs.length) (h : okB (xs.getD k 0) = false) : xs.all okB = false := by
  have h1 : xs.getD k 0 ∈ xs := by simp [List.getD, hk]
  exact List.all_eq_false.2 ⟨_, h1, by rw [h]; decide⟩
theorem all_yes {xs : List Int} (h : ∀ j, j < xs.length → okB (xs.getD j 0) = true) : xs.all okB = true := by
  refine List.all_eq_true.2 fun x hx => ?_
  obtain ⟨j, hj, rfl⟩ := List.mem_iff_getElem.1 hx
  have := h j hj
  simpa [List.getD, hj] using this

set_option maxRecDepth 100000 in
theorem implAllOk_any (w : World) (a : Option Addr) (n c : Nat) (xs : List Int) (h : IntsIn w.heap.size w a n xs) :
    Calls Tryz.prog 161 #[.slice a n c] w fun e w' => e = .returned (.bool (xs.all okB)) ∧ w = w' := by
  have hr := h.room
  have H := Lib.hid h
  clear h
  obtain ⟨d, hd⟩ : ∃ d, d = xs.all okB := ⟨_, rfl⟩
  rw [← hd]
  have HD := Lib.hid hd
  clear hd
  go_enter Tryz.func161, Tryz.ntmps161
  go_wp2_with fail
  go_loop [7] (fun i => ∃ k : Nat, k ≤ n ∧ i = .int .i64 k ∧ Hid (∀ j, j < k → okB (xs.getD j 0) = true)) (fun i => n - (intOf i).toNat)
  case atStart => exact ⟨0, Nat.zero_le _, rfl, fun j hj => absurd hj (Nat.not_lt_zero _)⟩
  case round =>
    obtain ⟨k, hk, rfl, hall⟩ := hrel
    by_cases hlt : k < n
    · obtain ⟨b, o, rfl, hbB, hcell⟩ := H.out.cells k hlt
      obtain ⟨X, hX⟩ : ∃ X, X = xs.getD k 0 := ⟨_, rfl⟩
      rw [← hX] at hcell
      have HX := Lib.hid hX
      clear hX
      obtain ⟨o', ho⟩ : ∃ o', okB X = o' := ⟨_, rfl⟩
      have HS := Lib.hid (fun w => implFixOk_any X w)
      rw [ho] at HS
      have HO := Lib.hid ho
      clear ho
      cases o'
      · have hdf : d = false := by rw [HD.out]; exact all_no (by rw [H.out.len]; exact hlt) (by rw [← HX.out]; exact HO.out)
        subst hdf
        go_wp2_with fail
        refine (HS.out _).mono ?_
        rintro e w' ⟨rfl, rfl⟩
        go_wp2_with fail
        go_ret
        exact ⟨rfl, rfl⟩
      · go_wp2_with fail
        refine (HS.out _).mono ?_
        rintro e w' ⟨rfl, rfl⟩
        go_wp2_with fail
        go_round
        case rel =>
          refine ⟨k + 1, by omega, by go_num, show Hid _ from fun j hj => ?_⟩
          by_cases e : j = k
          · subst e; rw [← HX.out]; exact HO.out
          · exact hall.out j (by omega)
        case measure => simp [intOf]; omega
    · have hkn : k = n := by omega
      subst hkn
      have hdt : d = true := by
        rw [HD.out]
        have hl := H.out.len
        exact all_yes (fun j hj => hall.out j (by omega))
      subst hdt
      go_wp2_with fail
      go_ret
      exact ⟨rfl, rfl⟩

theorem vecOkB_split {xs : List Int} {n : Nat} (hl : xs.length = n) : vecOkB xs = (inB 1 6 (n : Int) && xs.all okB) := by
  unfold vecOkB inB
  rw [hl]
  by_cases h0 : 1 ≤ n
  · by_cases h6 : n ≤ 6
    · rw [decide_eq_true h0, decide_eq_true h6, decide_eq_true (by omega : (1 : Int) ≤ (n : Int) ∧ (n : Int) ≤ 6)]; rfl
    · rw [decide_eq_true h0, decide_eq_false h6, decide_eq_false (by omega : ¬ ((1 : Int) ≤ (n : Int) ∧ (n : Int) ≤ 6))]; rfl
  · rw [decide_eq_false h0, decide_eq_false (by omega : ¬ ((1 : Int) ≤ (n : Int) ∧ (n : Int) ≤ 6))]; simp
set_option maxRecDepth 100000 in
theorem implVecOk_any (w : World) (a : Option Addr) (n c : Nat) (xs : List Int) (h : IntsIn w.heap.size w a n xs) :
    Calls Tryz.prog 112 #[.slice a n c] w fun e w' => e = .returned (.bool (vecOkB xs)) ∧ w = w' := by
  have hr := h.room
  rw [vecOkB_split h.len]
  have HA := Lib.hid (implAllOk_any w a n c xs h)
  have HN := Lib.hid (fun w => implDimOk_any (n : Int) w)
  obtain ⟨q, hq⟩ : ∃ q, xs.all okB = q := ⟨_, rfl⟩
  obtain ⟨p, hp⟩ : ∃ p, inB 1 6 (n : Int) = p := ⟨_, rfl⟩
  rw [hq] at HA ⊢
  rw [hp] at HN ⊢
  clear hq hp h
  cases p
  · go_enter Tryz.func112, Tryz.ntmps112
    go_wp2_with fail
    refine (HN.out _).mono ?_
    rintro e w' ⟨rfl, rfl⟩
    go_wp2_with fail
    go_ret
    exact ⟨rfl, rfl⟩
  · go_enter Tryz.func112, Tryz.ntmps112
    go_wp2_with fail
    refine (HN.out _).mono ?_
    rintro e w' ⟨rfl, rfl⟩
    go_wp2_with fail
    refine HA.out.mono ?_
    rintro e w' ⟨rfl, rfl⟩
    go_wp2_with fail
    go_ret
    exact ⟨by simp, rfl⟩

end Go.Proofs.YtcooobnaocbdjaaGreat

end
