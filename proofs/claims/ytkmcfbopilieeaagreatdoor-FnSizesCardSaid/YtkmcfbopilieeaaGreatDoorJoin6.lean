import Derived.Test.YtkmcfbopilieeaaGreatDoorProg
import Derived.Test.YtkmcfbopilieeaaGreatDoorJoin3
import Derived.Test.YtkmcfbopilieeaaGreatDoorJoin2
import Derived.Test.YtkmcfbopilieeaaGreatDoorJoin4
/-! YtkmcfbopilieeaaGreatDoorSpecFix -/
section

namespace Go.Proofs.YtkmcfbopilieeaaGreatDoor
open Go.RowKit
set_option linter.unusedVariables false

theorem l1In_any (x lo hi : Int) (w : World) :
    Calls Tryz.prog 26 #[.int .i64 x, .int .i64 lo, .int .i64 hi] w fun e w' => e = .returned (.bool (inB lo hi x)) ∧ w = w' := by
  by_cases h1 : x < lo
  · have HD := Lib.hid (inB_no (hi := hi) (Or.inl h1))
    go_enter Tryz.func26, Tryz.ntmps26
    go_wp2
    go_ret
    exact ⟨by rw [HD.out] <;> rfl, rfl⟩
  · by_cases h2 : hi < x
    · have HD := Lib.hid (inB_no (lo := lo) (Or.inr h2))
      have h3 : decide (x ≤ hi) = false := by simpa using h2
      go_enter Tryz.func26, Tryz.ntmps26
      go_wp2
      go_ret
      exact ⟨by rw [HD.out] <;> rfl, rfl⟩
    · have h3 : lo ≤ x := by omega
      have h4 : x ≤ hi := by omega
      have HD := Lib.hid (inB_yes h3 h4)
      clear h1 h2
      go_enter Tryz.func26, Tryz.ntmps26
      go_wp2
      go_ret
      exact ⟨by rw [HD.out] <;> rfl, rfl⟩
theorem specFixOk_any (x : Int) (w : World) :
    Calls Tryz.prog 51 #[.int .i64 x] w fun e w' => e = .returned (.bool (okB x)) ∧ w = w' := by
  go_enter Tryz.func51, Tryz.ntmps51
  go_wp2_with fail
  refine (l1In_any x (-2147483647) 2147483647 _).mono ?_
  rintro e w1 ⟨rfl, rfl⟩
  go_wp2_with fail
  go_ret
  exact ⟨rfl, rfl⟩
theorem l2Sat_any (x : Int) (w : World) :
    Calls Tryz.prog 101 #[.int .i64 x] w fun e w' => e = .returned (.tuple #[.int .i64 (sat x), .bool (satB x)]) ∧ w = w' := by
  by_cases h1 : 2147483647 < x
  · have HS := Lib.hid (sat_hi h1)
    go_enter Tryz.func101, Tryz.ntmps101
    go_wp2
    go_ret2
    exact ⟨by rw [HS.out.1, HS.out.2] <;> rfl, rfl⟩
  · by_cases h2 : x < -2147483647
    · have HS := Lib.hid (sat_lo h2)
      go_enter Tryz.func101, Tryz.ntmps101
      go_wp2
      go_ret2
      exact ⟨by rw [HS.out.1, HS.out.2] <;> rfl, rfl⟩
    · have HS := Lib.hid (sat_mid (x := x) (by omega) (by omega))
      go_enter Tryz.func101, Tryz.ntmps101
      go_wp2
      go_ret2
      exact ⟨by rw [HS.out.1, HS.out.2] <;> rfl, rfl⟩
theorem l2In_any (x : Int) (w : World) :
    Calls Tryz.prog 102 #[.int .i64 x] w fun e w' => e = .returned (.int .i64 (sat x)) ∧ w = w' := by
  go_enter Tryz.func102, Tryz.ntmps102
  go_wp2_with fail
  refine (l2Sat_any x _).mono ?_
  rintro e w1 ⟨rfl, rfl⟩
  go_wp2_with fail
  go_ret
  exact ⟨rfl, rfl⟩
theorem l2Floor_any (x : Int) (w : World) (h0 : -4611686014132420609 ≤ x) (h1 : x ≤ 4611686014132420609) :
    Calls Tryz.prog 113 #[.int .i64 x, .int .i64 65536] w fun e w' => e = .returned (.int .i64 (x / 65536)) ∧ w = w' := by
  by_cases h : 0 ≤ x
  · have hlt : decide (x < 0) = false := by simp; omega
    go_enter Tryz.func113, Tryz.ntmps113
    go_wp2
    all_goals (go_ret; exact ⟨rfl, rfl⟩)
  · have hx : x < 0 := by omega
    have hlt : decide (x < 0) = true := by simp; omega
    by_cases hm : x.tmod 65536 = 0
    · have HF := Lib.hid (floor_eq hx hm)
      have hb : (x.tmod 65536 != 0) = false := by rw [hm]; rfl
      clear hm h
      go_enter Tryz.func113, Tryz.ntmps113
      go_wp2
      all_goals (go_ret; exact ⟨fix_ret HF.out, rfl⟩)
    · have HF := Lib.hid (floor_ne hx hm)
      have hb : (x.tmod 65536 != 0) = true := by rw [bne_iff_ne]; exact hm
      have q0 : -70368744177665 ≤ x.tdiv 65536 := by rw [tdiv_lo hx]; omega
      have q1 : x.tdiv 65536 ≤ 0 := by rw [tdiv_lo hx]; omega
      clear hm h
      go_enter Tryz.func113, Tryz.ntmps113
      go_wp2
      all_goals (go_ret; exact ⟨fix_ret HF.out, rfl⟩)
theorem specFixAdd_any (a b : Int) (w : World) :
    Calls Tryz.prog 100 #[.int .i64 a, .int .i64 b] w fun e w' => e = .returned (.tuple #[.int .i64 (addN a b), .bool (addB a b)]) ∧ w = w' := by
  obtain ⟨a0, a1⟩ := sat_range a
  obtain ⟨b0, b1⟩ := sat_range b
  go_enter Tryz.func100, Tryz.ntmps100
  go_wp2_with fail
  refine (l2In_any a _).mono ?_
  rintro e w1 ⟨rfl, rfl⟩
  go_wp2_with fail
  refine (l2In_any b _).mono ?_
  rintro e w2 ⟨rfl, rfl⟩
  go_wp2_with fail
  refine (l2Sat_any (sat a + sat b) _).mono ?_
  rintro e w3 ⟨rfl, rfl⟩
  go_wp2_with fail
  go_ret2
  exact ⟨rfl, rfl⟩
theorem specFixSub_any (a b : Int) (w : World) :
    Calls Tryz.prog 80 #[.int .i64 a, .int .i64 b] w fun e w' => e = .returned (.tuple #[.int .i64 (subN a b), .bool (subB a b)]) ∧ w = w' := by
  obtain ⟨a0, a1⟩ := sat_range a
  obtain ⟨b0, b1⟩ := sat_range b
  go_enter Tryz.func80, Tryz.ntmps80
  go_wp2_with fail
  refine (l2In_any a _).mono ?_
  rintro e w1 ⟨rfl, rfl⟩
  go_wp2_with fail
  refine (l2In_any b _).mono ?_
  rintro e w2 ⟨rfl, rfl⟩
  go_wp2_with fail
  refine (l2Sat_any (sat a - sat b) _).mono ?_
  rintro e w3 ⟨rfl, rfl⟩
  go_wp2_with fail
  go_ret2
  exact ⟨rfl, rfl⟩
theorem specFixMul_any (a b : Int) (w : World) :
    Calls Tryz.prog 99 #[.int .i64 a, .int .i64 b] w fun e w' => e = .returned (.tuple #[.int .i64 (mulN a b), .bool (mulB a b)]) ∧ w = w' := by
  obtain ⟨a0, a1⟩ := sat_range a
  obtain ⟨b0, b1⟩ := sat_range b
  obtain ⟨m0, m1⟩ := mul_range a0 a1 b0 b1
  go_enter Tryz.func99, Tryz.ntmps99
  go_wp2_with fail
  refine (l2In_any a _).mono ?_
  rintro e w1 ⟨rfl, rfl⟩
  go_wp2_with fail
  refine (l2In_any b _).mono ?_
  rintro e w2 ⟨rfl, rfl⟩
  go_wp2_with fail
  refine (l2Floor_any (sat a * sat b) _ m0 m1).mono ?_
  rintro e w4 ⟨rfl, rfl⟩
  go_wp2_with fail
  refine (l2Sat_any (sat a * sat b / 65536) _).mono ?_
  rintro e w3 ⟨rfl, rfl⟩
  go_wp2_with fail
  go_ret2
  exact ⟨rfl, rfl⟩
theorem specRelu_any (a : Int) (w : World) :
    Calls Tryz.prog 112 #[.int .i64 a] w fun e w' => e = .returned (.int .i64 (reluN a)) ∧ w = w' := by
  obtain ⟨a0, a1⟩ := sat_range a
  by_cases h : 0 < sat a
  · have HR : Hid (reluN a = sat a) := Lib.hid (if_pos h)
    go_enter Tryz.func112, Tryz.ntmps112
    go_wp2_with fail
    refine (l2In_any a _).mono ?_
    rintro e w1 ⟨rfl, rfl⟩
    go_wp2_with fail
    all_goals (go_ret; exact ⟨fix_ret (by rw [HR.out] <;> omega), rfl⟩)
  · have HR : Hid (reluN a = 0) := Lib.hid (if_neg h)
    go_enter Tryz.func112, Tryz.ntmps112
    go_wp2_with fail
    refine (l2In_any a _).mono ?_
    rintro e w1 ⟨rfl, rfl⟩
    go_wp2_with fail
    all_goals (go_ret; exact ⟨fix_ret (by rw [HR.out] <;> omega), rfl⟩)

end Go.Proofs.YtkmcfbopilieeaaGreatDoor

end

/-! YtkmcfbopilieeaaGreatDoorVecOk -/
section

namespace Go.Proofs.YtkmcfbopilieeaaGreatDoor
open Go.RowKit
set_option linter.unusedVariables false

set_option maxRecDepth 100000 in
theorem specVecOk_any (w : World) (a : Option Addr) (n c : Nat) (xs : List Int) (h : IntsIn w.heap.size w a n xs) :
    Calls Tryz.prog 27 #[.slice a n c] w fun e w' => e = .returned (.bool (vecOkB xs)) ∧ w = w' := by
  have hr := h.room
  have H := Lib.hid h
  clear h
  obtain ⟨d, hd⟩ : ∃ d, d = vecOkB xs := ⟨_, rfl⟩
  rw [← hd]
  have HD := Lib.hid hd
  clear hd
  go_enter Tryz.func27, Tryz.ntmps27
  go_wp2_with fail
  go_loop [3] (fun i => ∃ k : Nat, k ≤ n ∧ i = .int .i64 k ∧ Hid (∀ j, j < k → okB (xs.getD j 0) = true)) (fun i => n - (intOf i).toNat)
  case atStart => exact ⟨0, Nat.zero_le _, rfl, fun j hj => absurd hj (Nat.not_lt_zero _)⟩
  case round =>
    obtain ⟨k, hk, rfl, hall⟩ := hrel
    by_cases hlt : k < n
    · obtain ⟨b, o, rfl, hbB, hcell⟩ := H.out.cells k hlt
      obtain ⟨X, hX⟩ : ∃ X, X = xs.getD k 0 := ⟨_, rfl⟩
      rw [← hX] at hcell
      have HX := Lib.hid hX
      clear hX
      obtain ⟨o', ho⟩ : ∃ o', okB X = o' := ⟨_, rfl⟩
      have HS := Lib.hid (fun w => specFixOk_any X w)
      rw [ho] at HS
      have HO := Lib.hid ho
      clear ho
      cases o'
      · have hdf : d = false := by rw [HD.out]; exact vecOkB_place (by rw [H.out.len]; exact hlt) (by rw [← HX.out]; exact HO.out)
        subst hdf
        go_wp2_with fail
        refine (HS.out _).mono ?_
        rintro e w' ⟨rfl, rfl⟩
        go_wp2_with fail
        go_ret
        exact ⟨rfl, rfl⟩
      · go_wp2_with fail
        refine (HS.out _).mono ?_
        rintro e w' ⟨rfl, rfl⟩
        go_wp2_with fail
        go_round
        case rel =>
          refine ⟨k + 1, by omega, by go_num, show Hid _ from fun j hj => ?_⟩
          by_cases e : j = k
          · subst e; rw [← HX.out]; exact HO.out
          · exact hall.out j (by omega)
        case measure => simp [intOf]; omega
    · have hkn : k = n := by omega
      subst hkn
      have hdd : inB 1 6 (k : Int) = d := by
        rw [HD.out]
        have hl := H.out.len
        by_cases h0 : 1 ≤ k
        · by_cases h6 : k ≤ 6
          · rw [inB_yes (by omega) (by omega), vecOkB_yes (by omega) (by omega) (fun j hj => hall.out j (by omega))]
          · rw [inB_no (by omega), vecOkB_len (by omega)]
        · rw [inB_no (by omega), vecOkB_len (by omega)]
      have HE := Lib.hid hdd
      clear hdd
      go_wp2_with fail
      refine (l1In_any _ _ _ _).mono ?_
      rintro e w' ⟨rfl, rfl⟩
      go_wp2_with fail
      go_ret
      exact ⟨by rw [HE.out] <;> rfl, rfl⟩

theorem implDimOk_any (n : Int) (w : World) :
    Calls Tryz.prog 74 #[.int .i64 n] w fun e w' => e = .returned (.bool (inB 1 6 n)) ∧ w = w' := by
  by_cases h1 : n < 1
  · have HD := Lib.hid (inB_no (lo := 1) (hi := 6) (Or.inl h1))
    have h2 : decide (1 ≤ n) = false := by simpa using h1
    go_enter Tryz.func74, Tryz.ntmps74
    go_wp2
    go_ret
    exact ⟨by rw [HD.out] <;> rfl, rfl⟩
  · by_cases h2 : 6 < n
    · have HD := Lib.hid (inB_no (lo := 1) (hi := 6) (Or.inr h2))
      have h3 : decide (n ≤ 6) = false := by simpa using h2
      go_enter Tryz.func74, Tryz.ntmps74
      go_wp2
      go_ret
      exact ⟨by rw [HD.out] <;> rfl, rfl⟩
    · have h3 : 1 ≤ n := by omega
      have h4 : n ≤ 6 := by omega
      have HD := Lib.hid (inB_yes h3 h4)
      clear h1 h2
      go_enter Tryz.func74, Tryz.ntmps74
      go_wp2
      go_ret
      exact ⟨by rw [HD.out] <;> rfl, rfl⟩
theorem all_no {xs : List Int} {k : Nat} (hk : k < xs.length) (h : okB (xs.getD k 0) = false) : xs.all okB = false := by
  have h1 : xs.getD k 0 ∈ xs := by simp [List.getD, hk]
  exact List.all_eq_false.2 ⟨_, h1, by rw [h]; decide⟩
theorem all_yes {xs : List Int} (h : ∀ j, j < xs.length → okB (xs.getD j 0) = true) : xs.all okB = true := by
  refine List.all_eq_true.2 fun x hx => ?_
  obtain ⟨j, hj, rfl⟩ := List.mem_iff_getElem.1 hx
  have := h j hj
  simpa [List.getD, hj] using this

set_option maxRecDepth 100000 in
theorem implAllOk_any (w : World) (a : Option Addr) (n c : Nat) (xs : List Int) (h : IntsIn w.heap.size w a n xs) :
    Calls Tryz.prog 75 #[.slice a n c] w fun e w' => e = .returned (.bool (xs.all okB)) ∧ w = w' := by
  have hr := h.room
  have H := Lib.hid h
  clear h
  obtain ⟨d, hd⟩ : ∃ d, d = xs.all okB := ⟨_, rfl⟩
  rw [← hd]
  have HD := Lib.hid hd
  clear hd
  go_enter Tryz.func75, Tryz.ntmps75
  go_wp2_with fail
  go_loop [7] (fun i => ∃ k : Nat, k ≤ n ∧ i = .int .i64 k ∧ Hid (∀ j, j < k → okB (xs.getD j 0) = true)) (fun i => n - (intOf i).toNat)
  case atStart => exact ⟨0, Nat.zero_le _, rfl, fun j hj => absurd hj (Nat.not_lt_zero _)⟩
  case round =>
    obtain ⟨k, hk, rfl, hall⟩ := hrel
    by_cases hlt : k < n
    · obtain ⟨b, o, rfl, hbB, hcell⟩ := H.out.cells k hlt
      obtain ⟨X, hX⟩ : ∃ X, X = xs.getD k 0 := ⟨_, rfl⟩
      rw [← hX] at hcell
      have HX := Lib.hid hX
      clear hX
      obtain ⟨o', ho⟩ : ∃ o', okB X = o' := ⟨_, rfl⟩
      have HS := Lib.hid (fun w => implFixOk_any X w)
      rw [ho] at HS
      have HO := Lib.hid ho
      clear ho
      cases o'
      · have hdf : d = false := by rw [HD.out]; exact all_no (by rw [H.out.len]; exact hlt) (by rw [← HX.out]; exact HO.out)
        subst hdf
        go_wp2_with fail
        refine (HS.out _).mono ?_
        rintro e w' ⟨rfl, rfl⟩
        go_wp2_with fail
        go_ret
        exact ⟨rfl, rfl⟩
      · go_wp2_with fail
        refine (HS.out _).mono ?_
        rintro e w' ⟨rfl, rfl⟩
        go_wp2_with fail
        go_round
        case rel =>
          refine ⟨k + 1, by omega, by go_num, show Hid _ from fun j hj => ?_⟩
          by_cases e : j = k
          · subst e; rw [← HX.out]; exact HO.out
          · exact hall.out j (by omega)
        case measure => simp [intOf]; omega
    · have hkn : k = n := by omega
      subst hkn
      have hdt : d = true := by
        rw [HD.out]
        have hl := H.out.len
        exact all_yes (fun j hj => hall.out j (by omega))
      subst hdt
      go_wp2_with fail
      go_ret
      exact ⟨rfl, rfl⟩

theorem vecOkB_split {xs : List Int} {n : Nat} (hl : xs.length = n) : vecOkB xs = (inB 1 6 (n : Int) && xs.all okB) := by
  unfold vecOkB inB
  rw [hl]
  by_cases h0 : 1 ≤ n
  · by_cases h6 : n ≤ 6
    · rw [decide_eq_true h0, decide_eq_true h6, decide_eq_true (by omega : (1 : Int) ≤ (n : Int) ∧ (n : Int) ≤ 6)]; rfl
    · rw [decide_eq_true h0, decide_eq_false h6, decide_eq_false (by omega : ¬ ((1 : Int) ≤ (n : Int) ∧ (n : Int) ≤ 6))]; rfl
  · rw [decide_eq_false h0, decide_eq_false (by omega : ¬ ((1 : Int) ≤ (n : Int) ∧ (n : Int) ≤ 6))]; simp
set_option maxRecDepth 100000 in
theorem implVecOk_any (w : World) (a : Option Addr) (n c : Nat) (xs : List Int) (h : IntsIn w.heap.size w a n xs) :
    Calls Tryz.prog 50 #[.slice a n c] w fun e w' => e = .returned (.bool (vecOkB xs)) ∧ w = w' := by
  have hr := h.room
  rw [vecOkB_split h.len]
  have HA := Lib.hid (implAllOk_any w a n c xs h)
  have HN := Lib.hid (fun w => implDimOk_any (n : Int) w)
  obtain ⟨q, hq⟩ : ∃ q, xs.all okB = q := ⟨_, rfl⟩
  obtain ⟨p, hp⟩ : ∃ p, inB 1 6 (n : Int) = p := ⟨_, rfl⟩
  rw [hq] at HA ⊢
  rw [hp] at HN ⊢
  clear hq hp h
  cases p
  · go_enter Tryz.func50, Tryz.ntmps50
    go_wp2_with fail
    refine (HN.out _).mono ?_
    rintro e w' ⟨rfl, rfl⟩
    go_wp2_with fail
    go_ret
    exact ⟨rfl, rfl⟩
  · go_enter Tryz.func50, Tryz.ntmps50
    go_wp2_with fail
    refine (HN.out _).mono ?_
    rintro e w' ⟨rfl, rfl⟩
    go_wp2_with fail
    refine HA.out.mono ?_
    rintro e w' ⟨rfl, rfl⟩
    go_wp2_with fail
    go_ret
    exact ⟨by simp, rfl⟩

set_option maxRecDepth 100000 in
theorem l3Pair_any (w : World) (a1 : Option Addr) (n1 c1 : Nat) (xs : List Int) (a2 : Option Addr) (n2 c2 : Nat) (ys : List Int) (h1 : IntsIn w.heap.size w a1 n1 xs) (h2 : IntsIn w.heap.size w a2 n2 ys) :
    Calls Tryz.prog 79 #[.slice a1 n1 c1, .slice a2 n2 c2] w fun e w' => e = .returned (.bool (pairB xs ys)) ∧ w = w' := by
  have S1 := specVecOk_any w a1 n1 c1 xs h1
  have S2 := specVecOk_any w a2 n2 c2 ys h2
  obtain ⟨p, hp⟩ : ∃ p, vecOkB xs = p := ⟨_, rfl⟩
  obtain ⟨q, hq⟩ : ∃ q, vecOkB ys = q := ⟨_, rfl⟩
  have hd : pairB xs ys = (p && q && decide ((n1 : Int) = (n2 : Int))) := by
    unfold pairB
    rw [hp, hq, h1.len, h2.len]
    congr 1
    exact decide_eq_decide.2 (by omega)
  rw [hd]
  rw [hp] at S1
  rw [hq] at S2
  have H1 := Lib.hid S1
  have H2 := Lib.hid S2
  clear hd hp hq S1 S2 h1 h2
  cases p
  · go_enter Tryz.func79, Tryz.ntmps79
    go_wp2_with fail
    refine H1.out.mono ?_
    rintro e w' ⟨rfl, rfl⟩
    go_wp2_with fail
    go_ret
    exact ⟨rfl, rfl⟩
  · cases q
    · go_enter Tryz.func79, Tryz.ntmps79
      go_wp2_with fail
      refine H1.out.mono ?_
      rintro e w' ⟨rfl, rfl⟩
      go_wp2_with fail
      refine H2.out.mono ?_
      rintro e w' ⟨rfl, rfl⟩
      go_wp2_with fail
      go_ret
      exact ⟨rfl, rfl⟩
    · by_cases hn : n1 = n2
      · subst hn
        go_enter Tryz.func79, Tryz.ntmps79
        go_wp2_with fail
        refine H1.out.mono ?_
        rintro e w' ⟨rfl, rfl⟩
        go_wp2_with fail
        refine H2.out.mono ?_
        rintro e w' ⟨rfl, rfl⟩
        go_wp2_with fail
        go_ret
        exact ⟨by simp, rfl⟩
      · have hne : ((n1 : Int) == (n2 : Int)) = false := by rw [beq_eq_false_iff_ne]; omega
        have hdd : decide ((n1 : Int) = (n2 : Int)) = false := decide_eq_false (by omega)
        go_enter Tryz.func79, Tryz.ntmps79
        go_wp2_with fail
        refine H1.out.mono ?_
        rintro e w' ⟨rfl, rfl⟩
        go_wp2_with fail
        refine H2.out.mono ?_
        rintro e w' ⟨rfl, rfl⟩
        go_wp2_with fail
        go_ret
        exact ⟨by simp [hdd], rfl⟩
end Go.Proofs.YtkmcfbopilieeaaGreatDoor

end
