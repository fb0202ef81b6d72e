/-
  Stages: the model's FindSaved, l11Hand and Ledger.
-/
import Derived.Test.YtpnifgpmleaohaaStgM
import Derived.Test.YtpnifgpmleaohaaSpecFix
import Derived.Test.YtpnifgpmleaohaaVecS
import Derived.Deep.QuietTactic
import Derived.BigQuiet
namespace Go.Proofs.Ytpnifgpmleaohaa
open Go.RowKit Go.Sort
set_option linter.unusedVariables false
set_option linter.unusedSimpArgs false

set_option maxRecDepth 100000 in
theorem specFindSaved_c (w : World) (a : Option Addr) (n c : Nat) (l : List dSaved) (m : Int) (h : ListAt shSaved (Under w.heap.size) w a n l) (hn : n ≤ 1048576) :
    Calls Try.prog 27 #[.slice a n c, .int .i64 m] w fun e w' => e = .returned (.int .i64 (findN l m)) ∧ w = w' := by
  obtain ⟨R, hR⟩ : ∃ R, findN l m = R := ⟨_, rfl⟩
  rw [hR]
  have HL := Lib.hid h
  have HLEN := Lib.hid h.1
  have HR := Lib.hid hR
  clear h hR
  go_enter Try.func27, Try.ntmps27
  go_wp2_with fail
  go_loop [5] (fun i => ∃ k : Nat, k ≤ n ∧ i = .int .i64 k ∧ Hid (∀ (j : Nat) (x : dSaved), j < k → l[j]? = some x → x.1 ≠ m)) (fun i => n - (intOf i).toNat)
  case atStart => exact ⟨0, Nat.zero_le _, rfl, Lib.hid fun j x hj => absurd hj (Nat.not_lt_zero _)⟩
  case round =>
    obtain ⟨k, hk, rfl, hall⟩ := hrel
    by_cases hlt : k < n
    · obtain ⟨b, o, x, ax, nx, cx, hx, rfl, -, hc0, hc1, -, -, -⟩ := saved_at HL.out k hlt
      obtain ⟨M, hM⟩ : ∃ M, x.1 = M := ⟨_, rfl⟩
      rw [hM] at hc0
      have HX := Lib.hid hx
      have HM := Lib.hid hM
      clear hx hM hc1
      by_cases he : M = m
      · have g0 : (M == m) = true := beq_iff_eq.2 he
        obtain rfl : R = (k : Int) := by rw [← HR.out]; exact findN_at HX.out (HM.out.trans he) hall.out
        clear he
        go_wp2_with fail
        go_ret
        exact ⟨rfl, rfl⟩
      · have g0 : (M == m) = false := beq_eq_false_iff_ne.2 he
        have HE := Lib.hid he
        clear he
        go_wp2_with fail
        go_round
        case rel =>
          refine ⟨k + 1, by omega, by go_num, Lib.hid fun j y hj hy => ?_⟩
          by_cases e : j = k
          · subst e
            rw [HX.out] at hy
            cases hy
            rw [HM.out]
            exact HE.out
          · exact hall.out j y (by omega) hy
        case measure => simp [intOf]; omega
    · obtain rfl : k = n := by omega
      obtain rfl : R = -1 := by
        rw [← HR.out]
        exact findN_none fun j x hx => hall.out j x (by rw [← HLEN.out]; exact (List.getElem?_eq_some_iff.1 hx).1) hx
      go_wp2_with fail
      go_ret
      exact ⟨rfl, rfl⟩
set_option maxRecDepth 100000 in
theorem specHand_c (w : World) (a : Option Addr) (n c : Nat) (xs : List Int) (N : Int) (h : IntsIn w.heap.size w a n xs) :
    Calls Try.prog 60 #[.slice a n c, .int .i64 N] w fun e w' => e = .returned (.bool (handB xs N)) ∧ w = w' := by
  have hroom := h.room
  have hl := h.len
  have HC := Lib.hid (specVecOk_any w a n c xs h)
  obtain ⟨p, hp⟩ : ∃ p, vecOkB xs = p := ⟨_, rfl⟩
  have hR : handB xs N = (decide (n = 0) || (p && decide ((n : Int) = N))) := by unfold handB; rw [hp, hl]
  rw [hR]
  rw [hp] at HC
  clear h hp hR hl
  by_cases h0 : n = 0
  · subst h0
    go_enter Try.func60, Try.ntmps60
    go_wp2_with fail
    go_ret
    exact ⟨rfl, rfl⟩
  · have g0 : ((n : Int) == 0) = false := beq_eq_false_iff_ne.2 (by omega)
    have g1 : decide (n = 0) = false := decide_eq_false h0
    have h0e : 0 < n := by omega
    rw [g1, Bool.false_or]
    cases p
    · rw [Bool.false_and]
      go_enter Try.func60, Try.ntmps60
      go_wp2_with fail
      refine HC.out.mono ?_
      rintro e w' ⟨rfl, rfl⟩
      go_wp2_with fail
      go_ret
      exact ⟨rfl, rfl⟩
    · rw [Bool.true_and]
      go_enter Try.func60, Try.ntmps60
      go_wp2_with fail
      refine HC.out.mono ?_
      rintro e w' ⟨rfl, rfl⟩
      go_wp2_with fail
      go_ret
      exact ⟨rfl, rfl⟩
theorem box14 {w : World} {g : Nat} {cs : Array Value} {T : TypeId} (h : w.heap[g]? = some (.cells cs T (0, 0))) (i : Nat) (v : Value) (hv : cs[i]? = some v) : w.cell? ⟨g, i, none⟩ = some v := by
  rw [cell_of_row _ _ _ _ _ _ h]
  exact hv
set_option maxRecDepth 100000 in
set_option maxHeartbeats 3200000 in
theorem specLedger_d (w : World) (es : List Value) (s : dStage) (h : shStage.reads (Under w.heap.size) w es s) (hb : shStage.bulk s ≤ 1048576) :
    Calls Try.prog 24 #[.agg es.toArray] w fun e w' => e = .returned (.int .i64 (ledgerN s)) ∧ Below w.heap.size w w' := by
  obtain ⟨a0, n0, c0, a1, n1, c1, a2, n2, c2, a3, n3, c3, a4, n4, c4, a5, n5, c5, a6, n6, c6, a7, n7, c7, a8, n8, c8, rfl, -, -, ⟨-, -, l2⟩, ⟨-, -, l3⟩, ⟨-, -, l4⟩, ⟨-, -, l5⟩, ⟨-, -, l6⟩, ⟨-, -, l7⟩, -⟩ := shStage_reads.1 h
  rw [shStage_bulk, bulk_list shSaved l2, bulk_list shRow l3, bulk_ints, bulk_ints, bulk_ints, bulk_ints, l4.1, l5.1, l6.1, l7.1] at hb
  obtain ⟨R, hR⟩ : ∃ R, ledgerN s = R := ⟨_, rfl⟩
  rw [hR]
  have hR2 : R = ((n4 + n5 + n6 + n7 + wordsH (stashS s) + wordsR (fullS s) : Nat) : Int) := by
    rw [← hR]
    unfold ledgerN
    rw [show (xS s).length = n4 from l4.1, show (yS s).length = n5 from l5.1, show (gS s).length = n6 from l6.1, show (dS s).length = n7 from l7.1]
  have hw2 := wordsH_bulk (stashS s)
  have hw3 := wordsR_bulk (fullS s)
  obtain ⟨l, hl⟩ : ∃ l, stashS s = l := ⟨_, rfl⟩
  obtain ⟨f, hf⟩ : ∃ f, fullS s = f := ⟨_, rfl⟩
  have hl' : s.2.2.2.2.2.1 = l := hl
  have hf' : s.2.2.2.2.2.2.1 = f := hf
  rw [hl] at hw2 hR2
  rw [hf] at hw3 hR2
  rw [hl'] at hb l2
  rw [hf'] at hb l3
  have hn2 : n2 ≤ 1048576 := by omega
  have hn3 : n3 ≤ 1048576 := by omega
  have htot : n4 + n5 + n6 + n7 + wordsH l + wordsR f ≤ 1048576 := by omega
  have hbs : Shape.sum shSaved.bulk l ≤ 1048576 := by omega
  have hbf : Shape.sum shRow.bulk f ≤ 1048576 := by omega
  obtain ⟨q0, hq0⟩ : ∃ q, s.1 = q := ⟨_, rfl⟩
  obtain ⟨q3, hq3⟩ : ∃ q, s.2.2.2.1 = q := ⟨_, rfl⟩
  obtain ⟨q4, hq4⟩ : ∃ q, s.2.2.2.2.1 = q := ⟨_, rfl⟩
  obtain ⟨q12, hq12⟩ : ∃ q, s.2.2.2.2.2.2.2.2.2.2.2.2.1 = q := ⟨_, rfl⟩
  obtain ⟨q13, hq13⟩ : ∃ q, s.2.2.2.2.2.2.2.2.2.2.2.2.2 = q := ⟨_, rfl⟩
  rw [hq0, hq3, hq4, hq12, hq13]
  have hal : Below w.heap.size w (w.alloc (.cells #[.int .i64 q0, .slice a0 n0 c0, .slice a1 n1 c1, .bool q3, .bool q4, .slice a2 n2 c2, .slice a3 n3 c3, .slice a4 n4 c4, .slice a5 n5 c5, .slice a6 n6 c6, .slice a7 n7 c7, .slice a8 n8 c8, .int .i64 q12, .bool q13] 34 (0, 0))) := (Below.refl _ _).alloc (Nat.le_refl _) _
  have hk0 := heap_alloc_new w (.cells #[.int .i64 q0, .slice a0 n0 c0, .slice a1 n1 c1, .bool q3, .bool q4, .slice a2 n2 c2, .slice a3 n3 c3, .slice a4 n4 c4, .slice a5 n5 c5, .slice a6 n6 c6, .slice a7 n7 c7, .slice a8 n8 c8, .int .i64 q12, .bool q13] 34 (0, 0))
  have L2 := Lib.hid (l2.below hal (Nat.le_refl _))
  have L3 := Lib.hid (l3.below hal (Nat.le_refl _))
  have N2 := Lib.hid l2.1
  have N3 := Lib.hid l3.1
  have HA := Lib.hid hal
  have K0 := Lib.hid hk0
  have HR2 := Lib.hid hR2
  have HBS := Lib.hid hbs
  have HBF := Lib.hid hbf
  have HTOT := Lib.hid htot
  have hx4 : n4 + n5 + n6 + n7 ≤ 1048576 := by omega
  clear hR hR2 hw2 hw3 hl hf hl' hf' hb l2 l3 l4 l5 l6 l7 hq0 hq3 hq4 hq12 hq13 hal hk0 hbs hbf htot h
  go_enter Try.func24, Try.ntmps24
  go_upto_region 1 with fail
  generalize w.alloc (.cells #[.int .i64 q0, .slice a0 n0 c0, .slice a1 n1 c1, .bool q3, .bool q4, .slice a2 n2 c2, .slice a3 n3 c3, .slice a4 n4 c4, .slice a5 n5 c5, .slice a6 n6 c6, .slice a7 n7 c7, .slice a8 n8 c8, .int .i64 q12, .bool q13] 34 (0, 0)) = wa at L2 L3 HA K0 ⊢
  have z5 := box14 K0.out 5 _ rfl
  have z6 := box14 K0.out 6 _ rfl
  have z7 := box14 K0.out 7 _ rfl
  have z8 := box14 K0.out 8 _ rfl
  have z9 := box14 K0.out 9 _ rfl
  have z10 := box14 K0.out 10 _ rfl
  go_upto_region 2 with fail
  clear z7 z8 z9 z10
  obtain ⟨S0, hS0⟩ : ∃ S0, n4 + n5 + n6 + n7 = S0 := ⟨_, rfl⟩
  have hSI : (n4 : Int) + n5 + n6 + n7 = (S0 : Int) := by omega
  rw [hS0] at HR2 HTOT hx4
  rw [hSI]
  clear hS0 hSI
  go_wp2_with fail
  have hw2 : ∀ k, wordsH (l.take k) ≤ wordsH l := fun k => sum_take_le _ _ _
  go_loop [3, 4] (fun t i => ∃ k : Nat, k ≤ n2 ∧ i = .int .i64 k ∧ t = .int .i64 ((S0 + wordsH (l.take k) : Nat) : Int)) (fun _ i => n2 - (intOf i).toNat)
  case atStart => exact ⟨0, Nat.zero_le _, rfl, rfl⟩
  case round =>
    obtain ⟨k, hk, rfl, rfl⟩ := hrel
    by_cases hlt : k < n2
    · obtain ⟨b, o, x, ax, nx, cx, hx, rfl, -, hc0, hc1, -, -, hlx⟩ := saved_at L2.out k hlt
      have hbx := bulk_mem shSaved.bulk l k x hx
      have hwx := wordsR_bulk x.2
      rw [shSaved_bulk, bulk_list shRow hlx] at hbx
      have hnx : nx ≤ 1048576 := by have := HBS.out; omega
      have hst : wordsH (l.take (k + 1)) = wordsH (l.take k) + wordsR x.2 := sum_take _ l k x hx
      have hle := hw2 (k + 1)
      obtain ⟨T, hT⟩ : ∃ T, S0 + wordsH (l.take k) = T := ⟨_, rfl⟩
      have hTW : T + wordsR x.2 ≤ 1048576 := by have := HTOT.out; omega
      have hTE : S0 + wordsH (l.take (k + 1)) = T + wordsR x.2 := by omega
      have hwq : ∀ q, wordsR (x.2.take q) ≤ wordsR x.2 := fun q => sum_take_le _ _ _
      have HX := Lib.hid hlx
      have HXL := Lib.hid hlx.1
      have HTE := Lib.hid hTE
      rw [hT]
      clear hx hlx hbx hwx hst hle hT hTE hc0
      go_wp2_with fail
      go_loop [3, 5] (fun t j => ∃ q : Nat, q ≤ nx ∧ j = .int .i64 q ∧ t = .int .i64 ((T + wordsR (x.2.take q) : Nat) : Int)) (fun _ j => nx - (intOf j).toNat)
      case atStart => exact ⟨0, Nat.zero_le _, rfl, rfl⟩
      case round =>
        obtain ⟨q, hq, rfl, rfl⟩ := hrel
        by_cases hqt : q < nx
        · obtain ⟨b', o', y, ay, ny, cy, hy, rfl, -, hd0, -, -, hly⟩ := row_at HX.out q hqt
          have hst : wordsR (x.2.take (q + 1)) = wordsR (x.2.take q) + ny := by rw [← hly.1]; exact sum_take _ x.2 q y hy
          have hle := hwq (q + 1)
          obtain ⟨U, hU⟩ : ∃ U, T + wordsR (x.2.take q) = U := ⟨_, rfl⟩
          have hUE : T + wordsR (x.2.take (q + 1)) = U + ny := by omega
          have hUB : U + ny ≤ 1048576 := by omega
          have HUE := Lib.hid hUE
          rw [hU]
          clear hy hly hst hle hU hUE
          go_wp2_with fail
          go_round
          case rel => exact ⟨q + 1, by omega, by go_num, by rw [HUE.out]; simp⟩
          case measure => simp [intOf]; omega
        · obtain rfl : q = nx := by omega
          rw [List.take_of_length_le (Nat.le_of_eq HXL.out)]
          go_wp2_with fail
          go_round
          case rel => exact ⟨k + 1, by omega, by go_num, by rw [HTE.out]⟩
          case measure => simp [intOf]; omega
    · obtain rfl : k = n2 := by omega
      rw [List.take_of_length_le (Nat.le_of_eq N2.out)]
      obtain ⟨T, hT⟩ : ∃ T, S0 + wordsH l = T := ⟨_, rfl⟩
      have hTW : T + wordsR f ≤ 1048576 := by have := HTOT.out; omega
      have hRR : R = ((T + wordsR f : Nat) : Int) := by rw [HR2.out, hT]
      have HRR := Lib.hid hRR
      have hwq : ∀ q, wordsR (f.take q) ≤ wordsR f := fun q => sum_take_le _ _ _
      rw [hT]
      clear hT hRR hw2
      go_wp2_with fail
      go_loop [3, 6] (fun t j => ∃ q : Nat, q ≤ n3 ∧ j = .int .i64 q ∧ t = .int .i64 ((T + wordsR (f.take q) : Nat) : Int)) (fun _ j => n3 - (intOf j).toNat)
      case atStart => exact ⟨0, Nat.zero_le _, rfl, rfl⟩
      case round =>
        obtain ⟨q, hq, rfl, rfl⟩ := hrel
        by_cases hqt : q < n3
        · obtain ⟨b', o', y, ay, ny, cy, hy, rfl, -, hd0, -, -, hly⟩ := row_at L3.out q hqt
          have hst : wordsR (f.take (q + 1)) = wordsR (f.take q) + ny := by rw [← hly.1]; exact sum_take _ f q y hy
          have hle := hwq (q + 1)
          obtain ⟨U, hU⟩ : ∃ U, T + wordsR (f.take q) = U := ⟨_, rfl⟩
          have hUE : T + wordsR (f.take (q + 1)) = U + ny := by omega
          have hUB : U + ny ≤ 1048576 := by omega
          have HUE := Lib.hid hUE
          rw [hU]
          clear hy hly hst hle hU hUE
          go_wp2_with fail
          go_round
          case rel => exact ⟨q + 1, by omega, by go_num, by rw [HUE.out]; simp⟩
          case measure => simp [intOf]; omega
        · obtain rfl : q = n3 := by omega
          rw [List.take_of_length_le (Nat.le_of_eq N3.out)]
          go_wp2_with fail
          go_ret
          exact ⟨by rw [HRR.out]; rfl, HA.out⟩
end Go.Proofs.Ytpnifgpmleaohaa
