/-
  How many go ahead at most: the model's and the program's.
-/
import Derived.Test.YtikjhpljaanakaaIns
import Derived.Test.YtikjhpljaanakaaPlanP
namespace Go.Proofs.Ytikjhpljaanakaa
open Go.RowKit Go.Sort
set_option linter.unusedVariables false

/-- How many are under way, and the most so far. -/
def flyU (xs : List dTwo) : Nat → Int
  | 0 => 0
  | k + 1 => if (xs.getD k (0, 0)).1 = 2 then flyU xs k + 1 else if (xs.getD k (0, 0)).1 = 6 then flyU xs k - 1 else flyU xs k
def flyM (xs : List dTwo) : Nat → Int
  | 0 => 0
  | k + 1 => max (flyM xs k) (flyU xs (k + 1))
theorem fly_range (xs : List dTwo) : ∀ k : Nat, -(k : Int) ≤ flyU xs k ∧ flyU xs k ≤ k ∧ 0 ≤ flyM xs k ∧ flyM xs k ≤ k
  | 0 => by simp [flyU, flyM]
  | k + 1 => by
    obtain ⟨h1, h2, h3, h4⟩ := fly_range xs k
    have h5 : -((k + 1 : Nat) : Int) ≤ flyU xs (k + 1) ∧ flyU xs (k + 1) ≤ ((k + 1 : Nat) : Int) := by
      rw [flyU]
      split
      · omega
      · split <;> omega
    rw [flyM]
    omega
set_option maxRecDepth 100000 in
set_option maxHeartbeats 1600000 in
theorem specInFlight_any (w : World) (a : Option Addr) (n c : Nat) (xs : List dTwo) (h : TwoIn w.heap.size w a n xs) :
    Calls Try.prog 17 #[.slice a n c] w fun e w' => e = .returned (.int .i64 (flyM xs n)) ∧ w = w' := by
  have hroom := h.room
  have H := Lib.hid h
  clear h
  go_enter Try.func17, Try.ntmps17
  go_wp2_with fail
  go_loop [3, 4, 5] (fun u m i => ∃ k : Nat, k ≤ n ∧ i = .int .i64 k ∧ u = .int .i64 (flyU xs k) ∧ m = .int .i64 (flyM xs k)) (fun _ _ i => n - (intOf i).toNat)
  case atStart => exact ⟨0, Nat.zero_le _, rfl, rfl, rfl⟩
  case round =>
    obtain ⟨k, hk, rfl, rfl, rfl⟩ := hrel
    have hfr := fly_range xs k
    by_cases hlt : k < n
    · obtain ⟨b, o, rfl, hbB, hc0, hc1⟩ := H.out.cells k hlt
      obtain ⟨X, hX⟩ : ∃ X, (xs.getD k (0, 0)).1 = X := ⟨_, rfl⟩
      obtain ⟨U, hU⟩ : ∃ U, flyU xs k = U := ⟨_, rfl⟩
      obtain ⟨V, hV⟩ : ∃ V, flyM xs k = V := ⟨_, rfl⟩
      have hU' : flyU xs (k + 1) = if X = 2 then U + 1 else if X = 6 then U - 1 else U := by rw [flyU, hX, hU]
      have hV' : flyM xs (k + 1) = max V (flyU xs (k + 1)) := by rw [flyM, hV]
      rw [hX] at hc0
      rw [hU, hV] at hfr ⊢
      obtain ⟨h1, h2, h3, h4⟩ := hfr
      clear hc1 hX hU hV
      by_cases e2 : X = 2
      · subst e2
        rw [if_pos rfl] at hU'
        rw [hU'] at hV'
        have HU := Lib.hid hU'
        have HV := Lib.hid hV'
        clear hU' hV'
        go_wp2_with fail
        all_goals
          go_round
          case rel => exact ⟨k + 1, by omega, by go_num, by rw [HU.out], by rw [HV.out]; congr 1; split <;> omega⟩
          case measure => simp [intOf]; omega
      · have b2 : (X == 2) = false := by simpa using e2
        rw [if_neg e2] at hU'
        by_cases e6 : X = 6
        · subst e6
          rw [if_pos rfl] at hU'
          rw [hU'] at hV'
          have HU := Lib.hid hU'
          have HV := Lib.hid hV'
          clear hU' hV'
          go_wp2_with fail
          all_goals
            go_round
            case rel => exact ⟨k + 1, by omega, by go_num, by rw [HU.out], by rw [HV.out]; congr 1; split <;> omega⟩
            case measure => simp [intOf]; omega
        · have b6 : (X == 6) = false := by simpa using e6
          rw [if_neg e6] at hU'
          rw [hU'] at hV'
          have HU := Lib.hid hU'
          have HV := Lib.hid hV'
          clear hU' hV'
          go_wp2_with fail
          all_goals
            go_round
            case rel => exact ⟨k + 1, by omega, by go_num, by rw [HU.out], by rw [HV.out]; congr 1; split <;> omega⟩
            case measure => simp [intOf]; omega
    · obtain rfl : k = n := by omega
      go_wp2_with fail
      go_ret
      exact ⟨rfl, rfl⟩

set_option maxRecDepth 100000 in
set_option maxHeartbeats 1600000 in
theorem implInFlight_any (w : World) (a : Option Addr) (n c : Nat) (xs : List dTwo) (h : TwoIn w.heap.size w a n xs) :
    Calls Try.prog 16 #[.slice a n c] w fun e w' => e = .returned (.int .i64 (flyM xs n)) ∧ Below w.heap.size w w' := by
  have hroom := h.room
  have H := Lib.hid h
  clear h
  go_enter Try.func16, Try.ntmps16
  go_wp2_with fail
  go_loopw [3, 4, 9] (fun m u i wr => ∃ k : Nat, k ≤ n ∧ i = .int .i64 k ∧ u = .int .i64 (flyU xs k) ∧ m = .int .i64 (flyM xs k) ∧ Below w.heap.size w wr) (fun _ _ i _ => n - (intOf i).toNat)
  case atStart => exact ⟨0, Nat.zero_le _, rfl, rfl, rfl, Below.refl _ _⟩
  case round =>
    obtain ⟨k, hk, rfl, rfl, rfl, hb⟩ := hrel
    have hfr := fly_range xs k
    by_cases hlt : k < n
    · obtain ⟨b, o, rfl, hbB, hc0, hc1⟩ := H.out.cells k hlt
      obtain ⟨X, hX⟩ : ∃ X, (xs.getD k (0, 0)).1 = X := ⟨_, rfl⟩
      obtain ⟨Y, hY⟩ : ∃ Y, (xs.getD k (0, 0)).2 = Y := ⟨_, rfl⟩
      obtain ⟨U, hU⟩ : ∃ U, flyU xs k = U := ⟨_, rfl⟩
      obtain ⟨V, hV⟩ : ∃ V, flyM xs k = V := ⟨_, rfl⟩
      have hU' : flyU xs (k + 1) = if X = 2 then U + 1 else if X = 6 then U - 1 else U := by rw [flyU, hX, hU]
      have hV' : flyM xs (k + 1) = max V (flyU xs (k + 1)) := by rw [flyM, hV]
      rw [hX] at hc0
      rw [hY] at hc1
      rw [hU, hV] at hfr ⊢
      obtain ⟨h1, h2, h3, h4⟩ := hfr
      have d0 := (hb.cell (p := ⟨b, o + k * 2, none⟩) hbB).trans hc0
      have d1 := (hb.cell (p := ⟨b, o + k * 2 + 1, none⟩) hbB).trans hc1
      have HB := Lib.hid (hb.alloc hb.size (.cells #[.int .i64 X, .int .i64 Y] 54 (0, 0)))
      clear hc0 hc1 hX hY hU hV hb
      by_cases e2 : X = 2
      · subst e2
        rw [if_pos rfl] at hU'
        rw [hU'] at hV'
        have HU := Lib.hid hU'
        have HV := Lib.hid hV'
        clear hU' hV'
        go_wp2_with fail
        all_goals
          go_roundw
          case rel => exact ⟨k + 1, by omega, by go_num, by rw [HU.out], by rw [HV.out]; congr 1; split <;> omega, HB.out⟩
          case measure => simp [intOf]; omega
      · have b2 : (X == 2) = false := by simpa using e2
        rw [if_neg e2] at hU'
        by_cases e6 : X = 6
        · subst e6
          rw [if_pos rfl] at hU'
          rw [hU'] at hV'
          have HU := Lib.hid hU'
          have HV := Lib.hid hV'
          clear hU' hV'
          go_wp2_with fail
          all_goals
            go_roundw
            case rel => exact ⟨k + 1, by omega, by go_num, by rw [HU.out], by rw [HV.out]; congr 1; split <;> omega, HB.out⟩
            case measure => simp [intOf]; omega
        · have b6 : (X == 6) = false := by simpa using e6
          rw [if_neg e6] at hU'
          rw [hU'] at hV'
          have HU := Lib.hid hU'
          have HV := Lib.hid hV'
          clear hU' hV'
          go_wp2_with fail
          all_goals
            go_roundw
            case rel => exact ⟨k + 1, by omega, by go_num, by rw [HU.out], by rw [HV.out]; congr 1; split <;> omega, HB.out⟩
            case measure => simp [intOf]; omega
    · obtain rfl : k = n := by omega
      have HB := Lib.hid hb
      clear hb
      go_wp2_with fail
      go_ret
      exact ⟨rfl, HB.out⟩
end Go.Proofs.Ytikjhpljaanakaa
