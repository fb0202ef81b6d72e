/-
  The words of instructions: the model's and the program's.
-/
import Derived.Test.YtikjhpljaanakaaDoorPlanA
namespace Go.Proofs.YtikjhpljaanakaaDoor
open Go.RowKit Go.Sort
set_option linter.unusedVariables false

def insW (k : Int) : ByteArray :=
  if k = 1 then ⟨#[114, 101, 99, 118]⟩ else if k = 2 then ⟨#[102, 119, 100]⟩ else if k = 3 then ⟨#[115, 101, 110, 100]⟩ else if k = 4 then ⟨#[114, 101, 99, 118, 103]⟩ else
  if k = 5 then ⟨#[114, 101, 100, 111]⟩ else if k = 6 then ⟨#[98, 119, 100]⟩ else if k = 7 then ⟨#[115, 101, 110, 100, 103]⟩ else if k = 8 then ⟨#[102, 108, 117, 115, 104]⟩ else ⟨#[]⟩
theorem insW_no {k : Int} (h : ¬ (1 ≤ k ∧ k ≤ 8)) : insW k = ⟨#[]⟩ := by
  unfold insW
  repeat rw [if_neg (by omega)]
theorem eight {k : Int} (h1 : 1 ≤ k) (h2 : k ≤ 8) : k = 1 ∨ k = 2 ∨ k = 3 ∨ k = 4 ∨ k = 5 ∨ k = 6 ∨ k = 7 ∨ k = 8 := by omega
set_option maxRecDepth 100000 in
set_option maxHeartbeats 1600000 in
theorem specInsWord_any (w : World) (k : Int) :
    Calls Tryd.prog 9 #[.int .i64 k] w fun e w' => e = .returned (.string (insW k)) ∧ Below w.heap.size w w' := by
  obtain ⟨R, hR⟩ : ∃ R, insW k = R := ⟨_, rfl⟩
  rw [hR]
  obtain ⟨p, hp⟩ : ∃ p, inB 1 8 k = p := ⟨_, rfl⟩
  have H1 := Lib.hid fun w => hp ▸ l1In_any k 1 8 w
  cases p
  · rw [insW_no (by unfold inB at hp; simpa using hp)] at hR
    subst hR
    clear hp
    go_enter Tryd.func9, Tryd.ntmps9
    go_wp2_with fail
    refine (H1.out _).mono ?_
    rintro e w' ⟨rfl, rfl⟩
    go_wp2_with fail
    go_ret
    exact ⟨rfl, Below.refl _ _⟩
  · have hk : 1 ≤ k ∧ k ≤ 8 := by unfold inB at hp; simpa using hp
    clear hp
    rcases eight hk.1 hk.2 with rfl | rfl | rfl | rfl | rfl | rfl | rfl | rfl
    all_goals
      subst hR
      go_enter Tryd.func9, Tryd.ntmps9
      go_wp2_with fail
      refine (H1.out _).mono ?_
      rintro e w' ⟨rfl, rfl⟩
      go_wp2_with fail
      go_ret
      exact ⟨rfl, (Below.refl _ _).alloc (Nat.le_refl _) _⟩
set_option maxRecDepth 100000 in
set_option maxHeartbeats 1600000 in
theorem implInsWord_any (w : World) (k : Int) :
    Calls Tryd.prog 12 #[.int .i64 k] w fun e w' => e = .returned (.string (insW k)) ∧ Below w.heap.size w w' := by
  obtain ⟨R, hR⟩ : ∃ R, insW k = R := ⟨_, rfl⟩
  rw [hR]
  by_cases hlo : k < 0
  · rw [insW_no (by omega)] at hR
    subst hR
    go_enter Tryd.func12, Tryd.ntmps12
    go_wp2_with fail
    go_ret
    exact ⟨rfl, (Below.refl _ _).alloc (Nat.le_refl _) _⟩
  · by_cases hhi : 9 ≤ k
    · rw [insW_no (by omega)] at hR
      subst hR
      go_enter Tryd.func12, Tryd.ntmps12
      go_wp2_with fail
      go_ret
      exact ⟨rfl, (Below.refl _ _).alloc (Nat.le_refl _) _⟩
    · have hk : k = 0 ∨ k = 1 ∨ k = 2 ∨ k = 3 ∨ k = 4 ∨ k = 5 ∨ k = 6 ∨ k = 7 ∨ k = 8 := by omega
      rcases hk with rfl | rfl | rfl | rfl | rfl | rfl | rfl | rfl | rfl
      all_goals
        subst hR
        go_enter Tryd.func12, Tryd.ntmps12
        go_wp2_with fail
        go_ret
        exact ⟨rfl, (Below.refl _ _).alloc (Nat.le_refl _) _⟩
end Go.Proofs.YtikjhpljaanakaaDoor
