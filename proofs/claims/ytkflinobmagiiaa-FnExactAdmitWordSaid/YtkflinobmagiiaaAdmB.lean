/-
  The words of reasons: the model's and the program's.
-/
import Derived.Test.YtkflinobmagiiaaPlanA
namespace Go.Proofs.Ytkflinobmagiiaa
open Go.RowKit Go.Sort
set_option linter.unusedVariables false

def admW (k : Int) : ByteArray :=
  if k = 0 then ⟨#[111, 107]⟩ else if k = 1 then ⟨#[109, 111, 100, 101, 108]⟩ else if k = 2 then ⟨#[98, 97, 116, 99, 104]⟩ else if k = 3 then ⟨#[99, 117, 116, 115]⟩ else if k = 4 then ⟨#[112, 108, 97, 110]⟩ else if k = 5 then ⟨#[114, 101, 100, 111]⟩ else if k = 6 then ⟨#[113, 117, 101, 117, 101]⟩ else if k = 7 then ⟨#[109, 101, 109, 111, 114, 121]⟩ else ⟨#[]⟩
theorem admW_no {k : Int} (h : ¬ (0 ≤ k ∧ k ≤ 7)) : admW k = ⟨#[]⟩ := by
  unfold admW
  repeat rw [if_neg (by omega)]
theorem eightA {k : Int} (h1 : 0 ≤ k) (h2 : k ≤ 7) : k = 0 ∨ k = 1 ∨ k = 2 ∨ k = 3 ∨ k = 4 ∨ k = 5 ∨ k = 6 ∨ k = 7 := by omega
set_option maxRecDepth 100000 in
set_option maxHeartbeats 1600000 in
theorem specAdmitWord_any (w : World) (k : Int) :
    Calls Try.prog 29 #[.int .i64 k] w fun e w' => e = .returned (.string (admW k)) ∧ Below w.heap.size w w' := by
  obtain ⟨R, hR⟩ : ∃ R, admW k = R := ⟨_, rfl⟩
  rw [hR]
  obtain ⟨p, hp⟩ : ∃ p, inB 0 7 k = p := ⟨_, rfl⟩
  have H1 := Lib.hid fun w => hp ▸ l1In_any k 0 7 w
  cases p
  · rw [admW_no (by unfold inB at hp; simpa using hp)] at hR
    subst hR
    clear hp
    go_enter Try.func29, Try.ntmps29
    go_wp2_with fail
    refine (H1.out _).mono ?_
    rintro e w' ⟨rfl, rfl⟩
    go_wp2_with fail
    go_ret
    exact ⟨rfl, Below.refl _ _⟩
  · have hk : 0 ≤ k ∧ k ≤ 7 := by unfold inB at hp; simpa using hp
    clear hp
    rcases eightA hk.1 hk.2 with rfl | rfl | rfl | rfl | rfl | rfl | rfl | rfl
    all_goals
      subst hR
      go_enter Try.func29, Try.ntmps29
      go_wp2_with fail
      refine (H1.out _).mono ?_
      rintro e w' ⟨rfl, rfl⟩
      go_wp2_with fail
      go_ret
      exact ⟨rfl, (Below.refl _ _).alloc (Nat.le_refl _) _⟩
set_option maxRecDepth 100000 in
set_option maxHeartbeats 1600000 in
theorem implAdmitWord_any (w : World) (k : Int) :
    Calls Try.prog 30 #[.int .i64 k] w fun e w' => e = .returned (.string (admW k)) ∧ Below w.heap.size w w' := by
  obtain ⟨R, hR⟩ : ∃ R, admW k = R := ⟨_, rfl⟩
  rw [hR]
  by_cases hlo : k < 0
  · rw [admW_no (by omega)] at hR
    subst hR
    go_enter Try.func30, Try.ntmps30
    go_wp2_with fail
    go_ret
    exact ⟨rfl, (Below.refl _ _).alloc (Nat.le_refl _) _⟩
  · by_cases hhi : 8 ≤ k
    · rw [admW_no (by omega)] at hR
      subst hR
      go_enter Try.func30, Try.ntmps30
      go_wp2_with fail
      go_ret
      exact ⟨rfl, (Below.refl _ _).alloc (Nat.le_refl _) _⟩
    · have hk : k = 0 ∨ k = 1 ∨ k = 2 ∨ k = 3 ∨ k = 4 ∨ k = 5 ∨ k = 6 ∨ k = 7 := by omega
      rcases hk with rfl | rfl | rfl | rfl | rfl | rfl | rfl | rfl
      all_goals
        subst hR
        go_enter Try.func30, Try.ntmps30
        go_wp2_with fail
        go_ret
        exact ⟨rfl, (Below.refl _ _).alloc (Nat.le_refl _) _⟩
set_option maxRecDepth 100000 in
set_option maxHeartbeats 1600000 in
/-- The exact law: the walk. -/
theorem lawAdmitWord_any (w : World) (k : Int) :
    Calls Try.prog 9 #[.int .i64 k] w fun e w' => e = .returned (.bool true) ∧ Below w.heap.size w w' := by
  have H1 := Lib.hid fun wx : World => specAdmitWord_any wx k
  have H2 := Lib.hid fun wx : World => implAdmitWord_any wx k
  obtain ⟨R, hR⟩ : ∃ R, admW k = R := ⟨_, rfl⟩
  rw [hR] at H1 H2
  clear hR
  go_enter Try.func9, Try.ntmps9
  go_wp2_with fail
  refine (H1.out _).mono ?_
  rintro e w1 ⟨rfl, hb⟩
  have HX := Lib.hid hb
  clear hb
  go_wp2_with fail
  refine (H2.out _).mono ?_
  rintro e w2 ⟨rfl, hb⟩
  have HY := Lib.hid (HX.out.trans (hb.mono HX.out.size))
  clear hb
  go_wp2_with fail
  go_ret
  exact ⟨rfl, HY.out⟩
end Go.Proofs.Ytkflinobmagiiaa
