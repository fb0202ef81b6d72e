/-
  What a plan is for, and how many go ahead before the first one comes back: the model's and the program's.
-/
import Derived.Test.YtkflinobmagiiaaJoin43
import Derived.Test.YtkflinobmagiiaaJoin8
import Derived.Test.YtkflinobmagiiaaJoin19
import Derived.Deep.QuietTactic
import Derived.BigQuiet
import Derived.Deep.DeepCutAuto
import Derived.Deep.RegionLaw
import Derived.Lib.QuietBelow
namespace Go.Proofs.Ytkflinobmagiiaa
open Go.RowKit Go.Sort
set_option linter.unusedVariables false

theorem box4 {w : World} {g : Nat} {x y z u : Value} {T : TypeId} (h : w.heap[g]? = some (.cells #[x, y, z, u] T (0, 0))) : w.cell? ⟨g, 0, none⟩ = some x ∧ w.cell? ⟨g, 1, none⟩ = some y ∧ w.cell? ⟨g, 2, none⟩ = some z ∧ w.cell? ⟨g, 3, none⟩ = some u := by
  refine ⟨?_, ?_, ?_, ?_⟩ <;> rw [cell_of_row _ _ _ _ _ _ h] <;> rfl
abbrev taskV (n s m : Int) (r : Bool) : Value := .agg #[.int .i64 n, .int .i64 s, .int .i64 m, .bool r]
set_option maxRecDepth 100000 in
theorem implTaskOk_any (w : World) (n s m : Int) (r : Bool) :
    Calls Try.prog 33 #[taskV n s m r] w fun e w' => e = .returned (.bool (taskB n s m)) ∧ Below w.heap.size w w' := by
  obtain ⟨R, hR⟩ : ∃ R, taskB n s m = R := ⟨_, rfl⟩
  rw [hR]
  have hal : Below w.heap.size w (w.alloc (.cells #[.int .i64 n, .int .i64 s, .int .i64 m, .bool r] 61 (0, 0))) := (Below.refl _ _).alloc (Nat.le_refl _) _
  have hb0 := heap_alloc_new w (.cells #[.int .i64 n, .int .i64 s, .int .i64 m, .bool r] 61 (0, 0))
  obtain ⟨c0, c1, c2, c3⟩ := box4 hb0
  have HA := Lib.hid hal
  have HR := Lib.hid hR
  clear hal hR hb0
  by_cases h1 : 1 ≤ n
  case' neg => obtain rfl : R = false := by rw [← HR.out]; exact taskB_no (by omega)
  case' pos =>
    by_cases h2 : n ≤ 4
    case' neg => obtain rfl : R = false := by rw [← HR.out]; exact taskB_no (by omega)
    case' pos =>
      by_cases h3 : 0 ≤ s
      case' neg => obtain rfl : R = false := by rw [← HR.out]; exact taskB_no (by omega)
      case' pos =>
        by_cases h4 : s < n
        case' neg => obtain rfl : R = false := by rw [← HR.out]; exact taskB_no (by omega)
        case' pos =>
          by_cases h5 : 1 ≤ m
          case' neg => obtain rfl : R = false := by rw [← HR.out]; exact taskB_no (by omega)
          case' pos =>
            by_cases h6 : m ≤ 5
            case' neg => obtain rfl : R = false := by rw [← HR.out]; exact taskB_no (by omega)
            case' pos => obtain rfl : R = true := by rw [← HR.out]; exact taskB_yes h1 h2 h3 h4 h5 h6
  all_goals
    go_enter Try.func33, Try.ntmps33
    go_wp2_with fail
    go_ret
    exact ⟨rfl, HA.out⟩
set_option maxRecDepth 100000 in
theorem implBehind_any (w : World) (n s m : Int) (r : Bool) (hn1 : 1 ≤ n) (hn2 : n ≤ 4) (hs1 : 0 ≤ s) (hs2 : s < n) :
    Calls Try.prog 64 #[taskV n s m r] w fun e w' => e = .returned (.int .i64 (n - 1 - s)) ∧ Below w.heap.size w w' := by
  have hal : Below w.heap.size w (w.alloc (.cells #[.int .i64 n, .int .i64 s, .int .i64 m, .bool r] 61 (0, 0))) := (Below.refl _ _).alloc (Nat.le_refl _) _
  have hb0 := heap_alloc_new w (.cells #[.int .i64 n, .int .i64 s, .int .i64 m, .bool r] 61 (0, 0))
  obtain ⟨c0, c1, c2, c3⟩ := box4 hb0
  have HA := Lib.hid hal
  clear hal hb0
  go_enter Try.func64, Try.ntmps64
  go_wp2_with fail
  go_ret
  exact ⟨rfl, HA.out⟩
set_option maxRecDepth 100000 in
theorem implWarmUp_any (w : World) (ds n s m : Int) :
    Calls Try.prog 34 #[.int .i64 ds, .int .i64 n, .int .i64 s, .int .i64 m] w fun e w' => e = .returned (.int .i64 (warmN ds n s m)) ∧ Below w.heap.size w w' := by
  obtain ⟨R, hR⟩ : ∃ R, warmN ds n s m = R := ⟨_, rfl⟩
  rw [hR]
  have hal : Below w.heap.size w (w.alloc (.cells #[.int .i64 n, .int .i64 s, .int .i64 m, .bool false] 61 (0, 0))) := (Below.refl _ _).alloc (Nat.le_refl _) _
  have hb0 := heap_alloc_new w (.cells #[.int .i64 n, .int .i64 s, .int .i64 m, .bool false] 61 (0, 0))
  have hs0 : w.heap.size < (w.alloc (.cells #[.int .i64 n, .int .i64 s, .int .i64 m, .bool false] 61 (0, 0))).heap.size := by simp
  obtain ⟨p, hp⟩ : ∃ p, taskB n s m = p := ⟨_, rfl⟩
  have H1 := Lib.hid fun (wx : World) => hp ▸ implTaskOk_any wx n s m false
  have HA := Lib.hid hal
  have HB0 := Lib.hid hb0
  have HS0 := Lib.hid hs0
  obtain ⟨c0, c1, c2, c3⟩ := box4 hb0
  clear hal hb0 hs0
  cases p
  · rw [warmN_no hp] at hR
    subst hR
    clear hp
    go_enter Try.func34, Try.ntmps34
    go_wp2_with fail
    refine (H1.out _).mono ?_
    rintro e w1 ⟨rfl, hb⟩
    have HX := Lib.hid (HA.out.trans (hb.mono HA.out.size))
    clear hb
    go_wp2_with fail
    go_ret
    exact ⟨rfl, HX.out⟩
  · obtain ⟨hn1, hn2, hs1, hs2, hm1, hm2⟩ := taskB_has hp
    by_cases hd : ds = 2
    · subst hd
      rw [warmN_one hp] at hR
      have H2 := Lib.hid fun (wx : World) => implBehind_any wx n s m false hn1 hn2 hs1 hs2
      obtain ⟨d, hd⟩ : ∃ d, n - 1 - s = d := ⟨_, rfl⟩
      rw [hd] at hR H2
      have HR := Lib.hid hR
      clear hp hR
      go_enter Try.func34, Try.ntmps34
      go_wp2_with fail
      refine (H1.out _).mono ?_
      rintro e w1 ⟨rfl, hb⟩
      have HX := Lib.hid (HA.out.trans (hb.mono HA.out.size))
      have hb1 := (hb.block w.heap.size HS0.out).trans HB0.out
      clear hb c0 c1 c2 c3
      obtain ⟨c0, c1, c2, c3⟩ := box4 hb1
      clear hb1
      go_wp2_with fail
      refine (H2.out _).mono ?_
      rintro e w2 ⟨rfl, hb⟩
      have HY := Lib.hid (HX.out.trans (hb.mono HX.out.size))
      clear hb c0 c1 c2 c3
      go_wp2_with fail
      all_goals (go_ret; refine ⟨?_, HY.out⟩)
      · rw [← HR.out, Int.min_eq_right (by omega)]; rfl
      · rw [← HR.out, Int.min_eq_left (by omega)]; rfl
    · have bd : (ds == 2) = false := by simpa using hd
      rw [warmN_all hp hd] at hR
      subst hR
      clear hp
      go_enter Try.func34, Try.ntmps34
      go_wp2_with fail
      refine (H1.out _).mono ?_
      rintro e w1 ⟨rfl, hb⟩
      have HX := Lib.hid (HA.out.trans (hb.mono HA.out.size))
      clear hb
      go_wp2_with fail
      go_ret
      exact ⟨rfl, HX.out⟩

end Go.Proofs.Ytkflinobmagiiaa
