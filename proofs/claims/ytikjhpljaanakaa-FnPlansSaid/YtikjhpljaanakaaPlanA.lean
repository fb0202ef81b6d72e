/-
  What a plan is for, and how many go ahead before the first one comes back: the model's and the program's.
-/
import Derived.Test.YtikjhpljaanakaaPlanP
import Derived.Test.YtikjhpljaanakaaSpecFix
import Derived.Test.YtikjhpljaanakaaShape
import Derived.Deep.QuietTactic
import Derived.BigQuiet
import Derived.Deep.DeepCutAuto
import Derived.Deep.RegionLaw
import Derived.Lib.QuietBelow
namespace Go.Proofs.Ytikjhpljaanakaa
open Go.RowKit Go.Sort
set_option linter.unusedVariables false

set_option maxRecDepth 100000 in
theorem specWarmUp_any (w : World) (ds n s m : Int) :
    Calls Try.prog 24 #[.int .i64 ds, .int .i64 n, .int .i64 s, .int .i64 m] w fun e w' => e = .returned (.int .i64 (warmN ds n s m)) ∧ Below w.heap.size w w' := by
  obtain ⟨R, hR⟩ : ∃ R, warmN ds n s m = R := ⟨_, rfl⟩
  rw [hR]
  obtain ⟨p, hp⟩ : ∃ p, inB 1 4 n = p := ⟨_, rfl⟩
  have H1 := Lib.hid fun w => hp ▸ l1In_any n 1 4 w
  cases p
  · have hR0 : R = 0 := by rw [← hR]; exact warmN_no (by unfold taskB; rw [hp]; rfl)
    subst hR0
    clear hp hR
    go_enter Try.func24, Try.ntmps24
    go_wp2_with fail
    refine (H1.out _).mono ?_
    rintro e w' ⟨rfl, rfl⟩
    go_wp2_with fail
    go_ret
    exact ⟨rfl, Below.refl _ _⟩
  · have hn : 1 ≤ n ∧ n ≤ 4 := by unfold inB at hp; simpa using hp
    obtain ⟨hn1, hn2⟩ := hn
    obtain ⟨q, hq⟩ : ∃ q, inB 0 (n - 1) s = q := ⟨_, rfl⟩
    have H2 := Lib.hid fun w => hq ▸ l1In_any s 0 (n - 1) w
    cases q
    · have hR0 : R = 0 := by rw [← hR]; exact warmN_no (by unfold taskB; rw [hq]; simp)
      subst hR0
      clear hp hq hR
      go_enter Try.func24, Try.ntmps24
      go_wp2_with fail
      refine (H1.out _).mono ?_
      rintro e w' ⟨rfl, rfl⟩
      go_wp2_with fail
      refine (H2.out _).mono ?_
      rintro e w' ⟨rfl, rfl⟩
      go_wp2_with fail
      go_ret
      exact ⟨rfl, Below.refl _ _⟩
    · have hs : 0 ≤ s ∧ s ≤ n - 1 := by unfold inB at hq; simpa using hq
      obtain ⟨hs1, hs2⟩ := hs
      obtain ⟨r, hr⟩ : ∃ r, inB 1 5 m = r := ⟨_, rfl⟩
      have H3 := Lib.hid fun w => hr ▸ l1In_any m 1 5 w
      cases r
      · have hR0 : R = 0 := by rw [← hR]; exact warmN_no (by unfold taskB; rw [hr]; simp)
        subst hR0
        clear hp hq hr hR
        go_enter Try.func24, Try.ntmps24
        go_wp2_with fail
        refine (H1.out _).mono ?_
        rintro e w' ⟨rfl, rfl⟩
        go_wp2_with fail
        refine (H2.out _).mono ?_
        rintro e w' ⟨rfl, rfl⟩
        go_wp2_with fail
        refine (H3.out _).mono ?_
        rintro e w' ⟨rfl, rfl⟩
        go_wp2_with fail
        go_ret
        exact ⟨rfl, Below.refl _ _⟩
      · have hm : 1 ≤ m ∧ m ≤ 5 := by unfold inB at hr; simpa using hr
        obtain ⟨hm1, hm2⟩ := hm
        have ht := taskB_yes hn1 hn2 hs1 (by omega : s < n) hm1 hm2
        by_cases hd : ds = 2
        · subst hd
          rw [warmN_one ht] at hR
          have HR := Lib.hid hR
          clear hp hq hr hR ht
          obtain ⟨d, hd⟩ : ∃ d, n - 1 - s = d := ⟨_, rfl⟩
          rw [hd] at HR
          go_enter Try.func24, Try.ntmps24
          go_wp2_with fail
          refine (H1.out _).mono ?_
          rintro e w' ⟨rfl, rfl⟩
          go_wp2_with fail
          refine (H2.out _).mono ?_
          rintro e w' ⟨rfl, rfl⟩
          go_wp2_with fail
          refine (H3.out _).mono ?_
          rintro e w' ⟨rfl, rfl⟩
          go_wp2_with fail
          all_goals (go_ret; refine ⟨?_, Below.refl _ _⟩)
          · rw [← HR.out, Int.min_eq_right (by omega)]; rfl
          · rw [← HR.out, Int.min_eq_left (by omega)]; rfl
        · rw [warmN_all ht hd] at hR
          subst hR
          clear hp hq hr ht
          go_enter Try.func24, Try.ntmps24
          go_wp2_with fail
          refine (H1.out _).mono ?_
          rintro e w' ⟨rfl, rfl⟩
          go_wp2_with fail
          refine (H2.out _).mono ?_
          rintro e w' ⟨rfl, rfl⟩
          go_wp2_with fail
          refine (H3.out _).mono ?_
          rintro e w' ⟨rfl, rfl⟩
          go_wp2_with fail
          go_ret
          exact ⟨rfl, Below.refl _ _⟩

/-! ### The program's task -/
theorem box4 {w : World} {g : Nat} {x y z u : Value} {T : TypeId} (h : w.heap[g]? = some (.cells #[x, y, z, u] T (0, 0))) : w.cell? ⟨g, 0, none⟩ = some x ∧ w.cell? ⟨g, 1, none⟩ = some y ∧ w.cell? ⟨g, 2, none⟩ = some z ∧ w.cell? ⟨g, 3, none⟩ = some u := by
  refine ⟨?_, ?_, ?_, ?_⟩ <;> rw [cell_of_row _ _ _ _ _ _ h] <;> rfl
abbrev taskV (n s m : Int) (r : Bool) : Value := .agg #[.int .i64 n, .int .i64 s, .int .i64 m, .bool r]
set_option maxRecDepth 100000 in
theorem implTaskOk_any (w : World) (n s m : Int) (r : Bool) :
    Calls Try.prog 29 #[taskV n s m r] w fun e w' => e = .returned (.bool (taskB n s m)) ∧ Below w.heap.size w w' := by
  obtain ⟨R, hR⟩ : ∃ R, taskB n s m = R := ⟨_, rfl⟩
  rw [hR]
  have hal : Below w.heap.size w (w.alloc (.cells #[.int .i64 n, .int .i64 s, .int .i64 m, .bool r] 48 (0, 0))) := (Below.refl _ _).alloc (Nat.le_refl _) _
  have hb0 := heap_alloc_new w (.cells #[.int .i64 n, .int .i64 s, .int .i64 m, .bool r] 48 (0, 0))
  obtain ⟨c0, c1, c2, c3⟩ := box4 hb0
  have HA := Lib.hid hal
  have HR := Lib.hid hR
  clear hal hR hb0
  by_cases h1 : 1 ≤ n
  case' neg => obtain rfl : R = false := by rw [← HR.out]; exact taskB_no (by omega)
  case' pos =>
    by_cases h2 : n ≤ 4
    case' neg => obtain rfl : R = false := by rw [← HR.out]; exact taskB_no (by omega)
    case' pos =>
      by_cases h3 : 0 ≤ s
      case' neg => obtain rfl : R = false := by rw [← HR.out]; exact taskB_no (by omega)
      case' pos =>
        by_cases h4 : s < n
        case' neg => obtain rfl : R = false := by rw [← HR.out]; exact taskB_no (by omega)
        case' pos =>
          by_cases h5 : 1 ≤ m
          case' neg => obtain rfl : R = false := by rw [← HR.out]; exact taskB_no (by omega)
          case' pos =>
            by_cases h6 : m ≤ 5
            case' neg => obtain rfl : R = false := by rw [← HR.out]; exact taskB_no (by omega)
            case' pos => obtain rfl : R = true := by rw [← HR.out]; exact taskB_yes h1 h2 h3 h4 h5 h6
  all_goals
    go_enter Try.func29, Try.ntmps29
    go_wp2_with fail
    go_ret
    exact ⟨rfl, HA.out⟩
set_option maxRecDepth 100000 in
theorem implBehind_any (w : World) (n s m : Int) (r : Bool) (hn1 : 1 ≤ n) (hn2 : n ≤ 4) (hs1 : 0 ≤ s) (hs2 : s < n) :
    Calls Try.prog 32 #[taskV n s m r] w fun e w' => e = .returned (.int .i64 (n - 1 - s)) ∧ Below w.heap.size w w' := by
  have hal : Below w.heap.size w (w.alloc (.cells #[.int .i64 n, .int .i64 s, .int .i64 m, .bool r] 48 (0, 0))) := (Below.refl _ _).alloc (Nat.le_refl _) _
  have hb0 := heap_alloc_new w (.cells #[.int .i64 n, .int .i64 s, .int .i64 m, .bool r] 48 (0, 0))
  obtain ⟨c0, c1, c2, c3⟩ := box4 hb0
  have HA := Lib.hid hal
  clear hal hb0
  go_enter Try.func32, Try.ntmps32
  go_wp2_with fail
  go_ret
  exact ⟨rfl, HA.out⟩
set_option maxRecDepth 100000 in
theorem implDoes_any (w : World) (n s m : Int) (r : Bool) (k : Int) (hn1 : 1 ≤ n) (hn2 : n ≤ 4) (hs1 : 0 ≤ s) (hs2 : s < n) :
    Calls Try.prog 44 #[taskV n s m r, .int .i64 k] w fun e w' => e = .returned (.bool (doesB n s r k)) ∧ Below w.heap.size w w' := by
  obtain ⟨R, hR⟩ : ∃ R, doesB n s r k = R := ⟨_, rfl⟩
  rw [hR]
  unfold doesB at hR
  have hal : Below w.heap.size w (w.alloc (.cells #[.int .i64 n, .int .i64 s, .int .i64 m, .bool r] 48 (0, 0))) := (Below.refl _ _).alloc (Nat.le_refl _) _
  have hb0 := heap_alloc_new w (.cells #[.int .i64 n, .int .i64 s, .int .i64 m, .bool r] 48 (0, 0))
  obtain ⟨c0, c1, c2, c3⟩ := box4 hb0
  have HA := Lib.hid hal
  clear hal hb0
  by_cases k1 : k = 1
  · subst k1
    rw [if_pos (.inl rfl)] at hR
    subst hR
    go_enter Try.func44, Try.ntmps44
    go_wp2_with fail
    go_ret
    exact ⟨rfl, HA.out⟩
  · have b1 : (k == 1) = false := by simpa using k1
    by_cases k7 : k = 7
    · subst k7
      rw [if_pos (.inr rfl)] at hR
      subst hR
      go_enter Try.func44, Try.ntmps44
      go_wp2_with fail
      go_ret
      exact ⟨rfl, HA.out⟩
    · have b7 : (k == 7) = false := by simpa using k7
      rw [if_neg (by omega)] at hR
      have HB := Lib.hid fun (wx : World) => implBehind_any wx n s m r hn1 hn2 hs1 hs2
      by_cases k3 : k = 3
      · subst k3
        rw [if_pos (.inl rfl)] at hR
        obtain ⟨d, hd⟩ : ∃ d, n - 1 - s = d := ⟨_, rfl⟩
        rw [hd] at hR HB
        subst hR
        go_enter Try.func44, Try.ntmps44
        go_wp2_with fail
        refine (HB.out _).mono ?_
        rintro e w1 ⟨rfl, hb⟩
        have HX := Lib.hid (HA.out.trans (hb.mono HA.out.size))
        clear hb
        go_wp2_with fail
        go_ret
        exact ⟨rfl, HX.out⟩
      · have b3 : (k == 3) = false := by simpa using k3
        by_cases k4 : k = 4
        · subst k4
          rw [if_pos (.inr rfl)] at hR
          obtain ⟨d, hd⟩ : ∃ d, n - 1 - s = d := ⟨_, rfl⟩
          rw [hd] at hR HB
          subst hR
          go_enter Try.func44, Try.ntmps44
          go_wp2_with fail
          refine (HB.out _).mono ?_
          rintro e w1 ⟨rfl, hb⟩
          have HX := Lib.hid (HA.out.trans (hb.mono HA.out.size))
          clear hb
          go_wp2_with fail
          go_ret
          exact ⟨rfl, HX.out⟩
        · have b4 : (k == 4) = false := by simpa using k4
          rw [if_neg (by omega)] at hR
          by_cases k5 : k = 5
          · subst k5
            rw [if_pos rfl] at hR
            subst hR
            go_enter Try.func44, Try.ntmps44
            go_wp2_with fail
            go_ret
            exact ⟨rfl, HA.out⟩
          · have b5 : (k == 5) = false := by simpa using k5
            rw [if_neg k5] at hR
            subst hR
            go_enter Try.func44, Try.ntmps44
            go_wp2_with fail
            go_ret
            exact ⟨rfl, HA.out⟩
set_option maxRecDepth 100000 in
theorem implWarmUp_any (w : World) (ds n s m : Int) :
    Calls Try.prog 12 #[.int .i64 ds, .int .i64 n, .int .i64 s, .int .i64 m] w fun e w' => e = .returned (.int .i64 (warmN ds n s m)) ∧ Below w.heap.size w w' := by
  obtain ⟨R, hR⟩ : ∃ R, warmN ds n s m = R := ⟨_, rfl⟩
  rw [hR]
  have hal : Below w.heap.size w (w.alloc (.cells #[.int .i64 n, .int .i64 s, .int .i64 m, .bool false] 48 (0, 0))) := (Below.refl _ _).alloc (Nat.le_refl _) _
  have hb0 := heap_alloc_new w (.cells #[.int .i64 n, .int .i64 s, .int .i64 m, .bool false] 48 (0, 0))
  have hs0 : w.heap.size < (w.alloc (.cells #[.int .i64 n, .int .i64 s, .int .i64 m, .bool false] 48 (0, 0))).heap.size := by simp
  obtain ⟨p, hp⟩ : ∃ p, taskB n s m = p := ⟨_, rfl⟩
  have H1 := Lib.hid fun (wx : World) => hp ▸ implTaskOk_any wx n s m false
  have HA := Lib.hid hal
  have HB0 := Lib.hid hb0
  have HS0 := Lib.hid hs0
  obtain ⟨c0, c1, c2, c3⟩ := box4 hb0
  clear hal hb0 hs0
  cases p
  · rw [warmN_no hp] at hR
    subst hR
    clear hp
    go_enter Try.func12, Try.ntmps12
    go_wp2_with fail
    refine (H1.out _).mono ?_
    rintro e w1 ⟨rfl, hb⟩
    have HX := Lib.hid (HA.out.trans (hb.mono HA.out.size))
    clear hb
    go_wp2_with fail
    go_ret
    exact ⟨rfl, HX.out⟩
  · obtain ⟨hn1, hn2, hs1, hs2, hm1, hm2⟩ := taskB_has hp
    by_cases hd : ds = 2
    · subst hd
      rw [warmN_one hp] at hR
      have H2 := Lib.hid fun (wx : World) => implBehind_any wx n s m false hn1 hn2 hs1 hs2
      obtain ⟨d, hd⟩ : ∃ d, n - 1 - s = d := ⟨_, rfl⟩
      rw [hd] at hR H2
      have HR := Lib.hid hR
      clear hp hR
      go_enter Try.func12, Try.ntmps12
      go_wp2_with fail
      refine (H1.out _).mono ?_
      rintro e w1 ⟨rfl, hb⟩
      have HX := Lib.hid (HA.out.trans (hb.mono HA.out.size))
      have hb1 := (hb.block w.heap.size HS0.out).trans HB0.out
      clear hb c0 c1 c2 c3
      obtain ⟨c0, c1, c2, c3⟩ := box4 hb1
      clear hb1
      go_wp2_with fail
      refine (H2.out _).mono ?_
      rintro e w2 ⟨rfl, hb⟩
      have HY := Lib.hid (HX.out.trans (hb.mono HX.out.size))
      clear hb c0 c1 c2 c3
      go_wp2_with fail
      all_goals (go_ret; refine ⟨?_, HY.out⟩)
      · rw [← HR.out, Int.min_eq_right (by omega)]; rfl
      · rw [← HR.out, Int.min_eq_left (by omega)]; rfl
    · have bd : (ds == 2) = false := by simpa using hd
      rw [warmN_all hp hd] at hR
      subst hR
      clear hp
      go_enter Try.func12, Try.ntmps12
      go_wp2_with fail
      refine (H1.out _).mono ?_
      rintro e w1 ⟨rfl, hb⟩
      have HX := Lib.hid (HA.out.trans (hb.mono HA.out.size))
      clear hb
      go_wp2_with fail
      go_ret
      exact ⟨rfl, HX.out⟩

set_option maxRecDepth 100000 in
/-- The exact law: the walk. -/
theorem lawWarmUp_any (w : World) (ds n s m : Int) :
    Calls Try.prog 7 #[.int .i64 ds, .int .i64 n, .int .i64 s, .int .i64 m] w fun e w' => e = .returned (.bool true) ∧ Below w.heap.size w w' := by
  have H1 := Lib.hid fun wx : World => specWarmUp_any wx ds n s m
  have H2 := Lib.hid fun wx : World => implWarmUp_any wx ds n s m
  obtain ⟨R, hR⟩ : ∃ R, warmN ds n s m = R := ⟨_, rfl⟩
  rw [hR] at H1 H2
  clear hR
  go_enter Try.func7, Try.ntmps7
  go_wp2_with fail
  refine (H1.out _).mono ?_
  rintro e w1 ⟨rfl, hb⟩
  have HX := Lib.hid hb
  clear hb
  go_wp2_with fail
  refine (H2.out _).mono ?_
  rintro e w2 ⟨rfl, hb⟩
  have HY := Lib.hid (HX.out.trans (hb.mono HX.out.size))
  clear hb
  go_wp2_with fail
  go_ret
  exact ⟨rfl, HY.out⟩
end Go.Proofs.Ytikjhpljaanakaa
