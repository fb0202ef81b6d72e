/-
  The law on plans.
-/
import Derived.Test.YtikjhpljaanakaaPlanV
import Derived.Test.YtikjhpljaanakaaPlanJ
import Derived.Test.YtikjhpljaanakaaPlanK
import Derived.Test.YtikjhpljaanakaaPlanO
import Derived.Test.YtikjhpljaanakaaDrawPl
namespace Go.Proofs.Ytikjhpljaanakaa
open Go.RowKit Go.Sort
set_option linter.unusedVariables false
set_option linter.unusedSimpArgs false

theorem planB_yes {ds n s m : Int} (h0 : 1 ≤ ds) (h0' : ds ≤ 2) (h1 : 1 ≤ n) (h2 : n ≤ 4) (h3 : 0 ≤ s) (h4 : s < n) (h5 : 1 ≤ m) (h6 : m ≤ 5) : planB ds n s m = true := by
  unfold planB
  rw [inB_yes h0 h0', taskB_yes h1 h2 h3 h4 h5 h6]
  rfl
theorem planB_no {ds n s m : Int} (h : ¬ (1 ≤ ds ∧ ds ≤ 2 ∧ 1 ≤ n ∧ n ≤ 4 ∧ 0 ≤ s ∧ s < n ∧ 1 ≤ m ∧ m ≤ 5)) : planB ds n s m = false := by
  cases e : planB ds n s m
  · rfl
  · obtain ⟨h0, ht⟩ := planB_has e
    obtain ⟨h1, h2, h3, h4, h5, h6⟩ := taskB_has ht
    exact absurd (by omega) h
set_option maxRecDepth 100000 in
set_option maxHeartbeats 6400000 in
theorem lawPlans_small (w : World) (p : Option Addr) (cap : Nat) (bs : List UInt8) (hc : CodeIn w.heap.size w p bs) :
    Calls Try.prog 3 #[.slice p bs.length cap] w fun e w' => e = .returned (.bool true) ∧ Below w.heap.size w w' := by
  have HC0 := Lib.hid hc
  clear hc
  go_enter Try.func3, Try.ntmps3
  go_wp2_with fail
  refine (big_no p cap bs HC0.out.room _).mono ?_
  rintro e w' ⟨rfl, rfl⟩
  go_wp2_with fail
  refine (drawPlan_e _ p cap bs HC0.out).mono ?_
  rintro e w1 ⟨ds, n, s, m, r, rfl, hb⟩
  have T1 := Lib.hid hb
  have HC1 := Lib.hid ((HC0.out.below hb).le hb.size)
  have HP := Lib.hid (implPlan_any w1 ds n s m r)
  have hln := planL_length ds n s m r
  clear hb HC0
  obtain ⟨xs, hxs⟩ : ∃ xs, planL ds n s m r = xs := ⟨_, rfl⟩
  rw [hxs] at HP hln
  obtain ⟨N, hN⟩ : ∃ N, xs.length = N := ⟨_, rfl⟩
  rw [hN] at hln
  have HN := Lib.hid hN
  have HXS := Lib.hid hxs
  clear hxs hN
  go_wp2_with fail
  refine HP.out.mono ?_
  rintro e w2 ⟨v, rfl, hr, hb⟩
  have T2 := Lib.hid (T1.out.trans (hb.mono T1.out.size))
  have HC2 := Lib.hid ((HC1.out.below hb).le hb.size)
  obtain ⟨a2, c2, rfl, hc1, hc2, hi⟩ := hr.form
  rw [HN.out] at hi hc1 ⊢
  have I2 := Lib.hid (hi (by omega))
  clear hr hb hi HP HC1
  by_cases hok : 1 ≤ ds ∧ ds ≤ 2 ∧ 1 ≤ n ∧ n ≤ 4 ∧ 0 ≤ s ∧ s < n ∧ 1 ≤ m ∧ m ≤ 5
  · obtain ⟨d1, d2, n1, n2, s1, s2, m1, m2⟩ := hok
    have hpb := planB_yes d1 d2 n1 n2 s1 s2 m1 m2
    have hpr := plan_right (r := r) hpb
    rw [HXS.out, HN.out] at hpr
    obtain ⟨q1, q2, q3, q4⟩ := hpr
    obtain ⟨W, hW⟩ : ∃ W, warmN ds n s m = W := ⟨_, rfl⟩
    obtain ⟨P, hP⟩ : ∃ P, mostN ds n s m = P := ⟨_, rfl⟩
    rw [hW] at q3 q4
    rw [hP] at q2 q4
    have Q1 := Lib.hid q1
    have HW := Lib.hid fun wx : World => hW ▸ implWarmUp_any wx ds n s m
    have F1 := Lib.hid fun (wx : World) (hx : Below w2.heap.size w2 wx) => specPlanOk_any wx a2 N c2 xs n s m r ((I2.out.below hx (Nat.le_refl _)).le hx.size) true ⟨fun _ => Q1.out, fun _ => rfl⟩
    have F2 := Lib.hid fun (wx : World) (hx : Below w2.heap.size w2 wx) => implPlanOk_any wx a2 N c2 xs n s m r ((I2.out.below hx (Nat.le_refl _)).le hx.size) hc1 hc2 true ⟨fun _ => Q1.out, fun _ => rfl⟩
    have F3 := Lib.hid fun (wx : World) (hx : Below w2.heap.size w2 wx) => q2 ▸ implInFlight_any wx a2 N c2 xs ((I2.out.below hx (Nat.le_refl _)).le hx.size)
    have F4 := Lib.hid fun (wx : World) (hx : Below w2.heap.size w2 wx) => q2 ▸ specInFlight_any wx a2 N c2 xs ((I2.out.below hx (Nat.le_refl _)).le hx.size)
    have HPP := Lib.hid hP
    clear hpb q1 q2 hW hP
    unfold mostN at HPP
    have g3 : decide (W ≥ 0) = true := decide_eq_true (by omega)
    have g4 : decide (W ≤ P) = true := decide_eq_true (by omega)
    have g5 : (P == P) = true := by simp
    by_cases hd : ds = 2
    · subst hd
      rw [if_pos rfl] at HPP
      obtain ⟨U, hU⟩ : ∃ U, n - s = U := ⟨_, rfl⟩
      rw [hU] at HPP
      have hUm : (if U < m then U else m) = P := by rw [← HPP.out]; split <;> omega
      clear HPP
      go_wp2_with fail
      refine (HW.out _).mono ?_
      rintro e w3 ⟨rfl, hb⟩
      have B3 := Lib.hid hb
      have HC3 := Lib.hid ((HC2.out.below hb).le hb.size)
      clear hb
      go_wp2_with fail
      refine (drawPlanOk_e _ p cap bs HC3.out).mono ?_
      rintro e w4 ⟨ax, kx, cx, ys, n', s', m', r', rfl, ⟨hx1, hx2⟩, hix, hb⟩
      have B4 := Lib.hid (B3.out.trans (hb.mono B3.out.size))
      have IX := Lib.hid hix
      obtain ⟨R, hR⟩ : ∃ R : Bool, R = true ↔ PlanOkP ys n' s' m' r' := by
        by_cases h : PlanOkP ys n' s' m' r'
        · exact ⟨true, by simp [h]⟩
        · exact ⟨false, by simp [h]⟩
      have F5 := Lib.hid fun (wx : World) (hx : Below w4.heap.size w4 wx) => implPlanOk_any wx ax kx cx ys n' s' m' r' ((IX.out.below hx (Nat.le_refl _)).le hx.size) hx1 hx2 R hR
      have F6 := Lib.hid fun (wx : World) (hx : Below w4.heap.size w4 wx) => specPlanOk_any wx ax kx cx ys n' s' m' r' ((IX.out.below hx (Nat.le_refl _)).le hx.size) R hR
      have g6 : (R == R) = true := by simp
      clear hb hix hR
      go_wp2_with fail
      refine (F1.out _ B4.out).mono ?_
      rintro e w5 ⟨rfl, hb⟩
      have B5 := Lib.hid (B4.out.trans (hb.mono B4.out.size))
      have D5 := Lib.hid hb
      clear hb
      go_wp2_with fail
      refine (F2.out _ B5.out).mono ?_
      rintro e w6 ⟨rfl, hb⟩
      have B6 := Lib.hid (B5.out.trans (hb.mono B5.out.size))
      have D6 := Lib.hid (D5.out.trans (hb.mono D5.out.size))
      clear hb
      go_wp2_with fail
      refine (F3.out _ B6.out).mono ?_
      rintro e w7 ⟨rfl, hb⟩
      have B7 := Lib.hid (B6.out.trans (hb.mono B6.out.size))
      have D7 := Lib.hid (D6.out.trans (hb.mono D6.out.size))
      clear hb
      go_wp2_with fail
      refine (F4.out _ B7.out).mono ?_
      rintro e w7' ⟨rfl, rfl⟩
      go_wp2_with fail
      refine (F5.out _ D7.out).mono ?_
      rintro e w8 ⟨rfl, hb⟩
      have B8 := Lib.hid (B7.out.trans (hb.mono B7.out.size))
      have D8 := Lib.hid (D7.out.trans (hb.mono D7.out.size))
      clear hb
      go_wp2_with fail
      refine (F6.out _ D8.out).mono ?_
      rintro e w9 ⟨rfl, hb⟩
      have B9 := Lib.hid (B8.out.trans (hb.mono B8.out.size))
      clear hb
      go_wp2_with fail
      go_ret
      exact ⟨rfl, T2.out.trans (B9.out.mono T2.out.size)⟩
    · have bd : (ds == 2) = false := by simpa using hd
      rw [if_neg hd] at HPP
      have hPm := HPP.out
      subst hPm
      clear HPP
      go_wp2_with fail
      refine (HW.out _).mono ?_
      rintro e w3 ⟨rfl, hb⟩
      have B3 := Lib.hid hb
      have HC3 := Lib.hid ((HC2.out.below hb).le hb.size)
      clear hb
      go_wp2_with fail
      refine (drawPlanOk_e _ p cap bs HC3.out).mono ?_
      rintro e w4 ⟨ax, kx, cx, ys, n', s', m', r', rfl, ⟨hx1, hx2⟩, hix, hb⟩
      have B4 := Lib.hid (B3.out.trans (hb.mono B3.out.size))
      have IX := Lib.hid hix
      obtain ⟨R, hR⟩ : ∃ R : Bool, R = true ↔ PlanOkP ys n' s' m' r' := by
        by_cases h : PlanOkP ys n' s' m' r'
        · exact ⟨true, by simp [h]⟩
        · exact ⟨false, by simp [h]⟩
      have F5 := Lib.hid fun (wx : World) (hx : Below w4.heap.size w4 wx) => implPlanOk_any wx ax kx cx ys n' s' m' r' ((IX.out.below hx (Nat.le_refl _)).le hx.size) hx1 hx2 R hR
      have F6 := Lib.hid fun (wx : World) (hx : Below w4.heap.size w4 wx) => specPlanOk_any wx ax kx cx ys n' s' m' r' ((IX.out.below hx (Nat.le_refl _)).le hx.size) R hR
      have g6 : (R == R) = true := by simp
      clear hb hix hR
      go_wp2_with fail
      refine (F1.out _ B4.out).mono ?_
      rintro e w5 ⟨rfl, hb⟩
      have B5 := Lib.hid (B4.out.trans (hb.mono B4.out.size))
      have D5 := Lib.hid hb
      clear hb
      go_wp2_with fail
      refine (F2.out _ B5.out).mono ?_
      rintro e w6 ⟨rfl, hb⟩
      have B6 := Lib.hid (B5.out.trans (hb.mono B5.out.size))
      have D6 := Lib.hid (D5.out.trans (hb.mono D5.out.size))
      clear hb
      go_wp2_with fail
      refine (F3.out _ B6.out).mono ?_
      rintro e w7 ⟨rfl, hb⟩
      have B7 := Lib.hid (B6.out.trans (hb.mono B6.out.size))
      have D7 := Lib.hid (D6.out.trans (hb.mono D6.out.size))
      clear hb
      go_wp2_with fail
      refine (F4.out _ B7.out).mono ?_
      rintro e w7' ⟨rfl, rfl⟩
      go_wp2_with fail
      refine (F5.out _ D7.out).mono ?_
      rintro e w8 ⟨rfl, hb⟩
      have B8 := Lib.hid (B7.out.trans (hb.mono B7.out.size))
      have D8 := Lib.hid (D7.out.trans (hb.mono D7.out.size))
      clear hb
      go_wp2_with fail
      refine (F6.out _ D8.out).mono ?_
      rintro e w9 ⟨rfl, hb⟩
      have B9 := Lib.hid (B8.out.trans (hb.mono B8.out.size))
      clear hb
      go_wp2_with fail
      go_ret
      exact ⟨rfl, T2.out.trans (B9.out.mono T2.out.size)⟩
  · have hpn := planB_no hok
    have hx0 : xs = [] := by rw [← HXS.out]; exact planL_no hpn
    have hN0 : N = 0 := by rw [← HN.out, hx0]; rfl
    subst hN0
    clear hpn hx0
    by_cases k1 : 1 ≤ ds
    case' neg => have dk := decide_eq_false k1
    case' pos =>
      by_cases k2 : ds ≤ 2
      case' neg => have dk := decide_eq_false k2
      case' pos =>
        by_cases k3 : 1 ≤ n
        case' neg => have dk := decide_eq_false k3
        case' pos =>
          by_cases k4 : n ≤ 4
          case' neg => have dk := decide_eq_false k4
          case' pos =>
            by_cases k5 : 0 ≤ s
            case' neg => have dk := decide_eq_false k5
            case' pos =>
              by_cases k6 : s < n
              case' neg => have dk := decide_eq_false k6
              case' pos =>
                by_cases k7 : 1 ≤ m
                case' neg => have dk := decide_eq_false k7
                case' pos =>
                  by_cases k8 : m ≤ 5
                  case' neg => have dk := decide_eq_false k8
                  case' pos => exact absurd ⟨k1, k2, k3, k4, k5, k6, k7, k8⟩ hok
    all_goals
      go_wp2_with fail
      go_ret
      exact ⟨rfl, T2.out⟩

set_option maxRecDepth 100000 in
theorem lawPlans_big (w : World) (a : Option Addr) (len cap : Nat) (hm : len ≤ 9223372036854775807) (hbig : 1048576 < len) :
    Calls Try.prog 3 #[.slice a len cap] w fun e w' => e = .returned (.bool true) ∧ Below w.heap.size w w' := by
  go_enter Try.func3, Try.ntmps3
  go_wp2_with fail
  refine (big_yes a len cap hbig hm _).mono ?_
  rintro e w' ⟨rfl, rfl⟩
  go_wp2_with fail
  go_ret
  exact ⟨rfl, Below.refl _ _⟩
theorem lawPlans (w : World) (a : Option Addr) (len cap : Nat) (hm : len ≤ 9223372036854775807)
    (hb : ∃ bs : List UInt8, bs.length = len ∧ ∀ j (hj : j < bs.length), ∃ b o, a = some ⟨b, o, none⟩ ∧ b < w.heap.size ∧ w.cell? ⟨b, o + j, none⟩ = some (.int .u8 (bs[j].toNat : Int))) :
    Calls Try.prog 3 #[.slice a len cap] w fun e w' => e = .returned (.bool true) ∧ Below w.heap.size w w' :=
  law_of _ w a len cap hm hb (lawPlans_big w a len cap hm) (fun bs hc => lawPlans_small w a cap bs hc)
end Go.Proofs.Ytikjhpljaanakaa
