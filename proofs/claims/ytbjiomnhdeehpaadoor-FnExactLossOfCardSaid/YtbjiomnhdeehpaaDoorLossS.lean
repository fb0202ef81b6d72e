/-
  The model's LossOf; and LossOf's arguments drawn.
-/
import Derived.Test.YtbjiomnhdeehpaaDoorLossM
import Derived.Test.YtbjiomnhdeehpaaDoorVecS
import Derived.Test.YtbjiomnhdeehpaaDoorDrawVec
namespace Go.Proofs.YtbjiomnhdeehpaaDoor
open Go.RowKit
set_option linter.unusedVariables false

theorem tdiv_two {q : Int} (h0 : 0 ≤ q) (h1 : q ≤ 2147483647) : wrap64 (q.tdiv 2) = q / 2 ∧ q.tdiv 2 = q / 2 := by
  have e : q.tdiv 2 = q / 2 := Int.tdiv_eq_ediv_of_nonneg h0
  exact ⟨by rw [e, IntWalk.wrap64_in _ (by omega)], e⟩
set_option maxRecDepth 100000 in
theorem specLossOf_any (w : World) (a1 : Option Addr) (n1 c1 : Nat) (xs : List Int) (a2 : Option Addr) (n2 c2 : Nat) (ys : List Int) (h1 : IntsIn w.heap.size w a1 n1 xs) (h2 : IntsIn w.heap.size w a2 n2 ys) :
    Calls Tryd.prog 8 #[.slice a1 n1 c1, .slice a2 n2 c2] w (NumB w (lossN xs ys) (lossB xs ys)) := by
  have H1 := Lib.hid (specVecSub_any w a1 n1 c1 xs a2 n2 c2 ys h1 h2)
  clear h1 h2
  have h6 := rowP_length subN xs ys
  obtain ⟨D, hD⟩ : ∃ D, rowP subN xs ys = D := ⟨_, rfl⟩
  obtain ⟨n, hn⟩ : ∃ n, D.length = n := ⟨_, rfl⟩
  obtain ⟨q, hq⟩ : ∃ q, dotN D D = q := ⟨_, rfl⟩
  obtain ⟨o, ho⟩ : ∃ o, dotB D D = o := ⟨_, rfl⟩
  obtain ⟨f, hf⟩ : ∃ f, flagP subB xs ys = f := ⟨_, rfl⟩
  have hq0 : 0 ≤ q := by rw [← hq]; exact dot_nonneg D
  have hq1 : q ≤ 2147483647 := by rw [← hq]; exact (dotN_range D D).2
  have ht := tdiv_two hq0 hq1
  have HV := fun (w : World) (a : Option Addr) (c : Nat) (h : IntsIn w.heap.size w a n D) => specVecDot_any w a n c D a n c D h h
  unfold lossN lossB
  rw [hD] at H1 h6 ⊢
  rw [hn] at h6
  rw [hf] at H1
  simp only [hq, ho] at HV
  rw [hq, ho, hf]
  obtain ⟨Q, hQ⟩ : ∃ Q, q / 2 = Q := ⟨_, rfl⟩
  rw [hQ] at ht ⊢
  obtain ⟨t1, t2⟩ := ht
  have t3 : wrap64 Q = Q := by rw [t2] at t1; exact t1
  have HN := Lib.hid hn
  replace HV := Lib.hid HV
  clear hD hn hq ho hf hq0 hq1 hQ
  cases f
  · go_enter Tryd.func8, Tryd.ntmps8
    go_wp2_with fail
    refine H1.out.mono ?_
    rintro e w1 ⟨v, rfl, hr, hb⟩
    obtain ⟨a, c, rfl, hi⟩ := hr.form' HN (by omega)
    have HI := Lib.hid hi
    have HB := Lib.hid hb
    clear hr hi hb
    go_wp2_with fail
    refine (HV.out w1 a c HI.out).mono ?_
    rintro e w2 ⟨rfl, hb2⟩
    have HB2 := Lib.hid (HB.out.trans (hb2.mono HB.out.size))
    clear hb2
    go_wp2_with fail
    go_ret2
    exact ⟨by simp [t3], HB2.out⟩
  · go_enter Tryd.func8, Tryd.ntmps8
    go_wp2_with fail
    refine H1.out.mono ?_
    rintro e w1 ⟨v, rfl, hr, hb⟩
    obtain ⟨a, c, rfl, hi⟩ := hr.form' HN (by omega)
    have HI := Lib.hid hi
    have HB := Lib.hid hb
    clear hr hi hb
    go_wp2_with fail
    refine (HV.out w1 a c HI.out).mono ?_
    rintro e w2 ⟨rfl, hb2⟩
    have HB2 := Lib.hid (HB.out.trans (hb2.mono HB.out.size))
    clear hb2
    go_wp2_with fail
    go_ret2
    exact ⟨by simp [t3], HB2.out⟩
theorem drawLossOf_e (w : World) (a : Option Addr) (cap : Nat) (bs : List UInt8) (hc : CodeIn w.heap.size w a bs) :
    Calls Tryd.prog 6 #[.slice a bs.length cap] w fun e w' => ∃ v xs u ys, e = .returned (.tuple #[v, u]) ∧ (xs.length ≤ 7 ∧ ys.length ≤ 7) ∧ Row w.heap.size w' v xs ∧ Row w.heap.size w' u ys ∧ Below w.heap.size w w' := by
  have HC := Lib.hid hc
  clear hc
  go_enter Tryd.func6, Tryd.ntmps6
  go_wp2_with fail
  refine (l1New_e _ a cap bs HC.out).mono ?_
  rintro e w1 ⟨rfl, hcu, hg1⟩
  have hs1 := hg1.size
  go_wp2_with fail
  refine (l3Two_e _ _ _ hcu).mono ?_
  rintro e w2 ⟨v, xs, u, ys, rfl, hl, hr1, hr2, ht2⟩
  go_wp2_with fail
  go_ret2
  exact ⟨v, xs, u, ys, rfl, hl, hr1.le hs1, hr2.le hs1, ((Below.refl _ _).grown hg1 (Nat.le_refl _) (fun k h => by cases h)).trans (ht2.below hs1 (Nat.le_refl _))⟩
end Go.Proofs.YtbjiomnhdeehpaaDoor
