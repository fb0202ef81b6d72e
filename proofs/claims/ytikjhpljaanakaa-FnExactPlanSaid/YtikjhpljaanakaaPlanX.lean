/-
  The exact law on plans: the walk.
-/
import Derived.Test.YtikjhpljaanakaaPlanD
import Derived.Test.YtikjhpljaanakaaPlanJ
namespace Go.Proofs.Ytikjhpljaanakaa
open Go.RowKit Go.Sort
set_option linter.unusedVariables false
set_option linter.unusedSimpArgs false

theorem TwoR.small {T : TypeId} {base : Nat} {w : World} {v : Value} {xs : List dTwo} {N : Nat} (h : TwoR T base w v xs) (hN : xs.length = N) (hl : N ≤ 100) : ∃ a c, v = .slice a N c ∧ TwoIn w.heap.size w a N xs := by
  subst hN
  obtain ⟨a, c, e, -, -, hi⟩ := h.form
  exact ⟨a, c, e, hi (by omega)⟩
theorem TwoR.slice {T : TypeId} {base : Nat} {w : World} {a : Option Addr} {n c : Nat} {xs : List dTwo} (h : TwoR T base w (.slice a n c) xs) (hn : n ≤ 1048576) : TwoIn w.heap.size w a n xs := by
  obtain ⟨a', c', e, -, -, hi⟩ := h.form
  cases e
  exact hi hn
set_option maxRecDepth 100000 in
set_option maxHeartbeats 3200000 in
theorem lawPlan_any (w : World) (ds n s m : Int) (r : Bool) :
    Calls Try.prog 4 #[.int .i64 ds, .int .i64 n, .int .i64 s, .int .i64 m, .bool r] w fun e w' => e = .returned (.bool true) ∧ Below w.heap.size w w' := by
  have hln := planL_length ds n s m r
  have HS := Lib.hid (specPlan_any w ds n s m r)
  have HI := Lib.hid fun (wx : World) => implPlan_any wx ds n s m r
  obtain ⟨xs, hxs⟩ : ∃ xs, planL ds n s m r = xs := ⟨_, rfl⟩
  rw [hxs] at hln HS
  simp only [hxs] at HI
  obtain ⟨N, hN⟩ : ∃ N, xs.length = N := ⟨_, rfl⟩
  rw [hN] at hln
  obtain ⟨M, hM⟩ : ∃ M : Int, 1 + 2 * (N : Int) = M := ⟨_, rfl⟩
  have hM0 : decide (M < 0) = false := decide_eq_false (by omega)
  have hM1 : ¬ M < 0 := by omega
  have HM := Lib.hid hM
  have HN := Lib.hid hN
  clear hxs hN hM
  go_enter Try.func4, Try.ntmps4
  go_wp2_with fail
  refine HS.out.mono ?_
  rintro e w1 ⟨v1, rfl, hr, hb⟩
  obtain ⟨a1, c1, rfl, hi⟩ := hr.small HN.out (by omega)
  have sz1 := hb.size
  have W1 := Lib.hid hi
  have T1 := Lib.hid hb
  have HI1 := Lib.hid (HI.out w1)
  clear hr hi hb HS
  go_wp2_with fail
  refine HI1.out.mono ?_
  rintro e w2 ⟨v2, rfl, hr, hb⟩
  obtain ⟨a2, c2, rfl, -⟩ := hr.small HN.out (by omega)
  have sz2 := hb.size
  have G2 := Lib.hid hr
  have W2 := Lib.hid (W1.out.below hb (Nat.le_refl _))
  have T2 := Lib.hid (T1.out.trans (hb.mono sz1))
  clear hr hb HI1
  have HC := Lib.hid (eqInsS_same w2 a2 N c2 xs a1 c1 (G2.out.slice (by omega)) (W2.out.le sz2))
  go_wp2_with fail
  refine HC.out.mono ?_
  rintro e w3 ⟨rfl, hb⟩
  have sz3 := hb.size
  have G3 := Lib.hid (G2.out.below hb)
  have W3 := Lib.hid (W2.out.below hb sz2)
  have T3 := Lib.hid (T2.out.trans (hb.mono (by omega)))
  clear hb HC G2 W2 T2
  have hC := markInsS_any w1.heap.size w3 a2 N c2 xs 1 G3.out HN.out (by omega) (by omega) (by omega)
  rw [HM.out] at hC
  have HC := Lib.hid hC
  clear hC
  go_wp2_with fail
  refine HC.out.mono ?_
  rintro e w4 ⟨rfl, hr, hg⟩
  have hb := G3.out.grown hg (by omega)
  have sz4 := hb.size
  have G4 := Lib.hid hr
  have W4 := Lib.hid (W3.out.below hb (Nat.le_refl _))
  have T4 := Lib.hid (T3.out.trans (hb.mono sz1))
  have sz34 : w3.heap.size ≤ w4.heap.size := hg.size
  clear hr hg hb HC G3 W3 T3
  have HK := Lib.hid fun (wx : World) (h : TwoIn wx.heap.size wx a2 N (tmarks 1 N)) => HM.out ▸ heldInsS_any wx.heap.size wx a2 N c2 1 h (by omega) (by omega)
  have g4 := G4.out.slice (by omega)
  have HC := Lib.hid (HK.out w4 g4)
  clear g4
  go_wp2_with fail
  refine HC.out.mono ?_
  rintro e w' ⟨rfl, rfl⟩
  clear HC
  have HI1 := Lib.hid (HI.out w4)
  go_wp2_with fail
  refine HI1.out.mono ?_
  rintro e w5 ⟨v5, rfl, hr, hb⟩
  obtain ⟨a5, c5, rfl, hi⟩ := hr.small HN.out (by omega)
  have sz5 := hb.size
  have H5 := Lib.hid hi
  have G5 := Lib.hid (G4.out.below hb)
  have W5 := Lib.hid (W4.out.below hb (by omega))
  have T5 := Lib.hid (T4.out.trans (hb.mono (by omega)))
  clear hr hi hb HI1 G4 W4 T4
  have HC := Lib.hid (eqInsS_same w5 a5 N c5 xs a1 c1 H5.out (W5.out.le (by omega)))
  go_wp2_with fail
  refine HC.out.mono ?_
  rintro e w6 ⟨rfl, hb⟩
  have sz6 := hb.size
  have G6 := Lib.hid (G5.out.below hb)
  have T6 := Lib.hid (T5.out.trans (hb.mono (by omega)))
  clear hb HC G5 W5 T5 H5
  have g6 := G6.out.slice (by omega)
  have HC := Lib.hid (HK.out w6 g6)
  clear g6
  go_wp2_with fail
  refine HC.out.mono ?_
  rintro e w' ⟨rfl, rfl⟩
  go_wp2_with fail
  go_ret
  exact ⟨rfl, T6.out⟩
end Go.Proofs.Ytikjhpljaanakaa
