/-
  The exact law of FindSaved: the walk.
-/
import Derived.Test.YtpnifgpmleaohaaStgD
import Derived.Test.YtpnifgpmleaohaaPlaces
import Derived.Test.YtpnifgpmleaohaaIntR
import Derived.Test.YtpnifgpmleaohaaOpen
import Derived.Deep.DeepCutAuto
import Derived.Deep.RegionLaw
namespace Go.Proofs.Ytpnifgpmleaohaa
open Go.RowKit
set_option linter.unusedVariables false
set_option linter.unusedSimpArgs false

set_option maxRecDepth 100000 in
set_option maxHeartbeats 6400000 in
theorem lawFindSaved_any (w : World) (a0 : Option Addr) (n0 c0 : Nat) (x0 : List dSaved) (h0 : ListAt shSaved (Under w.heap.size) w a0 n0 x0) (m0 : n0 ≤ 9223372036854775807) (a1 : Int) (hwd : WideS x0) (h64 : In64 a1) :
    Calls Try.prog 6 #[(.slice a0 n0 c0), (.int .i64 a1)] w fun e w' => e = .returned (.bool true) ∧ Below w.heap.size w w' := by
  obtain ⟨u0, hu0⟩ : ∃ u, (Shape.list shSaved).bulk x0 = u := ⟨_, rfl⟩
  have U0 := Lib.hid hu0
  have F0 := Lib.hid h0
  have T := Lib.hid (Below.refl w.heap.size w)
  clear hu0 h0
  by_cases f0 : ((u0 : Nat) : Int) ≤ 1048576
  · go_enter Try.func6, Try.ntmps6
    go_wp2_with fail
    have hc := szSavedS_c _ _ a0 n0 c0 x0 (1048576) F0.out (by omega) m0 (by omega) (by omega)
    rw [U0.out, szN_yes (by omega)] at hc
    obtain ⟨l0, hl0⟩ : ∃ l, 1048576 - (u0 : Int) = l := ⟨_, rfl⟩
    rw [hl0] at hc
    have t0 : decide (l0 < 0) = false := decide_eq_false (by omega)
    have HC := Lib.hid hc
    clear hc
    refine HC.out.mono ?_
    rintro e w1 ⟨rfl, hb⟩
    clear HC
    have szw1 := hb.size
    replace F0 := Lib.hid (F0.out.below hb (by omega))
    replace T := Lib.hid (T.out.trans (hb.mono (by omega)))
    clear hb
    have ub : u0 ≤ 1048576 := by omega
    have HC := Lib.hid (toSavedS_c _ _ a0 n0 c0 x0 F0.out (by omega) (by rw [U0.out]; omega))
    go_wp2_with fail
    refine HC.out.mono ?_
    rintro e w2 ⟨rfl, hr, hb⟩
    clear HC
    have szw2 := hb.size
    replace F0 := Lib.hid (F0.out.below hb (by omega))
    replace T := Lib.hid (T.out.trans (hb.mono (by omega)))
    clear hb
    have Y0 := Lib.hid hr.under
    clear hr
    have ln0 : n0 ≤ 1048576 := by have e1 := bulk_list shSaved F0.out; have e2 := U0.out; omega
    obtain ⟨v, hv⟩ : ∃ v, findN x0 a1 = v := ⟨_, rfl⟩
    have HV := Lib.hid hv
    clear hv
    have hc := specFindSaved_d _ _ n0 n0 x0 (Y0.out.le (by omega)) (Nat.le_refl _) (by omega) (by rw [U0.out]; omega) a1
    rw [HV.out] at hc
    have HC := Lib.hid hc
    clear hc
    go_wp2_with fail
    refine HC.out.mono ?_
    rintro e w3 ⟨rfl, hb⟩
    clear HC Y0
    have szw3 := hb.size
    replace F0 := Lib.hid (F0.out.below hb (by omega))
    replace T := Lib.hid (T.out.trans (hb.mono (by omega)))
    clear hb
    have HC := Lib.hid (toSavedS_c _ _ a0 n0 c0 x0 F0.out (by omega) (by rw [U0.out]; omega))
    go_wp2_with fail
    refine HC.out.mono ?_
    rintro e w4 ⟨rfl, hr, hb⟩
    clear HC
    have szw4 := hb.size
    replace F0 := Lib.hid (F0.out.below hb (by omega))
    replace T := Lib.hid (T.out.trans (hb.mono (by omega)))
    clear hb
    have X0 := Lib.hid hr.under
    clear hr
    have hc := implFindSaved_d _ _ n0 n0 x0 (X0.out.le (by omega)) (Nat.le_refl _) (by omega) (by rw [U0.out]; omega) hwd a1 h64
    rw [HV.out] at hc
    have HC := Lib.hid hc
    clear hc
    go_wp2_with fail
    refine HC.out.mono ?_
    rintro e w5 ⟨rfl, hb⟩
    clear HC
    have szw5 := hb.size
    replace F0 := Lib.hid (F0.out.below hb (by omega))
    replace X0 := Lib.hid (X0.out.below hb (by omega))
    replace T := Lib.hid (T.out.trans (hb.mono (by omega)))
    clear hb
    have HC := Lib.hid (toSavedS_c _ _ a0 n0 c0 x0 F0.out (by omega) (by rw [U0.out]; omega))
    go_wp2_with fail
    refine HC.out.mono ?_
    rintro e w6 ⟨rfl, hr, hb⟩
    clear HC
    have szw6 := hb.size
    replace F0 := Lib.hid (F0.out.below hb (by omega))
    replace X0 := Lib.hid (X0.out.below hb (by omega))
    replace T := Lib.hid (T.out.trans (hb.mono (by omega)))
    clear hb
    have Z0 := Lib.hid hr.under
    clear hr
    have HC := Lib.hid (eqSavedS_c _ _ _ _ _ n0 n0 n0 x0 X0.out Z0.out (by omega) (by omega) (looseSavedS_of (by rw [U0.out]; omega)))
    go_wp2_with fail
    refine HC.out.mono ?_
    rintro e w7 ⟨rfl, hb⟩
    clear HC Z0
    have szw7 := hb.size
    replace F0 := Lib.hid (F0.out.below hb (by omega))
    replace X0 := Lib.hid (X0.out.below hb (by omega))
    replace T := Lib.hid (T.out.trans (hb.mono (by omega)))
    clear hb
    go_wp2_with fail
    go_ret
    exact ⟨rfl, T.out⟩
  · go_enter Try.func6, Try.ntmps6
    go_wp2_with fail
    have hc := szSavedS_c _ _ a0 n0 c0 x0 (1048576) F0.out (by omega) m0 (by omega) (by omega)
    rw [U0.out, szN_no (by omega)] at hc
    have HC := Lib.hid hc
    clear hc
    refine HC.out.mono ?_
    rintro e w1 ⟨rfl, hb⟩
    clear HC
    have szw1 := hb.size
    replace F0 := Lib.hid (F0.out.below hb (by omega))
    replace T := Lib.hid (T.out.trans (hb.mono (by omega)))
    clear hb
    go_wp2_with fail
    go_ret
    exact ⟨rfl, T.out⟩
/-- One that is saved, as it comes in: its number of 64 bits. -/
def shSavedR : Shape dSaved := .struct (.cons Shape.intR (.last (Shape.list shRow)))
theorem ListAt.wideS {I : Nat → Prop} {w : World} {a : Option Addr} {n : Nat} {l : List dSaved} (h : ListAt shSavedR I w a n l) : ListAt shSaved I w a n l ∧ WideS l := by
  refine ⟨⟨h.1, fun j x hx => ?_⟩, fun x hx => ?_⟩
  · obtain ⟨b, o, es, e, hb, hr, hs⟩ := h.2 j x hx
    obtain ⟨c1, c2, rfl, ⟨e1, -⟩, h2⟩ := hs
    exact ⟨b, o, _, e, hb, hr, c1, c2, rfl, e1, h2⟩
  · obtain ⟨j, hj⟩ := List.mem_iff_getElem?.1 hx
    obtain ⟨b, o, es, e, hb, hr, hs⟩ := h.2 j x hj
    obtain ⟨c1, c2, rfl, ⟨-, h1⟩, -⟩ := hs
    exact h1
theorem In64.of_wf {x : Int} (h : (Lit.int .i64 x).wf = true) : In64 x := by
  unfold Lit.wf at h
  simp only [Bool.and_eq_true, decide_eq_true_eq] at h
  exact h
theorem lawFindSaved (w : World) (a0 : Option Addr) (n0 c0 : Nat) (x0 : List dSaved) (h0 : ListAt shSavedR (Under w.heap.size) w a0 n0 x0) (m0 : n0 ≤ 9223372036854775807) (a1 : Int) (h1 : (Lit.int .i64 a1).wf = true) :
    Calls Try.prog 6 #[(.slice a0 n0 c0), (.int .i64 a1)] w fun e w' => e = .returned (.bool true) ∧ Below w.heap.size w w' :=
  lawFindSaved_any w a0 n0 c0 x0 h0.wideS.1 m0 a1 h0.wideS.2 (In64.of_wf h1)
end Go.Proofs.Ytpnifgpmleaohaa
