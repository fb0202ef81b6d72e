/-
  The exact law on the text of a plan: the walk.
-/
import Derived.Test.YtikjhpljaanakaaDoorShowI
import Derived.Test.YtikjhpljaanakaaDoorWide
import Derived.Test.YtikjhpljaanakaaDoorFill
namespace Go.Proofs.YtikjhpljaanakaaDoor
open Go.RowKit Go.Sort
set_option linter.unusedVariables false

set_option maxRecDepth 100000 in
set_option maxHeartbeats 1600000 in
theorem lawShowPlan_any (w : World) (a : Option Addr) (n c : Nat) (xs : List dTwo) (hwd : ListAt shTwoR (Under w.heap.size) w a n xs) (hm : n ≤ 9223372036854775807) (hT : LaidT w) :
    Calls Tryd.prog 3 #[.slice a n c] w fun e w' => e = .returned (.bool true) ∧ Below w.heap.size w w' := by
  obtain ⟨h, hwi⟩ := hwd.wide
  have HWI := Lib.hid hwi
  have HTT := Lib.hid hT
  clear hwd hwi hT
  have HZ := Lib.hid (szInsS_any w a n c 1048576 hm (by omega) (by omega))
  by_cases hn : (n : Int) ≤ 1048576
  · rw [szN_yes hn] at HZ
    obtain ⟨L, hL⟩ : ∃ L, 1048576 - (n : Int) = L := ⟨_, rfl⟩
    have t0 : decide (L < 0) = false := decide_eq_false (by omega)
    rw [hL] at HZ
    have H0 := Lib.hid (h.two (by omega))
    clear h hL
    go_enter Tryd.func3, Tryd.ntmps3
    go_wp2_with fail
    refine HZ.out.mono ?_
    rintro e w1 ⟨rfl, hb⟩
    have T1 := Lib.hid hb
    have H1 := Lib.hid (H0.out.below hb (Nat.le_refl _))
    have HC := Lib.hid (toInsS_any w.heap.size w1 a n c xs H1.out hb.size)
    clear hb HZ
    go_wp2_with fail
    refine HC.out.mono ?_
    rintro e w2 ⟨rfl, hr, hb⟩
    have T2 := Lib.hid (T1.out.trans (hb.mono T1.out.size))
    have H2 := Lib.hid (H1.out.below hb T1.out.size)
    have HC2 := Lib.hid (specShowPlan_any w2 _ n n xs (hr.slice (by omega)) HWI.out)
    clear hr hb HC
    obtain ⟨R, hR⟩ : ∃ R : ByteArray, (⟨(showK xs n).toArray⟩ : ByteArray) = R := ⟨_, rfl⟩
    rw [hR] at HC2
    go_wp2_with fail
    refine HC2.out.mono ?_
    rintro e w2' ⟨rfl, hb⟩
    have T2' := Lib.hid (T2.out.trans (hb.mono T2.out.size))
    have H2' := Lib.hid (H2.out.below hb T2.out.size)
    have HC := Lib.hid (toInsS_any w.heap.size w2' a n c xs H2'.out T2'.out.size)
    clear HC2 hb
    go_wp2_with fail
    refine HC.out.mono ?_
    rintro e w3 ⟨rfl, hr, hb⟩
    have T3 := Lib.hid (T2'.out.trans (hb.mono T2'.out.size))
    have H3 := Lib.hid (H2'.out.below hb T2'.out.size)
    have G3 := Lib.hid hr
    have HC2 := Lib.hid (implShowPlan_any w3 _ n n xs (hr.slice (by omega)) HWI.out (HTT.out.below T3.out))
    rw [hR] at HC2
    clear hr hb HC hR
    go_wp2_with fail
    refine HC2.out.mono ?_
    rintro e w4 ⟨rfl, hb⟩
    have T4 := Lib.hid (T3.out.trans (hb.mono T3.out.size))
    have H4 := Lib.hid (H3.out.below hb T3.out.size)
    have G4 := Lib.hid (G3.out.below hb)
    have HC := Lib.hid (toInsS_any w.heap.size w4 a n c xs H4.out T4.out.size)
    clear hb HC2
    go_wp2_with fail
    refine HC.out.mono ?_
    rintro e w5 ⟨rfl, hr, hb⟩
    have T5 := Lib.hid (T4.out.trans (hb.mono T4.out.size))
    have HC2 := Lib.hid (eqInsS_same w5 _ n n xs _ n ((G4.out.below hb).slice (by omega)) (hr.slice (by omega)))
    clear hr hb HC
    go_wp2_with fail
    refine HC2.out.mono ?_
    rintro e w6 ⟨rfl, hb⟩
    have T6 := Lib.hid (T5.out.trans (hb.mono T5.out.size))
    clear hb
    go_wp2_with fail
    go_ret
    exact ⟨rfl, T6.out⟩
  · rw [szN_no hn] at HZ
    clear h
    go_enter Tryd.func3, Tryd.ntmps3
    go_wp2_with fail
    refine HZ.out.mono ?_
    rintro e w1 ⟨rfl, hb⟩
    have T1 := Lib.hid hb
    clear hb
    go_wp2_with fail
    go_ret
    exact ⟨rfl, T1.out⟩
end Go.Proofs.YtikjhpljaanakaaDoor
