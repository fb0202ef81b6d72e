/-
  The exact laws on rows of numbers.
-/
import Derived.Test.YtbjiomnhdeehpaaDoorLossI
namespace Go.Proofs.YtbjiomnhdeehpaaDoor
open Go.RowKit
set_option linter.unusedVariables false

set_option maxRecDepth 100000 in
set_option maxHeartbeats 1600000 in
theorem lawLossOf_small (w : World) (a0 : Option Addr) (n0 c0 : Nat) (xs0 : List Int) (a1 : Option Addr) (n1 c1 : Nat) (xs1 : List Int) (h0 : IntsIn w.heap.size w a0 n0 xs0) (h1 : IntsIn w.heap.size w a1 n1 xs1) (hE : LaidE w) :
    Calls Tryd.prog 4 #[.slice a0 n0 c0, .slice a1 n1 c1] w fun e w' => e = .returned (.bool true) ∧ Below w.heap.size w w' := by
  have hr0 := h0.room
  have L0 := h0.len
  have F0 := Lib.hid h0
  have hr1 := h1.room
  have L1 := h1.len
  have F1 := Lib.hid h1
  have HE := Lib.hid hE
  have hlt := hE.lt
  have S := fun (w : World) (A0 : Option Addr) (C0 : Nat) (A1 : Option Addr) (C1 : Nat) (H0 : IntsIn w.heap.size w A0 n0 xs0) (H1 : IntsIn w.heap.size w A1 n1 xs1) => specLossOf_any w A0 n0 C0 xs0 A1 n1 C1 xs1 H0 H1
  have P := fun (w : World) (A0 : Option Addr) (C0 : Nat) (A1 : Option Addr) (C1 : Nat) (H0 : IntsIn w.heap.size w A0 n0 xs0) (H1 : IntsIn w.heap.size w A1 n1 xs1) (E : LaidE w) => implLossOf_any w A0 n0 C0 xs0 A1 n1 C1 xs1 H0 H1 E
  obtain ⟨r, hr⟩ : ∃ r, lossN xs0 xs1 = r := ⟨_, rfl⟩
  rw [hr] at S P
  clear hr
  obtain ⟨o, ho⟩ : ∃ o, lossB xs0 xs1 = o := ⟨_, rfl⟩
  rw [ho] at S P
  clear ho
  replace S := Lib.hid S
  replace P := Lib.hid P
  replace L0 := Lib.hid L0
  replace L1 := Lib.hid L1
  have T := Lib.hid (Below.refl w.heap.size w)
  clear h0 h1 hE
  go_enter Tryd.func4, Tryd.ntmps4
  go_wp2_with fail
  refine (toIntS_any _ _ a0 n0 c0 xs0 F0.out (by omega)).mono ?_
  rintro e w1 ⟨rfl, hr, hb⟩
  have sw1 := hb.size
  replace F0 := Lib.hid (F0.out.below hb (by omega))
  replace F1 := Lib.hid (F1.out.below hb (by omega))
  replace T := Lib.hid (T.out.trans (hb.mono (by omega)))
  clear hb
  have RT0 := Lib.hid hr
  clear hr
  go_wp2_with fail
  refine (toIntS_any _ _ a1 n1 c1 xs1 F1.out (by omega)).mono ?_
  rintro e w2 ⟨rfl, hr, hb⟩
  have sw2 := hb.size
  replace F0 := Lib.hid (F0.out.below hb (by omega))
  replace F1 := Lib.hid (F1.out.below hb (by omega))
  replace RT0 := Lib.hid (RT0.out.below hb)
  replace T := Lib.hid (T.out.trans (hb.mono (by omega)))
  clear hb
  have RT1 := Lib.hid hr
  clear hr
  go_wp2_with fail
  refine (S.out _ _ _ _ _ (RT0.out.ints L0.out) (RT1.out.ints L1.out)).mono ?_
  rintro e w3 ⟨rfl, hb⟩
  have sw3 := hb.size
  replace F0 := Lib.hid (F0.out.below hb (by omega))
  replace F1 := Lib.hid (F1.out.below hb (by omega))
  replace RT0 := Lib.hid (RT0.out.below hb)
  replace RT1 := Lib.hid (RT1.out.below hb)
  replace T := Lib.hid (T.out.trans (hb.mono (by omega)))
  clear hb
  clear RT0
  clear RT1
  go_wp2_with fail
  refine (toIntS_any _ _ a0 n0 c0 xs0 F0.out (by omega)).mono ?_
  rintro e w4 ⟨rfl, hr, hb⟩
  have sw4 := hb.size
  replace F0 := Lib.hid (F0.out.below hb (by omega))
  replace F1 := Lib.hid (F1.out.below hb (by omega))
  replace T := Lib.hid (T.out.trans (hb.mono (by omega)))
  clear hb
  have qX0 := (hr.lt _ rfl).2
  have X0 := Lib.hid hr
  clear hr
  go_wp2_with fail
  refine (toIntS_any _ _ a1 n1 c1 xs1 F1.out (by omega)).mono ?_
  rintro e w5 ⟨rfl, hr, hb⟩
  have sw5 := hb.size
  replace F0 := Lib.hid (F0.out.below hb (by omega))
  replace F1 := Lib.hid (F1.out.below hb (by omega))
  replace X0 := Lib.hid (X0.out.below hb)
  replace T := Lib.hid (T.out.trans (hb.mono (by omega)))
  clear hb
  have qX1 := (hr.lt _ rfl).2
  have X1 := Lib.hid hr
  clear hr
  go_wp2_with fail
  refine (P.out _ _ _ _ _ (X0.out.ints L0.out) (X1.out.ints L1.out) (HE.out.below hlt T.out)).mono ?_
  rintro e w6 ⟨rfl, hb⟩
  have sw6 := hb.size
  replace F0 := Lib.hid (F0.out.below hb (by omega))
  replace F1 := Lib.hid (F1.out.below hb (by omega))
  replace X0 := Lib.hid (X0.out.below hb)
  replace X1 := Lib.hid (X1.out.below hb)
  replace T := Lib.hid (T.out.trans (hb.mono (by omega)))
  clear hb
  go_wp2_with fail
  refine (toIntS_any _ _ a0 n0 c0 xs0 F0.out (by omega)).mono ?_
  rintro e w7 ⟨rfl, hr, hb⟩
  have sw7 := hb.size
  replace F0 := Lib.hid (F0.out.below hb (by omega))
  replace F1 := Lib.hid (F1.out.below hb (by omega))
  replace X0 := Lib.hid (X0.out.below hb)
  replace X1 := Lib.hid (X1.out.below hb)
  replace T := Lib.hid (T.out.trans (hb.mono (by omega)))
  clear hb
  have RT0 := Lib.hid hr
  clear hr
  go_wp2_with fail
  refine (eqIntS_same _ _ _ _ _ _ _ (X0.out.ints L0.out) (RT0.out.ints L0.out)).mono ?_
  rintro e w8 ⟨rfl, hb⟩
  have sw8 := hb.size
  replace F0 := Lib.hid (F0.out.below hb (by omega))
  replace F1 := Lib.hid (F1.out.below hb (by omega))
  replace X0 := Lib.hid (X0.out.below hb)
  replace X1 := Lib.hid (X1.out.below hb)
  replace RT0 := Lib.hid (RT0.out.below hb)
  replace T := Lib.hid (T.out.trans (hb.mono (by omega)))
  clear hb
  clear RT0
  go_wp2_with fail
  refine (toIntS_any _ _ a1 n1 c1 xs1 F1.out (by omega)).mono ?_
  rintro e w9 ⟨rfl, hr, hb⟩
  have sw9 := hb.size
  replace F0 := Lib.hid (F0.out.below hb (by omega))
  replace F1 := Lib.hid (F1.out.below hb (by omega))
  replace X0 := Lib.hid (X0.out.below hb)
  replace X1 := Lib.hid (X1.out.below hb)
  replace T := Lib.hid (T.out.trans (hb.mono (by omega)))
  clear hb
  have RT1 := Lib.hid hr
  clear hr
  go_wp2_with fail
  refine (eqIntS_same _ _ _ _ _ _ _ (X1.out.ints L1.out) (RT1.out.ints L1.out)).mono ?_
  rintro e w10 ⟨rfl, hb⟩
  have sw10 := hb.size
  replace F0 := Lib.hid (F0.out.below hb (by omega))
  replace F1 := Lib.hid (F1.out.below hb (by omega))
  replace X0 := Lib.hid (X0.out.below hb)
  replace X1 := Lib.hid (X1.out.below hb)
  replace RT1 := Lib.hid (RT1.out.below hb)
  replace T := Lib.hid (T.out.trans (hb.mono (by omega)))
  clear hb
  clear RT1
  go_wp2_with fail
  go_ret
  exact ⟨rfl, T.out⟩
theorem lawLossOf_any (w : World) (a0 : Option Addr) (n0 c0 : Nat) (a1 : Option Addr) (n1 c1 : Nat) (m0 : n0 ≤ 9223372036854775807) (k0 : ∃ xs : List Int, xs.length = n0 ∧ ∀ j, j < n0 → ∃ b o, a0 = some ⟨b, o, none⟩ ∧ b < w.heap.size ∧ w.cell? ⟨b, o + j, none⟩ = some (.int .i64 (xs.getD j 0))) (m1 : n1 ≤ 9223372036854775807) (k1 : ∃ xs : List Int, xs.length = n1 ∧ ∀ j, j < n1 → ∃ b o, a1 = some ⟨b, o, none⟩ ∧ b < w.heap.size ∧ w.cell? ⟨b, o + j, none⟩ = some (.int .i64 (xs.getD j 0))) (hE : LaidE w) :
    Calls Tryd.prog 4 #[.slice a0 n0 c0, .slice a1 n1 c1] w fun e w' => e = .returned (.bool true) ∧ Below w.heap.size w w' := by
  by_cases b0 : 1048576 < n0
  · have t : decide ((n0 : Int) > 1048576) = true := decide_eq_true (by omega)
    clear k0 k1
    go_enter Tryd.func4, Tryd.ntmps4
    go_wp2_with fail
    go_ret
    exact ⟨rfl, Below.refl _ _⟩
  by_cases b1 : 1048576 < n1
  · have t : decide ((n1 : Int) > 1048576) = true := decide_eq_true (by omega)
    clear k0 k1
    have t0 : decide ((n0 : Int) > 1048576) = false := decide_eq_false (by omega)
    go_enter Tryd.func4, Tryd.ntmps4
    go_wp2_with fail
    go_ret
    exact ⟨rfl, Below.refl _ _⟩
  obtain ⟨xs0, e0, d0⟩ := k0
  obtain ⟨xs1, e1, d1⟩ := k1
  exact lawLossOf_small w a0 n0 c0 xs0 a1 n1 c1 xs1 ⟨e0, by omega, d0⟩ ⟨e1, by omega, d1⟩ hE
end Go.Proofs.YtbjiomnhdeehpaaDoor
