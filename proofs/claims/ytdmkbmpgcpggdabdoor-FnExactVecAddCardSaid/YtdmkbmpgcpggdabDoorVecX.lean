/-
  The exact laws on rows of numbers.
-/
import Derived.Test.YtdmkbmpgcpggdabDoorVecS
namespace Go.Proofs.YtdmkbmpgcpggdabDoor
open Go.RowKit
set_option linter.unusedVariables false

set_option maxRecDepth 100000 in
set_option maxHeartbeats 1600000 in
theorem lawVecAdd_small (w : World) (a0 : Option Addr) (n0 c0 : Nat) (xs0 : List Int) (a1 : Option Addr) (n1 c1 : Nat) (xs1 : List Int) (h0 : IntsIn w.heap.size w a0 n0 xs0) (h1 : IntsIn w.heap.size w a1 n1 xs1) (hE : LaidE w) :
    Calls Tryd.prog 4 #[.slice a0 n0 c0, .slice a1 n1 c1] w fun e w' => e = .returned (.bool true) ∧ Below w.heap.size w w' := by
  have hr0 := h0.room
  have L0 := h0.len
  have F0 := Lib.hid h0
  have hr1 := h1.room
  have L1 := h1.len
  have F1 := Lib.hid h1
  have HE := Lib.hid hE
  have hlt := hE.lt
  have S := fun (w : World) (A0 : Option Addr) (C0 : Nat) (A1 : Option Addr) (C1 : Nat) (H0 : IntsIn w.heap.size w A0 n0 xs0) (H1 : IntsIn w.heap.size w A1 n1 xs1) => specVecAdd_any w A0 n0 C0 xs0 A1 n1 C1 xs1 H0 H1
  have P := fun (w : World) (A0 : Option Addr) (C0 : Nat) (A1 : Option Addr) (C1 : Nat) (H0 : IntsIn w.heap.size w A0 n0 xs0) (H1 : IntsIn w.heap.size w A1 n1 xs1) (E : LaidE w) => implVecAdd_any w A0 n0 C0 xs0 A1 n1 C1 xs1 H0 H1 E
  have hz : (rowP addN xs0 xs1).length ≤ 6 := rowP_length _ _ _
  obtain ⟨Z, hZ⟩ : ∃ Z, rowP addN xs0 xs1 = Z := ⟨_, rfl⟩
  rw [hZ] at S P hz
  clear hZ
  obtain ⟨nz, hn⟩ : ∃ nz, Z.length = nz := ⟨_, rfl⟩
  rw [hn] at hz
  obtain ⟨o, ho⟩ : ∃ o, flagP addB xs0 xs1 = o := ⟨_, rfl⟩
  rw [ho] at S P
  clear ho
  replace hn := Lib.hid hn
  replace S := Lib.hid S
  replace P := Lib.hid P
  replace L0 := Lib.hid L0
  replace L1 := Lib.hid L1
  have T := Lib.hid (Below.refl w.heap.size w)
  clear h0 h1 hE
  go_enter Tryd.func4, Tryd.ntmps4
  go_wp2_with fail
  refine (toIntS_any _ _ a0 n0 c0 xs0 F0.out (by omega)).mono ?_
  rintro e w1 ⟨rfl, hr, hb⟩
  have sw1 := hb.size
  replace F0 := Lib.hid (F0.out.below hb (by omega))
  replace F1 := Lib.hid (F1.out.below hb (by omega))
  replace T := Lib.hid (T.out.trans (hb.mono (by omega)))
  clear hb
  have RT0 := Lib.hid hr
  clear hr
  go_wp2_with fail
  refine (toIntS_any _ _ a1 n1 c1 xs1 F1.out (by omega)).mono ?_
  rintro e w2 ⟨rfl, hr, hb⟩
  have sw2 := hb.size
  replace F0 := Lib.hid (F0.out.below hb (by omega))
  replace F1 := Lib.hid (F1.out.below hb (by omega))
  replace RT0 := Lib.hid (RT0.out.below hb)
  replace T := Lib.hid (T.out.trans (hb.mono (by omega)))
  clear hb
  have RT1 := Lib.hid hr
  clear hr
  go_wp2_with fail
  refine (S.out _ _ _ _ _ (RT0.out.ints L0.out) (RT1.out.ints L1.out)).mono ?_
  rintro e w3 ⟨vw_, rfl, hr, hb⟩
  have sw3 := hb.size
  replace F0 := Lib.hid (F0.out.below hb (by omega))
  replace F1 := Lib.hid (F1.out.below hb (by omega))
  replace RT0 := Lib.hid (RT0.out.below hb)
  replace RT1 := Lib.hid (RT1.out.below hb)
  replace T := Lib.hid (T.out.trans (hb.mono (by omega)))
  clear hb
  obtain ⟨aw_, cw_, rfl, hi⟩ := hr.form' hn (by omega)
  have W_ := Lib.hid hi
  clear hr hi
  clear RT0
  clear RT1
  go_wp2_with fail
  refine (toIntS_any _ _ a0 n0 c0 xs0 F0.out (by omega)).mono ?_
  rintro e w4 ⟨rfl, hr, hb⟩
  have sw4 := hb.size
  replace F0 := Lib.hid (F0.out.below hb (by omega))
  replace F1 := Lib.hid (F1.out.below hb (by omega))
  replace W_ := Lib.hid (W_.out.below hb (by omega))
  replace T := Lib.hid (T.out.trans (hb.mono (by omega)))
  clear hb
  have qX0 := (hr.lt _ rfl).2
  have X0 := Lib.hid hr
  clear hr
  go_wp2_with fail
  refine (toIntS_any _ _ a1 n1 c1 xs1 F1.out (by omega)).mono ?_
  rintro e w5 ⟨rfl, hr, hb⟩
  have sw5 := hb.size
  replace F0 := Lib.hid (F0.out.below hb (by omega))
  replace F1 := Lib.hid (F1.out.below hb (by omega))
  replace W_ := Lib.hid (W_.out.below hb (by omega))
  replace X0 := Lib.hid (X0.out.below hb)
  replace T := Lib.hid (T.out.trans (hb.mono (by omega)))
  clear hb
  have qX1 := (hr.lt _ rfl).2
  have X1 := Lib.hid hr
  clear hr
  go_wp2_with fail
  refine (P.out _ _ _ _ _ (X0.out.ints L0.out) (X1.out.ints L1.out) (HE.out.below hlt T.out)).mono ?_
  rintro e w6 ⟨vg, rfl, hr, hb⟩
  have sw6 := hb.size
  replace F0 := Lib.hid (F0.out.below hb (by omega))
  replace F1 := Lib.hid (F1.out.below hb (by omega))
  replace W_ := Lib.hid (W_.out.below hb (by omega))
  replace X0 := Lib.hid (X0.out.below hb)
  replace X1 := Lib.hid (X1.out.below hb)
  replace T := Lib.hid (T.out.trans (hb.mono (by omega)))
  clear hb
  obtain ⟨ag, cg, rfl, hi⟩ := hr.form' hn (by omega)
  have G := Lib.hid hr
  clear hr hi
  go_wp2_with fail
  refine (eqIntS_same _ _ _ _ _ _ _ (G.out.ints hn.out) (W_.out.le (by omega))).mono ?_
  rintro e w7 ⟨rfl, hb⟩
  have sw7 := hb.size
  replace F0 := Lib.hid (F0.out.below hb (by omega))
  replace F1 := Lib.hid (F1.out.below hb (by omega))
  replace W_ := Lib.hid (W_.out.below hb (by omega))
  replace X0 := Lib.hid (X0.out.below hb)
  replace X1 := Lib.hid (X1.out.below hb)
  replace G := Lib.hid (G.out.below hb)
  replace T := Lib.hid (T.out.trans (hb.mono (by omega)))
  clear hb
  go_wp2_with fail
  refine (toIntS_any _ _ a0 n0 c0 xs0 F0.out (by omega)).mono ?_
  rintro e w8 ⟨rfl, hr, hb⟩
  have sw8 := hb.size
  replace F0 := Lib.hid (F0.out.below hb (by omega))
  replace F1 := Lib.hid (F1.out.below hb (by omega))
  replace W_ := Lib.hid (W_.out.below hb (by omega))
  replace X0 := Lib.hid (X0.out.below hb)
  replace X1 := Lib.hid (X1.out.below hb)
  replace G := Lib.hid (G.out.below hb)
  replace T := Lib.hid (T.out.trans (hb.mono (by omega)))
  clear hb
  have RT0 := Lib.hid hr
  clear hr
  go_wp2_with fail
  refine (eqIntS_same _ _ _ _ _ _ _ (X0.out.ints L0.out) (RT0.out.ints L0.out)).mono ?_
  rintro e w9 ⟨rfl, hb⟩
  have sw9 := hb.size
  replace F0 := Lib.hid (F0.out.below hb (by omega))
  replace F1 := Lib.hid (F1.out.below hb (by omega))
  replace W_ := Lib.hid (W_.out.below hb (by omega))
  replace X0 := Lib.hid (X0.out.below hb)
  replace X1 := Lib.hid (X1.out.below hb)
  replace G := Lib.hid (G.out.below hb)
  replace RT0 := Lib.hid (RT0.out.below hb)
  replace T := Lib.hid (T.out.trans (hb.mono (by omega)))
  clear hb
  clear RT0
  go_wp2_with fail
  refine (toIntS_any _ _ a1 n1 c1 xs1 F1.out (by omega)).mono ?_
  rintro e w10 ⟨rfl, hr, hb⟩
  have sw10 := hb.size
  replace F0 := Lib.hid (F0.out.below hb (by omega))
  replace F1 := Lib.hid (F1.out.below hb (by omega))
  replace W_ := Lib.hid (W_.out.below hb (by omega))
  replace X0 := Lib.hid (X0.out.below hb)
  replace X1 := Lib.hid (X1.out.below hb)
  replace G := Lib.hid (G.out.below hb)
  replace T := Lib.hid (T.out.trans (hb.mono (by omega)))
  clear hb
  have RT1 := Lib.hid hr
  clear hr
  go_wp2_with fail
  refine (eqIntS_same _ _ _ _ _ _ _ (X1.out.ints L1.out) (RT1.out.ints L1.out)).mono ?_
  rintro e w11 ⟨rfl, hb⟩
  have sw11 := hb.size
  replace F0 := Lib.hid (F0.out.below hb (by omega))
  replace F1 := Lib.hid (F1.out.below hb (by omega))
  replace W_ := Lib.hid (W_.out.below hb (by omega))
  replace X0 := Lib.hid (X0.out.below hb)
  replace X1 := Lib.hid (X1.out.below hb)
  replace G := Lib.hid (G.out.below hb)
  replace RT1 := Lib.hid (RT1.out.below hb)
  replace T := Lib.hid (T.out.trans (hb.mono (by omega)))
  clear hb
  clear RT1
  go_wp2_with fail
  refine (markIntS_n _ _ _ _ _ _ X0.out L0.out (by omega) (by omega) (by omega)).mono ?_
  rintro e w12 ⟨rfl, hr, hg⟩
  have sw12 := hg.size
  have hb := below_of_grown X0.out hg (by omega)
  replace F0 := Lib.hid (F0.out.below hb (by omega))
  replace F1 := Lib.hid (F1.out.below hb (by omega))
  replace W_ := Lib.hid (W_.out.below hb (by omega))
  replace X1 := Lib.hid (X1.out.kept hg (apart_of X1.out (fun k hk => by have e : k = w3.heap.size := (Option.some.inj hk).symm; omega)))
  replace G := Lib.hid (G.out.kept hg (apart_of G.out (fun k hk => by have e : k = w3.heap.size := (Option.some.inj hk).symm; omega)))
  replace T := Lib.hid (T.out.trans (hb.mono (by omega)))
  clear hr hg hb X0
  go_wp2_with fail
  refine (markIntS_n _ _ _ _ _ _ X1.out L1.out (by omega) (by omega) (by omega)).mono ?_
  rintro e w13 ⟨rfl, hr, hg⟩
  have sw13 := hg.size
  have hb := below_of_grown X1.out hg (by omega)
  replace F0 := Lib.hid (F0.out.below hb (by omega))
  replace F1 := Lib.hid (F1.out.below hb (by omega))
  replace W_ := Lib.hid (W_.out.below hb (by omega))
  replace G := Lib.hid (G.out.kept hg (apart_of G.out (fun k hk => by have e : k = w4.heap.size := (Option.some.inj hk).symm; omega)))
  replace T := Lib.hid (T.out.trans (hb.mono (by omega)))
  clear hr hg hb X1
  go_wp2_with fail
  refine (eqIntS_same _ _ _ _ _ _ _ (G.out.ints hn.out) (W_.out.le (by omega))).mono ?_
  rintro e w14 ⟨rfl, hb⟩
  have sw14 := hb.size
  replace F0 := Lib.hid (F0.out.below hb (by omega))
  replace F1 := Lib.hid (F1.out.below hb (by omega))
  replace W_ := Lib.hid (W_.out.below hb (by omega))
  replace G := Lib.hid (G.out.below hb)
  replace T := Lib.hid (T.out.trans (hb.mono (by omega)))
  clear hb
  go_wp2_with fail
  refine (markIntS_n _ _ _ _ _ _ G.out hn.out (by omega) (by omega) (by omega)).mono ?_
  rintro e w15 ⟨rfl, hr, hg⟩
  have sw15 := hg.size
  have hb := below_of_grown G.out hg (by omega)
  replace F0 := Lib.hid (F0.out.below hb (by omega))
  replace F1 := Lib.hid (F1.out.below hb (by omega))
  replace W_ := Lib.hid (W_.out.below hb (by omega))
  replace T := Lib.hid (T.out.trans (hb.mono (by omega)))
  replace G := Lib.hid hr
  clear hr hg hb
  have hm := Lib.hid (marks_length 1 nz)
  go_wp2_with fail
  refine (heldIntS_any _ _ _ _ _ _ (G.out.ints hm.out) (by omega) (by omega)).mono ?_
  rintro e w' ⟨rfl, rfl⟩
  go_wp2_with fail
  refine (toIntS_any _ _ a0 n0 c0 xs0 F0.out (by omega)).mono ?_
  rintro e w16 ⟨rfl, hr, hb⟩
  have sw16 := hb.size
  replace F0 := Lib.hid (F0.out.below hb (by omega))
  replace F1 := Lib.hid (F1.out.below hb (by omega))
  replace W_ := Lib.hid (W_.out.below hb (by omega))
  replace G := Lib.hid (G.out.below hb)
  replace T := Lib.hid (T.out.trans (hb.mono (by omega)))
  clear hb
  have RT0 := Lib.hid hr
  clear hr
  go_wp2_with fail
  refine (toIntS_any _ _ a1 n1 c1 xs1 F1.out (by omega)).mono ?_
  rintro e w17 ⟨rfl, hr, hb⟩
  have sw17 := hb.size
  replace F0 := Lib.hid (F0.out.below hb (by omega))
  replace F1 := Lib.hid (F1.out.below hb (by omega))
  replace W_ := Lib.hid (W_.out.below hb (by omega))
  replace G := Lib.hid (G.out.below hb)
  replace RT0 := Lib.hid (RT0.out.below hb)
  replace T := Lib.hid (T.out.trans (hb.mono (by omega)))
  clear hb
  have RT1 := Lib.hid hr
  clear hr
  go_wp2_with fail
  refine (P.out _ _ _ _ _ (RT0.out.ints L0.out) (RT1.out.ints L1.out) (HE.out.below hlt T.out)).mono ?_
  rintro e w18 ⟨vh, rfl, hr, hb⟩
  have sw18 := hb.size
  replace F0 := Lib.hid (F0.out.below hb (by omega))
  replace F1 := Lib.hid (F1.out.below hb (by omega))
  replace W_ := Lib.hid (W_.out.below hb (by omega))
  replace G := Lib.hid (G.out.below hb)
  replace RT0 := Lib.hid (RT0.out.below hb)
  replace RT1 := Lib.hid (RT1.out.below hb)
  replace T := Lib.hid (T.out.trans (hb.mono (by omega)))
  clear hb
  obtain ⟨ah, ch, rfl, hi⟩ := hr.form' hn (by omega)
  have H := Lib.hid hi
  clear hr hi
  clear RT0
  clear RT1
  go_wp2_with fail
  refine (eqIntS_same _ _ _ _ _ _ _ (H.out.le (by omega)) (W_.out.le (by omega))).mono ?_
  rintro e w19 ⟨rfl, hb⟩
  have sw19 := hb.size
  replace F0 := Lib.hid (F0.out.below hb (by omega))
  replace F1 := Lib.hid (F1.out.below hb (by omega))
  replace W_ := Lib.hid (W_.out.below hb (by omega))
  replace H := Lib.hid (H.out.below hb (by omega))
  replace G := Lib.hid (G.out.below hb)
  replace T := Lib.hid (T.out.trans (hb.mono (by omega)))
  clear hb
  go_wp2_with fail
  refine (heldIntS_any _ _ _ _ _ _ (G.out.ints hm.out) (by omega) (by omega)).mono ?_
  rintro e w' ⟨rfl, rfl⟩
  go_wp2_with fail
  go_ret
  exact ⟨rfl, T.out⟩
theorem lawVecAdd_any (w : World) (a0 : Option Addr) (n0 c0 : Nat) (a1 : Option Addr) (n1 c1 : Nat) (m0 : n0 ≤ 9223372036854775807) (k0 : ∃ xs : List Int, xs.length = n0 ∧ ∀ j, j < n0 → ∃ b o, a0 = some ⟨b, o, none⟩ ∧ b < w.heap.size ∧ w.cell? ⟨b, o + j, none⟩ = some (.int .i64 (xs.getD j 0))) (m1 : n1 ≤ 9223372036854775807) (k1 : ∃ xs : List Int, xs.length = n1 ∧ ∀ j, j < n1 → ∃ b o, a1 = some ⟨b, o, none⟩ ∧ b < w.heap.size ∧ w.cell? ⟨b, o + j, none⟩ = some (.int .i64 (xs.getD j 0))) (hE : LaidE w) :
    Calls Tryd.prog 4 #[.slice a0 n0 c0, .slice a1 n1 c1] w fun e w' => e = .returned (.bool true) ∧ Below w.heap.size w w' := by
  by_cases b0 : 1048576 < n0
  · have t : decide ((n0 : Int) > 1048576) = true := decide_eq_true (by omega)
    clear k0 k1
    go_enter Tryd.func4, Tryd.ntmps4
    go_wp2_with fail
    go_ret
    exact ⟨rfl, Below.refl _ _⟩
  by_cases b1 : 1048576 < n1
  · have t : decide ((n1 : Int) > 1048576) = true := decide_eq_true (by omega)
    clear k0 k1
    have t0 : decide ((n0 : Int) > 1048576) = false := decide_eq_false (by omega)
    go_enter Tryd.func4, Tryd.ntmps4
    go_wp2_with fail
    go_ret
    exact ⟨rfl, Below.refl _ _⟩
  obtain ⟨xs0, e0, d0⟩ := k0
  obtain ⟨xs1, e1, d1⟩ := k1
  exact lawVecAdd_small w a0 n0 c0 xs0 a1 n1 c1 xs1 ⟨e0, by omega, d0⟩ ⟨e1, by omega, d1⟩ hE

set_option maxRecDepth 100000 in
set_option maxHeartbeats 1600000 in
theorem lawVecSub_small (w : World) (a0 : Option Addr) (n0 c0 : Nat) (xs0 : List Int) (a1 : Option Addr) (n1 c1 : Nat) (xs1 : List Int) (h0 : IntsIn w.heap.size w a0 n0 xs0) (h1 : IntsIn w.heap.size w a1 n1 xs1) (hE : LaidE w) :
    Calls Tryd.prog 5 #[.slice a0 n0 c0, .slice a1 n1 c1] w fun e w' => e = .returned (.bool true) ∧ Below w.heap.size w w' := by
  have hr0 := h0.room
  have L0 := h0.len
  have F0 := Lib.hid h0
  have hr1 := h1.room
  have L1 := h1.len
  have F1 := Lib.hid h1
  have HE := Lib.hid hE
  have hlt := hE.lt
  have S := fun (w : World) (A0 : Option Addr) (C0 : Nat) (A1 : Option Addr) (C1 : Nat) (H0 : IntsIn w.heap.size w A0 n0 xs0) (H1 : IntsIn w.heap.size w A1 n1 xs1) => specVecSub_any w A0 n0 C0 xs0 A1 n1 C1 xs1 H0 H1
  have P := fun (w : World) (A0 : Option Addr) (C0 : Nat) (A1 : Option Addr) (C1 : Nat) (H0 : IntsIn w.heap.size w A0 n0 xs0) (H1 : IntsIn w.heap.size w A1 n1 xs1) (E : LaidE w) => implVecSub_any w A0 n0 C0 xs0 A1 n1 C1 xs1 H0 H1 E
  have hz : (rowP subN xs0 xs1).length ≤ 6 := rowP_length _ _ _
  obtain ⟨Z, hZ⟩ : ∃ Z, rowP subN xs0 xs1 = Z := ⟨_, rfl⟩
  rw [hZ] at S P hz
  clear hZ
  obtain ⟨nz, hn⟩ : ∃ nz, Z.length = nz := ⟨_, rfl⟩
  rw [hn] at hz
  obtain ⟨o, ho⟩ : ∃ o, flagP subB xs0 xs1 = o := ⟨_, rfl⟩
  rw [ho] at S P
  clear ho
  replace hn := Lib.hid hn
  replace S := Lib.hid S
  replace P := Lib.hid P
  replace L0 := Lib.hid L0
  replace L1 := Lib.hid L1
  have T := Lib.hid (Below.refl w.heap.size w)
  clear h0 h1 hE
  go_enter Tryd.func5, Tryd.ntmps5
  go_wp2_with fail
  refine (toIntS_any _ _ a0 n0 c0 xs0 F0.out (by omega)).mono ?_
  rintro e w1 ⟨rfl, hr, hb⟩
  have sw1 := hb.size
  replace F0 := Lib.hid (F0.out.below hb (by omega))
  replace F1 := Lib.hid (F1.out.below hb (by omega))
  replace T := Lib.hid (T.out.trans (hb.mono (by omega)))
  clear hb
  have RT0 := Lib.hid hr
  clear hr
  go_wp2_with fail
  refine (toIntS_any _ _ a1 n1 c1 xs1 F1.out (by omega)).mono ?_
  rintro e w2 ⟨rfl, hr, hb⟩
  have sw2 := hb.size
  replace F0 := Lib.hid (F0.out.below hb (by omega))
  replace F1 := Lib.hid (F1.out.below hb (by omega))
  replace RT0 := Lib.hid (RT0.out.below hb)
  replace T := Lib.hid (T.out.trans (hb.mono (by omega)))
  clear hb
  have RT1 := Lib.hid hr
  clear hr
  go_wp2_with fail
  refine (S.out _ _ _ _ _ (RT0.out.ints L0.out) (RT1.out.ints L1.out)).mono ?_
  rintro e w3 ⟨vw_, rfl, hr, hb⟩
  have sw3 := hb.size
  replace F0 := Lib.hid (F0.out.below hb (by omega))
  replace F1 := Lib.hid (F1.out.below hb (by omega))
  replace RT0 := Lib.hid (RT0.out.below hb)
  replace RT1 := Lib.hid (RT1.out.below hb)
  replace T := Lib.hid (T.out.trans (hb.mono (by omega)))
  clear hb
  obtain ⟨aw_, cw_, rfl, hi⟩ := hr.form' hn (by omega)
  have W_ := Lib.hid hi
  clear hr hi
  clear RT0
  clear RT1
  go_wp2_with fail
  refine (toIntS_any _ _ a0 n0 c0 xs0 F0.out (by omega)).mono ?_
  rintro e w4 ⟨rfl, hr, hb⟩
  have sw4 := hb.size
  replace F0 := Lib.hid (F0.out.below hb (by omega))
  replace F1 := Lib.hid (F1.out.below hb (by omega))
  replace W_ := Lib.hid (W_.out.below hb (by omega))
  replace T := Lib.hid (T.out.trans (hb.mono (by omega)))
  clear hb
  have qX0 := (hr.lt _ rfl).2
  have X0 := Lib.hid hr
  clear hr
  go_wp2_with fail
  refine (toIntS_any _ _ a1 n1 c1 xs1 F1.out (by omega)).mono ?_
  rintro e w5 ⟨rfl, hr, hb⟩
  have sw5 := hb.size
  replace F0 := Lib.hid (F0.out.below hb (by omega))
  replace F1 := Lib.hid (F1.out.below hb (by omega))
  replace W_ := Lib.hid (W_.out.below hb (by omega))
  replace X0 := Lib.hid (X0.out.below hb)
  replace T := Lib.hid (T.out.trans (hb.mono (by omega)))
  clear hb
  have qX1 := (hr.lt _ rfl).2
  have X1 := Lib.hid hr
  clear hr
  go_wp2_with fail
  refine (P.out _ _ _ _ _ (X0.out.ints L0.out) (X1.out.ints L1.out) (HE.out.below hlt T.out)).mono ?_
  rintro e w6 ⟨vg, rfl, hr, hb⟩
  have sw6 := hb.size
  replace F0 := Lib.hid (F0.out.below hb (by omega))
  replace F1 := Lib.hid (F1.out.below hb (by omega))
  replace W_ := Lib.hid (W_.out.below hb (by omega))
  replace X0 := Lib.hid (X0.out.below hb)
  replace X1 := Lib.hid (X1.out.below hb)
  replace T := Lib.hid (T.out.trans (hb.mono (by omega)))
  clear hb
  obtain ⟨ag, cg, rfl, hi⟩ := hr.form' hn (by omega)
  have G := Lib.hid hr
  clear hr hi
  go_wp2_with fail
  refine (eqIntS_same _ _ _ _ _ _ _ (G.out.ints hn.out) (W_.out.le (by omega))).mono ?_
  rintro e w7 ⟨rfl, hb⟩
  have sw7 := hb.size
  replace F0 := Lib.hid (F0.out.below hb (by omega))
  replace F1 := Lib.hid (F1.out.below hb (by omega))
  replace W_ := Lib.hid (W_.out.below hb (by omega))
  replace X0 := Lib.hid (X0.out.below hb)
  replace X1 := Lib.hid (X1.out.below hb)
  replace G := Lib.hid (G.out.below hb)
  replace T := Lib.hid (T.out.trans (hb.mono (by omega)))
  clear hb
  go_wp2_with fail
  refine (toIntS_any _ _ a0 n0 c0 xs0 F0.out (by omega)).mono ?_
  rintro e w8 ⟨rfl, hr, hb⟩
  have sw8 := hb.size
  replace F0 := Lib.hid (F0.out.below hb (by omega))
  replace F1 := Lib.hid (F1.out.below hb (by omega))
  replace W_ := Lib.hid (W_.out.below hb (by omega))
  replace X0 := Lib.hid (X0.out.below hb)
  replace X1 := Lib.hid (X1.out.below hb)
  replace G := Lib.hid (G.out.below hb)
  replace T := Lib.hid (T.out.trans (hb.mono (by omega)))
  clear hb
  have RT0 := Lib.hid hr
  clear hr
  go_wp2_with fail
  refine (eqIntS_same _ _ _ _ _ _ _ (X0.out.ints L0.out) (RT0.out.ints L0.out)).mono ?_
  rintro e w9 ⟨rfl, hb⟩
  have sw9 := hb.size
  replace F0 := Lib.hid (F0.out.below hb (by omega))
  replace F1 := Lib.hid (F1.out.below hb (by omega))
  replace W_ := Lib.hid (W_.out.below hb (by omega))
  replace X0 := Lib.hid (X0.out.below hb)
  replace X1 := Lib.hid (X1.out.below hb)
  replace G := Lib.hid (G.out.below hb)
  replace RT0 := Lib.hid (RT0.out.below hb)
  replace T := Lib.hid (T.out.trans (hb.mono (by omega)))
  clear hb
  clear RT0
  go_wp2_with fail
  refine (toIntS_any _ _ a1 n1 c1 xs1 F1.out (by omega)).mono ?_
  rintro e w10 ⟨rfl, hr, hb⟩
  have sw10 := hb.size
  replace F0 := Lib.hid (F0.out.below hb (by omega))
  replace F1 := Lib.hid (F1.out.below hb (by omega))
  replace W_ := Lib.hid (W_.out.below hb (by omega))
  replace X0 := Lib.hid (X0.out.below hb)
  replace X1 := Lib.hid (X1.out.below hb)
  replace G := Lib.hid (G.out.below hb)
  replace T := Lib.hid (T.out.trans (hb.mono (by omega)))
  clear hb
  have RT1 := Lib.hid hr
  clear hr
  go_wp2_with fail
  refine (eqIntS_same _ _ _ _ _ _ _ (X1.out.ints L1.out) (RT1.out.ints L1.out)).mono ?_
  rintro e w11 ⟨rfl, hb⟩
  have sw11 := hb.size
  replace F0 := Lib.hid (F0.out.below hb (by omega))
  replace F1 := Lib.hid (F1.out.below hb (by omega))
  replace W_ := Lib.hid (W_.out.below hb (by omega))
  replace X0 := Lib.hid (X0.out.below hb)
  replace X1 := Lib.hid (X1.out.below hb)
  replace G := Lib.hid (G.out.below hb)
  replace RT1 := Lib.hid (RT1.out.below hb)
  replace T := Lib.hid (T.out.trans (hb.mono (by omega)))
  clear hb
  clear RT1
  go_wp2_with fail
  refine (markIntS_n _ _ _ _ _ _ X0.out L0.out (by omega) (by omega) (by omega)).mono ?_
  rintro e w12 ⟨rfl, hr, hg⟩
  have sw12 := hg.size
  have hb := below_of_grown X0.out hg (by omega)
  replace F0 := Lib.hid (F0.out.below hb (by omega))
  replace F1 := Lib.hid (F1.out.below hb (by omega))
  replace W_ := Lib.hid (W_.out.below hb (by omega))
  replace X1 := Lib.hid (X1.out.kept hg (apart_of X1.out (fun k hk => by have e : k = w3.heap.size := (Option.some.inj hk).symm; omega)))
  replace G := Lib.hid (G.out.kept hg (apart_of G.out (fun k hk => by have e : k = w3.heap.size := (Option.some.inj hk).symm; omega)))
  replace T := Lib.hid (T.out.trans (hb.mono (by omega)))
  clear hr hg hb X0
  go_wp2_with fail
  refine (markIntS_n _ _ _ _ _ _ X1.out L1.out (by omega) (by omega) (by omega)).mono ?_
  rintro e w13 ⟨rfl, hr, hg⟩
  have sw13 := hg.size
  have hb := below_of_grown X1.out hg (by omega)
  replace F0 := Lib.hid (F0.out.below hb (by omega))
  replace F1 := Lib.hid (F1.out.below hb (by omega))
  replace W_ := Lib.hid (W_.out.below hb (by omega))
  replace G := Lib.hid (G.out.kept hg (apart_of G.out (fun k hk => by have e : k = w4.heap.size := (Option.some.inj hk).symm; omega)))
  replace T := Lib.hid (T.out.trans (hb.mono (by omega)))
  clear hr hg hb X1
  go_wp2_with fail
  refine (eqIntS_same _ _ _ _ _ _ _ (G.out.ints hn.out) (W_.out.le (by omega))).mono ?_
  rintro e w14 ⟨rfl, hb⟩
  have sw14 := hb.size
  replace F0 := Lib.hid (F0.out.below hb (by omega))
  replace F1 := Lib.hid (F1.out.below hb (by omega))
  replace W_ := Lib.hid (W_.out.below hb (by omega))
  replace G := Lib.hid (G.out.below hb)
  replace T := Lib.hid (T.out.trans (hb.mono (by omega)))
  clear hb
  go_wp2_with fail
  refine (markIntS_n _ _ _ _ _ _ G.out hn.out (by omega) (by omega) (by omega)).mono ?_
  rintro e w15 ⟨rfl, hr, hg⟩
  have sw15 := hg.size
  have hb := below_of_grown G.out hg (by omega)
  replace F0 := Lib.hid (F0.out.below hb (by omega))
  replace F1 := Lib.hid (F1.out.below hb (by omega))
  replace W_ := Lib.hid (W_.out.below hb (by omega))
  replace T := Lib.hid (T.out.trans (hb.mono (by omega)))
  replace G := Lib.hid hr
  clear hr hg hb
  have hm := Lib.hid (marks_length 1 nz)
  go_wp2_with fail
  refine (heldIntS_any _ _ _ _ _ _ (G.out.ints hm.out) (by omega) (by omega)).mono ?_
  rintro e w' ⟨rfl, rfl⟩
  go_wp2_with fail
  refine (toIntS_any _ _ a0 n0 c0 xs0 F0.out (by omega)).mono ?_
  rintro e w16 ⟨rfl, hr, hb⟩
  have sw16 := hb.size
  replace F0 := Lib.hid (F0.out.below hb (by omega))
  replace F1 := Lib.hid (F1.out.below hb (by omega))
  replace W_ := Lib.hid (W_.out.below hb (by omega))
  replace G := Lib.hid (G.out.below hb)
  replace T := Lib.hid (T.out.trans (hb.mono (by omega)))
  clear hb
  have RT0 := Lib.hid hr
  clear hr
  go_wp2_with fail
  refine (toIntS_any _ _ a1 n1 c1 xs1 F1.out (by omega)).mono ?_
  rintro e w17 ⟨rfl, hr, hb⟩
  have sw17 := hb.size
  replace F0 := Lib.hid (F0.out.below hb (by omega))
  replace F1 := Lib.hid (F1.out.below hb (by omega))
  replace W_ := Lib.hid (W_.out.below hb (by omega))
  replace G := Lib.hid (G.out.below hb)
  replace RT0 := Lib.hid (RT0.out.below hb)
  replace T := Lib.hid (T.out.trans (hb.mono (by omega)))
  clear hb
  have RT1 := Lib.hid hr
  clear hr
  go_wp2_with fail
  refine (P.out _ _ _ _ _ (RT0.out.ints L0.out) (RT1.out.ints L1.out) (HE.out.below hlt T.out)).mono ?_
  rintro e w18 ⟨vh, rfl, hr, hb⟩
  have sw18 := hb.size
  replace F0 := Lib.hid (F0.out.below hb (by omega))
  replace F1 := Lib.hid (F1.out.below hb (by omega))
  replace W_ := Lib.hid (W_.out.below hb (by omega))
  replace G := Lib.hid (G.out.below hb)
  replace RT0 := Lib.hid (RT0.out.below hb)
  replace RT1 := Lib.hid (RT1.out.below hb)
  replace T := Lib.hid (T.out.trans (hb.mono (by omega)))
  clear hb
  obtain ⟨ah, ch, rfl, hi⟩ := hr.form' hn (by omega)
  have H := Lib.hid hi
  clear hr hi
  clear RT0
  clear RT1
  go_wp2_with fail
  refine (eqIntS_same _ _ _ _ _ _ _ (H.out.le (by omega)) (W_.out.le (by omega))).mono ?_
  rintro e w19 ⟨rfl, hb⟩
  have sw19 := hb.size
  replace F0 := Lib.hid (F0.out.below hb (by omega))
  replace F1 := Lib.hid (F1.out.below hb (by omega))
  replace W_ := Lib.hid (W_.out.below hb (by omega))
  replace H := Lib.hid (H.out.below hb (by omega))
  replace G := Lib.hid (G.out.below hb)
  replace T := Lib.hid (T.out.trans (hb.mono (by omega)))
  clear hb
  go_wp2_with fail
  refine (heldIntS_any _ _ _ _ _ _ (G.out.ints hm.out) (by omega) (by omega)).mono ?_
  rintro e w' ⟨rfl, rfl⟩
  go_wp2_with fail
  go_ret
  exact ⟨rfl, T.out⟩
theorem lawVecSub_any (w : World) (a0 : Option Addr) (n0 c0 : Nat) (a1 : Option Addr) (n1 c1 : Nat) (m0 : n0 ≤ 9223372036854775807) (k0 : ∃ xs : List Int, xs.length = n0 ∧ ∀ j, j < n0 → ∃ b o, a0 = some ⟨b, o, none⟩ ∧ b < w.heap.size ∧ w.cell? ⟨b, o + j, none⟩ = some (.int .i64 (xs.getD j 0))) (m1 : n1 ≤ 9223372036854775807) (k1 : ∃ xs : List Int, xs.length = n1 ∧ ∀ j, j < n1 → ∃ b o, a1 = some ⟨b, o, none⟩ ∧ b < w.heap.size ∧ w.cell? ⟨b, o + j, none⟩ = some (.int .i64 (xs.getD j 0))) (hE : LaidE w) :
    Calls Tryd.prog 5 #[.slice a0 n0 c0, .slice a1 n1 c1] w fun e w' => e = .returned (.bool true) ∧ Below w.heap.size w w' := by
  by_cases b0 : 1048576 < n0
  · have t : decide ((n0 : Int) > 1048576) = true := decide_eq_true (by omega)
    clear k0 k1
    go_enter Tryd.func5, Tryd.ntmps5
    go_wp2_with fail
    go_ret
    exact ⟨rfl, Below.refl _ _⟩
  by_cases b1 : 1048576 < n1
  · have t : decide ((n1 : Int) > 1048576) = true := decide_eq_true (by omega)
    clear k0 k1
    have t0 : decide ((n0 : Int) > 1048576) = false := decide_eq_false (by omega)
    go_enter Tryd.func5, Tryd.ntmps5
    go_wp2_with fail
    go_ret
    exact ⟨rfl, Below.refl _ _⟩
  obtain ⟨xs0, e0, d0⟩ := k0
  obtain ⟨xs1, e1, d1⟩ := k1
  exact lawVecSub_small w a0 n0 c0 xs0 a1 n1 c1 xs1 ⟨e0, by omega, d0⟩ ⟨e1, by omega, d1⟩ hE

set_option maxRecDepth 100000 in
set_option maxHeartbeats 1600000 in
theorem lawVecScale_small (w : World) (i0 : Int) (a1 : Option Addr) (n1 c1 : Nat) (xs1 : List Int) (h1 : IntsIn w.heap.size w a1 n1 xs1) (hE : LaidE w) :
    Calls Tryd.prog 6 #[.int .i64 i0, .slice a1 n1 c1] w fun e w' => e = .returned (.bool true) ∧ Below w.heap.size w w' := by
  have hr1 := h1.room
  have L1 := h1.len
  have F1 := Lib.hid h1
  have HE := Lib.hid hE
  have hlt := hE.lt
  have S := fun (w : World) (A1 : Option Addr) (C1 : Nat) (H1 : IntsIn w.heap.size w A1 n1 xs1) => specVecScale_any i0 w A1 n1 C1 xs1 H1
  have P := fun (w : World) (A1 : Option Addr) (C1 : Nat) (H1 : IntsIn w.heap.size w A1 n1 xs1) (E : LaidE w) => implVecScale_any i0 w A1 n1 C1 xs1 H1 E
  have hz : (scaleN i0 xs1).length ≤ 6 := scaleN_length _ _
  obtain ⟨Z, hZ⟩ : ∃ Z, scaleN i0 xs1 = Z := ⟨_, rfl⟩
  rw [hZ] at S P hz
  clear hZ
  obtain ⟨nz, hn⟩ : ∃ nz, Z.length = nz := ⟨_, rfl⟩
  rw [hn] at hz
  obtain ⟨o, ho⟩ : ∃ o, scaleB i0 xs1 = o := ⟨_, rfl⟩
  rw [ho] at S P
  clear ho
  replace hn := Lib.hid hn
  replace S := Lib.hid S
  replace P := Lib.hid P
  replace L1 := Lib.hid L1
  have T := Lib.hid (Below.refl w.heap.size w)
  clear h1 hE
  go_enter Tryd.func6, Tryd.ntmps6
  go_wp2_with fail
  refine (toIntS_any _ _ a1 n1 c1 xs1 F1.out (by omega)).mono ?_
  rintro e w1 ⟨rfl, hr, hb⟩
  have sw1 := hb.size
  replace F1 := Lib.hid (F1.out.below hb (by omega))
  replace T := Lib.hid (T.out.trans (hb.mono (by omega)))
  clear hb
  have RT1 := Lib.hid hr
  clear hr
  go_wp2_with fail
  refine (S.out _ _ _ (RT1.out.ints L1.out)).mono ?_
  rintro e w2 ⟨vw_, rfl, hr, hb⟩
  have sw2 := hb.size
  replace F1 := Lib.hid (F1.out.below hb (by omega))
  replace RT1 := Lib.hid (RT1.out.below hb)
  replace T := Lib.hid (T.out.trans (hb.mono (by omega)))
  clear hb
  obtain ⟨aw_, cw_, rfl, hi⟩ := hr.form' hn (by omega)
  have W_ := Lib.hid hi
  clear hr hi
  clear RT1
  go_wp2_with fail
  refine (toIntS_any _ _ a1 n1 c1 xs1 F1.out (by omega)).mono ?_
  rintro e w3 ⟨rfl, hr, hb⟩
  have sw3 := hb.size
  replace F1 := Lib.hid (F1.out.below hb (by omega))
  replace W_ := Lib.hid (W_.out.below hb (by omega))
  replace T := Lib.hid (T.out.trans (hb.mono (by omega)))
  clear hb
  have qX1 := (hr.lt _ rfl).2
  have X1 := Lib.hid hr
  clear hr
  go_wp2_with fail
  refine (P.out _ _ _ (X1.out.ints L1.out) (HE.out.below hlt T.out)).mono ?_
  rintro e w4 ⟨vg, rfl, hr, hb⟩
  have sw4 := hb.size
  replace F1 := Lib.hid (F1.out.below hb (by omega))
  replace W_ := Lib.hid (W_.out.below hb (by omega))
  replace X1 := Lib.hid (X1.out.below hb)
  replace T := Lib.hid (T.out.trans (hb.mono (by omega)))
  clear hb
  obtain ⟨ag, cg, rfl, hi⟩ := hr.form' hn (by omega)
  have G := Lib.hid hr
  clear hr hi
  go_wp2_with fail
  refine (eqIntS_same _ _ _ _ _ _ _ (G.out.ints hn.out) (W_.out.le (by omega))).mono ?_
  rintro e w5 ⟨rfl, hb⟩
  have sw5 := hb.size
  replace F1 := Lib.hid (F1.out.below hb (by omega))
  replace W_ := Lib.hid (W_.out.below hb (by omega))
  replace X1 := Lib.hid (X1.out.below hb)
  replace G := Lib.hid (G.out.below hb)
  replace T := Lib.hid (T.out.trans (hb.mono (by omega)))
  clear hb
  go_wp2_with fail
  refine (toIntS_any _ _ a1 n1 c1 xs1 F1.out (by omega)).mono ?_
  rintro e w6 ⟨rfl, hr, hb⟩
  have sw6 := hb.size
  replace F1 := Lib.hid (F1.out.below hb (by omega))
  replace W_ := Lib.hid (W_.out.below hb (by omega))
  replace X1 := Lib.hid (X1.out.below hb)
  replace G := Lib.hid (G.out.below hb)
  replace T := Lib.hid (T.out.trans (hb.mono (by omega)))
  clear hb
  have RT1 := Lib.hid hr
  clear hr
  go_wp2_with fail
  refine (eqIntS_same _ _ _ _ _ _ _ (X1.out.ints L1.out) (RT1.out.ints L1.out)).mono ?_
  rintro e w7 ⟨rfl, hb⟩
  have sw7 := hb.size
  replace F1 := Lib.hid (F1.out.below hb (by omega))
  replace W_ := Lib.hid (W_.out.below hb (by omega))
  replace X1 := Lib.hid (X1.out.below hb)
  replace G := Lib.hid (G.out.below hb)
  replace RT1 := Lib.hid (RT1.out.below hb)
  replace T := Lib.hid (T.out.trans (hb.mono (by omega)))
  clear hb
  clear RT1
  go_wp2_with fail
  refine (markIntS_n _ _ _ _ _ _ X1.out L1.out (by omega) (by omega) (by omega)).mono ?_
  rintro e w8 ⟨rfl, hr, hg⟩
  have sw8 := hg.size
  have hb := below_of_grown X1.out hg (by omega)
  replace F1 := Lib.hid (F1.out.below hb (by omega))
  replace W_ := Lib.hid (W_.out.below hb (by omega))
  replace G := Lib.hid (G.out.kept hg (apart_of G.out (fun k hk => by have e : k = w2.heap.size := (Option.some.inj hk).symm; omega)))
  replace T := Lib.hid (T.out.trans (hb.mono (by omega)))
  clear hr hg hb X1
  go_wp2_with fail
  refine (eqIntS_same _ _ _ _ _ _ _ (G.out.ints hn.out) (W_.out.le (by omega))).mono ?_
  rintro e w9 ⟨rfl, hb⟩
  have sw9 := hb.size
  replace F1 := Lib.hid (F1.out.below hb (by omega))
  replace W_ := Lib.hid (W_.out.below hb (by omega))
  replace G := Lib.hid (G.out.below hb)
  replace T := Lib.hid (T.out.trans (hb.mono (by omega)))
  clear hb
  go_wp2_with fail
  refine (markIntS_n _ _ _ _ _ _ G.out hn.out (by omega) (by omega) (by omega)).mono ?_
  rintro e w10 ⟨rfl, hr, hg⟩
  have sw10 := hg.size
  have hb := below_of_grown G.out hg (by omega)
  replace F1 := Lib.hid (F1.out.below hb (by omega))
  replace W_ := Lib.hid (W_.out.below hb (by omega))
  replace T := Lib.hid (T.out.trans (hb.mono (by omega)))
  replace G := Lib.hid hr
  clear hr hg hb
  have hm := Lib.hid (marks_length 1 nz)
  go_wp2_with fail
  refine (heldIntS_any _ _ _ _ _ _ (G.out.ints hm.out) (by omega) (by omega)).mono ?_
  rintro e w' ⟨rfl, rfl⟩
  go_wp2_with fail
  refine (toIntS_any _ _ a1 n1 c1 xs1 F1.out (by omega)).mono ?_
  rintro e w11 ⟨rfl, hr, hb⟩
  have sw11 := hb.size
  replace F1 := Lib.hid (F1.out.below hb (by omega))
  replace W_ := Lib.hid (W_.out.below hb (by omega))
  replace G := Lib.hid (G.out.below hb)
  replace T := Lib.hid (T.out.trans (hb.mono (by omega)))
  clear hb
  have RT1 := Lib.hid hr
  clear hr
  go_wp2_with fail
  refine (P.out _ _ _ (RT1.out.ints L1.out) (HE.out.below hlt T.out)).mono ?_
  rintro e w12 ⟨vh, rfl, hr, hb⟩
  have sw12 := hb.size
  replace F1 := Lib.hid (F1.out.below hb (by omega))
  replace W_ := Lib.hid (W_.out.below hb (by omega))
  replace G := Lib.hid (G.out.below hb)
  replace RT1 := Lib.hid (RT1.out.below hb)
  replace T := Lib.hid (T.out.trans (hb.mono (by omega)))
  clear hb
  obtain ⟨ah, ch, rfl, hi⟩ := hr.form' hn (by omega)
  have H := Lib.hid hi
  clear hr hi
  clear RT1
  go_wp2_with fail
  refine (eqIntS_same _ _ _ _ _ _ _ (H.out.le (by omega)) (W_.out.le (by omega))).mono ?_
  rintro e w13 ⟨rfl, hb⟩
  have sw13 := hb.size
  replace F1 := Lib.hid (F1.out.below hb (by omega))
  replace W_ := Lib.hid (W_.out.below hb (by omega))
  replace H := Lib.hid (H.out.below hb (by omega))
  replace G := Lib.hid (G.out.below hb)
  replace T := Lib.hid (T.out.trans (hb.mono (by omega)))
  clear hb
  go_wp2_with fail
  refine (heldIntS_any _ _ _ _ _ _ (G.out.ints hm.out) (by omega) (by omega)).mono ?_
  rintro e w' ⟨rfl, rfl⟩
  go_wp2_with fail
  go_ret
  exact ⟨rfl, T.out⟩
theorem lawVecScale_any (w : World) (i0 : Int) (a1 : Option Addr) (n1 c1 : Nat) (m1 : n1 ≤ 9223372036854775807) (k1 : ∃ xs : List Int, xs.length = n1 ∧ ∀ j, j < n1 → ∃ b o, a1 = some ⟨b, o, none⟩ ∧ b < w.heap.size ∧ w.cell? ⟨b, o + j, none⟩ = some (.int .i64 (xs.getD j 0))) (hE : LaidE w) :
    Calls Tryd.prog 6 #[.int .i64 i0, .slice a1 n1 c1] w fun e w' => e = .returned (.bool true) ∧ Below w.heap.size w w' := by
  by_cases b1 : 1048576 < n1
  · have t : decide ((n1 : Int) > 1048576) = true := decide_eq_true (by omega)
    clear k1
    go_enter Tryd.func6, Tryd.ntmps6
    go_wp2_with fail
    go_ret
    exact ⟨rfl, Below.refl _ _⟩
  obtain ⟨xs1, e1, d1⟩ := k1
  exact lawVecScale_small w i0 a1 n1 c1 xs1 ⟨e1, by omega, d1⟩ hE

set_option maxRecDepth 100000 in
set_option maxHeartbeats 1600000 in
theorem lawVecDot_small (w : World) (a0 : Option Addr) (n0 c0 : Nat) (xs0 : List Int) (a1 : Option Addr) (n1 c1 : Nat) (xs1 : List Int) (h0 : IntsIn w.heap.size w a0 n0 xs0) (h1 : IntsIn w.heap.size w a1 n1 xs1) (hE : LaidE w) :
    Calls Tryd.prog 7 #[.slice a0 n0 c0, .slice a1 n1 c1] w fun e w' => e = .returned (.bool true) ∧ Below w.heap.size w w' := by
  have hr0 := h0.room
  have L0 := h0.len
  have F0 := Lib.hid h0
  have hr1 := h1.room
  have L1 := h1.len
  have F1 := Lib.hid h1
  have HE := Lib.hid hE
  have hlt := hE.lt
  have S := fun (w : World) (A0 : Option Addr) (C0 : Nat) (A1 : Option Addr) (C1 : Nat) (H0 : IntsIn w.heap.size w A0 n0 xs0) (H1 : IntsIn w.heap.size w A1 n1 xs1) => specVecDot_any w A0 n0 C0 xs0 A1 n1 C1 xs1 H0 H1
  have P := fun (w : World) (A0 : Option Addr) (C0 : Nat) (A1 : Option Addr) (C1 : Nat) (H0 : IntsIn w.heap.size w A0 n0 xs0) (H1 : IntsIn w.heap.size w A1 n1 xs1) (E : LaidE w) => implVecDot_any w A0 n0 C0 xs0 A1 n1 C1 xs1 H0 H1 E
  obtain ⟨r, hr⟩ : ∃ r, dotN xs0 xs1 = r := ⟨_, rfl⟩
  rw [hr] at S P
  clear hr
  obtain ⟨o, ho⟩ : ∃ o, dotB xs0 xs1 = o := ⟨_, rfl⟩
  rw [ho] at S P
  clear ho
  replace S := Lib.hid S
  replace P := Lib.hid P
  replace L0 := Lib.hid L0
  replace L1 := Lib.hid L1
  have T := Lib.hid (Below.refl w.heap.size w)
  clear h0 h1 hE
  go_enter Tryd.func7, Tryd.ntmps7
  go_wp2_with fail
  refine (toIntS_any _ _ a0 n0 c0 xs0 F0.out (by omega)).mono ?_
  rintro e w1 ⟨rfl, hr, hb⟩
  have sw1 := hb.size
  replace F0 := Lib.hid (F0.out.below hb (by omega))
  replace F1 := Lib.hid (F1.out.below hb (by omega))
  replace T := Lib.hid (T.out.trans (hb.mono (by omega)))
  clear hb
  have RT0 := Lib.hid hr
  clear hr
  go_wp2_with fail
  refine (toIntS_any _ _ a1 n1 c1 xs1 F1.out (by omega)).mono ?_
  rintro e w2 ⟨rfl, hr, hb⟩
  have sw2 := hb.size
  replace F0 := Lib.hid (F0.out.below hb (by omega))
  replace F1 := Lib.hid (F1.out.below hb (by omega))
  replace RT0 := Lib.hid (RT0.out.below hb)
  replace T := Lib.hid (T.out.trans (hb.mono (by omega)))
  clear hb
  have RT1 := Lib.hid hr
  clear hr
  go_wp2_with fail
  refine (S.out _ _ _ _ _ (RT0.out.ints L0.out) (RT1.out.ints L1.out)).mono ?_
  rintro e w3 ⟨rfl, hb⟩
  have sw3 := hb.size
  replace F0 := Lib.hid (F0.out.below hb (by omega))
  replace F1 := Lib.hid (F1.out.below hb (by omega))
  replace RT0 := Lib.hid (RT0.out.below hb)
  replace RT1 := Lib.hid (RT1.out.below hb)
  replace T := Lib.hid (T.out.trans (hb.mono (by omega)))
  clear hb
  clear RT0
  clear RT1
  go_wp2_with fail
  refine (toIntS_any _ _ a0 n0 c0 xs0 F0.out (by omega)).mono ?_
  rintro e w4 ⟨rfl, hr, hb⟩
  have sw4 := hb.size
  replace F0 := Lib.hid (F0.out.below hb (by omega))
  replace F1 := Lib.hid (F1.out.below hb (by omega))
  replace T := Lib.hid (T.out.trans (hb.mono (by omega)))
  clear hb
  have qX0 := (hr.lt _ rfl).2
  have X0 := Lib.hid hr
  clear hr
  go_wp2_with fail
  refine (toIntS_any _ _ a1 n1 c1 xs1 F1.out (by omega)).mono ?_
  rintro e w5 ⟨rfl, hr, hb⟩
  have sw5 := hb.size
  replace F0 := Lib.hid (F0.out.below hb (by omega))
  replace F1 := Lib.hid (F1.out.below hb (by omega))
  replace X0 := Lib.hid (X0.out.below hb)
  replace T := Lib.hid (T.out.trans (hb.mono (by omega)))
  clear hb
  have qX1 := (hr.lt _ rfl).2
  have X1 := Lib.hid hr
  clear hr
  go_wp2_with fail
  refine (P.out _ _ _ _ _ (X0.out.ints L0.out) (X1.out.ints L1.out) (HE.out.below hlt T.out)).mono ?_
  rintro e w6 ⟨rfl, hb⟩
  have sw6 := hb.size
  replace F0 := Lib.hid (F0.out.below hb (by omega))
  replace F1 := Lib.hid (F1.out.below hb (by omega))
  replace X0 := Lib.hid (X0.out.below hb)
  replace X1 := Lib.hid (X1.out.below hb)
  replace T := Lib.hid (T.out.trans (hb.mono (by omega)))
  clear hb
  go_wp2_with fail
  refine (toIntS_any _ _ a0 n0 c0 xs0 F0.out (by omega)).mono ?_
  rintro e w7 ⟨rfl, hr, hb⟩
  have sw7 := hb.size
  replace F0 := Lib.hid (F0.out.below hb (by omega))
  replace F1 := Lib.hid (F1.out.below hb (by omega))
  replace X0 := Lib.hid (X0.out.below hb)
  replace X1 := Lib.hid (X1.out.below hb)
  replace T := Lib.hid (T.out.trans (hb.mono (by omega)))
  clear hb
  have RT0 := Lib.hid hr
  clear hr
  go_wp2_with fail
  refine (eqIntS_same _ _ _ _ _ _ _ (X0.out.ints L0.out) (RT0.out.ints L0.out)).mono ?_
  rintro e w8 ⟨rfl, hb⟩
  have sw8 := hb.size
  replace F0 := Lib.hid (F0.out.below hb (by omega))
  replace F1 := Lib.hid (F1.out.below hb (by omega))
  replace X0 := Lib.hid (X0.out.below hb)
  replace X1 := Lib.hid (X1.out.below hb)
  replace RT0 := Lib.hid (RT0.out.below hb)
  replace T := Lib.hid (T.out.trans (hb.mono (by omega)))
  clear hb
  clear RT0
  go_wp2_with fail
  refine (toIntS_any _ _ a1 n1 c1 xs1 F1.out (by omega)).mono ?_
  rintro e w9 ⟨rfl, hr, hb⟩
  have sw9 := hb.size
  replace F0 := Lib.hid (F0.out.below hb (by omega))
  replace F1 := Lib.hid (F1.out.below hb (by omega))
  replace X0 := Lib.hid (X0.out.below hb)
  replace X1 := Lib.hid (X1.out.below hb)
  replace T := Lib.hid (T.out.trans (hb.mono (by omega)))
  clear hb
  have RT1 := Lib.hid hr
  clear hr
  go_wp2_with fail
  refine (eqIntS_same _ _ _ _ _ _ _ (X1.out.ints L1.out) (RT1.out.ints L1.out)).mono ?_
  rintro e w10 ⟨rfl, hb⟩
  have sw10 := hb.size
  replace F0 := Lib.hid (F0.out.below hb (by omega))
  replace F1 := Lib.hid (F1.out.below hb (by omega))
  replace X0 := Lib.hid (X0.out.below hb)
  replace X1 := Lib.hid (X1.out.below hb)
  replace RT1 := Lib.hid (RT1.out.below hb)
  replace T := Lib.hid (T.out.trans (hb.mono (by omega)))
  clear hb
  clear RT1
  go_wp2_with fail
  go_ret
  exact ⟨rfl, T.out⟩
theorem lawVecDot_any (w : World) (a0 : Option Addr) (n0 c0 : Nat) (a1 : Option Addr) (n1 c1 : Nat) (m0 : n0 ≤ 9223372036854775807) (k0 : ∃ xs : List Int, xs.length = n0 ∧ ∀ j, j < n0 → ∃ b o, a0 = some ⟨b, o, none⟩ ∧ b < w.heap.size ∧ w.cell? ⟨b, o + j, none⟩ = some (.int .i64 (xs.getD j 0))) (m1 : n1 ≤ 9223372036854775807) (k1 : ∃ xs : List Int, xs.length = n1 ∧ ∀ j, j < n1 → ∃ b o, a1 = some ⟨b, o, none⟩ ∧ b < w.heap.size ∧ w.cell? ⟨b, o + j, none⟩ = some (.int .i64 (xs.getD j 0))) (hE : LaidE w) :
    Calls Tryd.prog 7 #[.slice a0 n0 c0, .slice a1 n1 c1] w fun e w' => e = .returned (.bool true) ∧ Below w.heap.size w w' := by
  by_cases b0 : 1048576 < n0
  · have t : decide ((n0 : Int) > 1048576) = true := decide_eq_true (by omega)
    clear k0 k1
    go_enter Tryd.func7, Tryd.ntmps7
    go_wp2_with fail
    go_ret
    exact ⟨rfl, Below.refl _ _⟩
  by_cases b1 : 1048576 < n1
  · have t : decide ((n1 : Int) > 1048576) = true := decide_eq_true (by omega)
    clear k0 k1
    have t0 : decide ((n0 : Int) > 1048576) = false := decide_eq_false (by omega)
    go_enter Tryd.func7, Tryd.ntmps7
    go_wp2_with fail
    go_ret
    exact ⟨rfl, Below.refl _ _⟩
  obtain ⟨xs0, e0, d0⟩ := k0
  obtain ⟨xs1, e1, d1⟩ := k1
  exact lawVecDot_small w a0 n0 c0 xs0 a1 n1 c1 xs1 ⟨e0, by omega, d0⟩ ⟨e1, by omega, d1⟩ hE

set_option maxRecDepth 100000 in
set_option maxHeartbeats 1600000 in
theorem lawVecRelu_small (w : World) (a0 : Option Addr) (n0 c0 : Nat) (xs0 : List Int) (h0 : IntsIn w.heap.size w a0 n0 xs0) (hE : LaidE w) :
    Calls Tryd.prog 8 #[.slice a0 n0 c0] w fun e w' => e = .returned (.bool true) ∧ Below w.heap.size w w' := by
  have hr0 := h0.room
  have L0 := h0.len
  have F0 := Lib.hid h0
  have HE := Lib.hid hE
  have hlt := hE.lt
  have S := fun (w : World) (A0 : Option Addr) (C0 : Nat) (H0 : IntsIn w.heap.size w A0 n0 xs0) => specVecRelu_any w A0 n0 C0 xs0 H0
  have P := fun (w : World) (A0 : Option Addr) (C0 : Nat) (H0 : IntsIn w.heap.size w A0 n0 xs0) (E : LaidE w) => implVecRelu_any w A0 n0 C0 xs0 H0 E
  have hz : (rowP (fun x _ => reluN x) xs0 xs0).length ≤ 6 := rowP_length _ _ _
  obtain ⟨Z, hZ⟩ : ∃ Z, rowP (fun x _ => reluN x) xs0 xs0 = Z := ⟨_, rfl⟩
  rw [hZ] at S P hz
  clear hZ
  obtain ⟨nz, hn⟩ : ∃ nz, Z.length = nz := ⟨_, rfl⟩
  rw [hn] at hz
  replace hn := Lib.hid hn
  replace S := Lib.hid S
  replace P := Lib.hid P
  replace L0 := Lib.hid L0
  have T := Lib.hid (Below.refl w.heap.size w)
  clear h0 hE
  go_enter Tryd.func8, Tryd.ntmps8
  go_wp2_with fail
  refine (toIntS_any _ _ a0 n0 c0 xs0 F0.out (by omega)).mono ?_
  rintro e w1 ⟨rfl, hr, hb⟩
  have sw1 := hb.size
  replace F0 := Lib.hid (F0.out.below hb (by omega))
  replace T := Lib.hid (T.out.trans (hb.mono (by omega)))
  clear hb
  have RT0 := Lib.hid hr
  clear hr
  go_wp2_with fail
  refine (S.out _ _ _ (RT0.out.ints L0.out)).mono ?_
  rintro e w2 ⟨vw_, rfl, hr, hb⟩
  have sw2 := hb.size
  replace F0 := Lib.hid (F0.out.below hb (by omega))
  replace RT0 := Lib.hid (RT0.out.below hb)
  replace T := Lib.hid (T.out.trans (hb.mono (by omega)))
  clear hb
  obtain ⟨aw_, cw_, rfl, hi⟩ := hr.form' hn (by omega)
  have W_ := Lib.hid hi
  clear hr hi
  clear RT0
  go_wp2_with fail
  refine (toIntS_any _ _ a0 n0 c0 xs0 F0.out (by omega)).mono ?_
  rintro e w3 ⟨rfl, hr, hb⟩
  have sw3 := hb.size
  replace F0 := Lib.hid (F0.out.below hb (by omega))
  replace W_ := Lib.hid (W_.out.below hb (by omega))
  replace T := Lib.hid (T.out.trans (hb.mono (by omega)))
  clear hb
  have qX0 := (hr.lt _ rfl).2
  have X0 := Lib.hid hr
  clear hr
  go_wp2_with fail
  refine (P.out _ _ _ (X0.out.ints L0.out) (HE.out.below hlt T.out)).mono ?_
  rintro e w4 ⟨vg, rfl, hr, hb⟩
  have sw4 := hb.size
  replace F0 := Lib.hid (F0.out.below hb (by omega))
  replace W_ := Lib.hid (W_.out.below hb (by omega))
  replace X0 := Lib.hid (X0.out.below hb)
  replace T := Lib.hid (T.out.trans (hb.mono (by omega)))
  clear hb
  obtain ⟨ag, cg, rfl, hi⟩ := hr.form' hn (by omega)
  have G := Lib.hid hr
  clear hr hi
  go_wp2_with fail
  refine (eqIntS_same _ _ _ _ _ _ _ (G.out.ints hn.out) (W_.out.le (by omega))).mono ?_
  rintro e w5 ⟨rfl, hb⟩
  have sw5 := hb.size
  replace F0 := Lib.hid (F0.out.below hb (by omega))
  replace W_ := Lib.hid (W_.out.below hb (by omega))
  replace X0 := Lib.hid (X0.out.below hb)
  replace G := Lib.hid (G.out.below hb)
  replace T := Lib.hid (T.out.trans (hb.mono (by omega)))
  clear hb
  go_wp2_with fail
  refine (toIntS_any _ _ a0 n0 c0 xs0 F0.out (by omega)).mono ?_
  rintro e w6 ⟨rfl, hr, hb⟩
  have sw6 := hb.size
  replace F0 := Lib.hid (F0.out.below hb (by omega))
  replace W_ := Lib.hid (W_.out.below hb (by omega))
  replace X0 := Lib.hid (X0.out.below hb)
  replace G := Lib.hid (G.out.below hb)
  replace T := Lib.hid (T.out.trans (hb.mono (by omega)))
  clear hb
  have RT0 := Lib.hid hr
  clear hr
  go_wp2_with fail
  refine (eqIntS_same _ _ _ _ _ _ _ (X0.out.ints L0.out) (RT0.out.ints L0.out)).mono ?_
  rintro e w7 ⟨rfl, hb⟩
  have sw7 := hb.size
  replace F0 := Lib.hid (F0.out.below hb (by omega))
  replace W_ := Lib.hid (W_.out.below hb (by omega))
  replace X0 := Lib.hid (X0.out.below hb)
  replace G := Lib.hid (G.out.below hb)
  replace RT0 := Lib.hid (RT0.out.below hb)
  replace T := Lib.hid (T.out.trans (hb.mono (by omega)))
  clear hb
  clear RT0
  go_wp2_with fail
  refine (markIntS_n _ _ _ _ _ _ X0.out L0.out (by omega) (by omega) (by omega)).mono ?_
  rintro e w8 ⟨rfl, hr, hg⟩
  have sw8 := hg.size
  have hb := below_of_grown X0.out hg (by omega)
  replace F0 := Lib.hid (F0.out.below hb (by omega))
  replace W_ := Lib.hid (W_.out.below hb (by omega))
  replace G := Lib.hid (G.out.kept hg (apart_of G.out (fun k hk => by have e : k = w2.heap.size := (Option.some.inj hk).symm; omega)))
  replace T := Lib.hid (T.out.trans (hb.mono (by omega)))
  clear hr hg hb X0
  go_wp2_with fail
  refine (eqIntS_same _ _ _ _ _ _ _ (G.out.ints hn.out) (W_.out.le (by omega))).mono ?_
  rintro e w9 ⟨rfl, hb⟩
  have sw9 := hb.size
  replace F0 := Lib.hid (F0.out.below hb (by omega))
  replace W_ := Lib.hid (W_.out.below hb (by omega))
  replace G := Lib.hid (G.out.below hb)
  replace T := Lib.hid (T.out.trans (hb.mono (by omega)))
  clear hb
  go_wp2_with fail
  refine (markIntS_n _ _ _ _ _ _ G.out hn.out (by omega) (by omega) (by omega)).mono ?_
  rintro e w10 ⟨rfl, hr, hg⟩
  have sw10 := hg.size
  have hb := below_of_grown G.out hg (by omega)
  replace F0 := Lib.hid (F0.out.below hb (by omega))
  replace W_ := Lib.hid (W_.out.below hb (by omega))
  replace T := Lib.hid (T.out.trans (hb.mono (by omega)))
  replace G := Lib.hid hr
  clear hr hg hb
  have hm := Lib.hid (marks_length 1 nz)
  go_wp2_with fail
  refine (heldIntS_any _ _ _ _ _ _ (G.out.ints hm.out) (by omega) (by omega)).mono ?_
  rintro e w' ⟨rfl, rfl⟩
  go_wp2_with fail
  refine (toIntS_any _ _ a0 n0 c0 xs0 F0.out (by omega)).mono ?_
  rintro e w11 ⟨rfl, hr, hb⟩
  have sw11 := hb.size
  replace F0 := Lib.hid (F0.out.below hb (by omega))
  replace W_ := Lib.hid (W_.out.below hb (by omega))
  replace G := Lib.hid (G.out.below hb)
  replace T := Lib.hid (T.out.trans (hb.mono (by omega)))
  clear hb
  have RT0 := Lib.hid hr
  clear hr
  go_wp2_with fail
  refine (P.out _ _ _ (RT0.out.ints L0.out) (HE.out.below hlt T.out)).mono ?_
  rintro e w12 ⟨vh, rfl, hr, hb⟩
  have sw12 := hb.size
  replace F0 := Lib.hid (F0.out.below hb (by omega))
  replace W_ := Lib.hid (W_.out.below hb (by omega))
  replace G := Lib.hid (G.out.below hb)
  replace RT0 := Lib.hid (RT0.out.below hb)
  replace T := Lib.hid (T.out.trans (hb.mono (by omega)))
  clear hb
  obtain ⟨ah, ch, rfl, hi⟩ := hr.form' hn (by omega)
  have H := Lib.hid hi
  clear hr hi
  clear RT0
  go_wp2_with fail
  refine (eqIntS_same _ _ _ _ _ _ _ (H.out.le (by omega)) (W_.out.le (by omega))).mono ?_
  rintro e w13 ⟨rfl, hb⟩
  have sw13 := hb.size
  replace F0 := Lib.hid (F0.out.below hb (by omega))
  replace W_ := Lib.hid (W_.out.below hb (by omega))
  replace H := Lib.hid (H.out.below hb (by omega))
  replace G := Lib.hid (G.out.below hb)
  replace T := Lib.hid (T.out.trans (hb.mono (by omega)))
  clear hb
  go_wp2_with fail
  refine (heldIntS_any _ _ _ _ _ _ (G.out.ints hm.out) (by omega) (by omega)).mono ?_
  rintro e w' ⟨rfl, rfl⟩
  go_wp2_with fail
  go_ret
  exact ⟨rfl, T.out⟩
theorem lawVecRelu_any (w : World) (a0 : Option Addr) (n0 c0 : Nat) (m0 : n0 ≤ 9223372036854775807) (k0 : ∃ xs : List Int, xs.length = n0 ∧ ∀ j, j < n0 → ∃ b o, a0 = some ⟨b, o, none⟩ ∧ b < w.heap.size ∧ w.cell? ⟨b, o + j, none⟩ = some (.int .i64 (xs.getD j 0))) (hE : LaidE w) :
    Calls Tryd.prog 8 #[.slice a0 n0 c0] w fun e w' => e = .returned (.bool true) ∧ Below w.heap.size w w' := by
  by_cases b0 : 1048576 < n0
  · have t : decide ((n0 : Int) > 1048576) = true := decide_eq_true (by omega)
    clear k0
    go_enter Tryd.func8, Tryd.ntmps8
    go_wp2_with fail
    go_ret
    exact ⟨rfl, Below.refl _ _⟩
  obtain ⟨xs0, e0, d0⟩ := k0
  exact lawVecRelu_small w a0 n0 c0 xs0 ⟨e0, by omega, d0⟩ hE
end Go.Proofs.YtdmkbmpgcpggdabDoor
