/-
  The law on sums, masks and products of rows.
-/
import Derived.Test.YtdmkbmpgcpggdabDoorDrawVec
import Derived.Test.YtdmkbmpgcpggdabDoorLaws
import Derived.Test.YtdmkbmpgcpggdabDoorVecLawM
namespace Go.Proofs.YtdmkbmpgcpggdabDoor
open Go.RowKit
set_option linter.unusedVariables false

theorem sameInts_same (w : World) (a1 : Option Addr) (n1 c1 : Nat) (xs : List Int) (a2 : Option Addr) (c2 : Nat) (h1 : IntsIn w.heap.size w a1 n1 xs) (h2 : IntsIn w.heap.size w a2 n1 xs) :
    Calls Tryd.prog 15 #[.slice a1 n1 c1, .slice a2 n1 c2] w fun e w' => e = .returned (.bool true) ∧ Below w.heap.size w w' :=
  (sameInts_any w a1 n1 c1 xs a2 n1 c2 xs h1 h2).mono fun e w' ⟨he, hb⟩ => ⟨by rw [he, decide_eq_true rfl], hb⟩
set_option maxRecDepth 100000 in
theorem at_zero (w : World) (a : Option Addr) (cap : Nat) (bs : List UInt8) (hc : CodeIn w.heap.size w a bs) :
    Calls Tryd.prog 17 #[.slice a bs.length cap, .int .i64 0] w fun e w' => ∃ z : Nat, e = .returned (.int .i64 z) ∧ w = w' := by
  have hroom := hc.room
  have HC := Lib.hid hc
  clear hc
  by_cases h0 : 0 < bs.length
  · obtain ⟨b, o, rfl, hbB, hcb⟩ := HC.out.code 0 h0
    have hb8 : ((bs[0]'h0).toNat : Int) < 256 := by have := (bs[0]'h0).toNat_lt; omega
    obtain ⟨D, hD⟩ : ∃ D : Nat, D = (bs[0]'h0).toNat := ⟨_, rfl⟩
    rw [← hD, Nat.add_zero] at hcb
    rw [← hD] at hb8
    clear hD
    go_enter Tryd.func17, Tryd.ntmps17
    go_wp2_with fail
    go_ret
    exact ⟨D, rfl, rfl⟩
  · have hn : bs.length = 0 := by omega
    have hd : decide ((0 : Int) < (bs.length : Int)) = false := decide_eq_false (by omega)
    go_enter Tryd.func17, Tryd.ntmps17
    go_wp2_with fail
    go_ret
    refine ⟨0, ?_, rfl⟩
    first | rfl | exact fix_ret (by omega) | simp [hn]
theorem rowP_len (f : Int → Int → Int) (xs ys : List Int) (h : pairB xs ys = true) : (rowP f xs ys).length = xs.length := by rw [rowP_yes f h, rowK_length]
theorem rowP_len0 (f : Int → Int → Int) (xs ys : List Int) (h : pairB xs ys = false) : (rowP f xs ys).length = 0 := by rw [rowP_no f h]; rfl
theorem rowP_get (f : Int → Int → Int) (xs ys : List Int) (h : pairB xs ys = true) (j : Nat) (hj : j < xs.length) : (rowP f xs ys).getD j 0 = f (xs.getD j 0) (ys.getD j 0) := by rw [rowP_yes f h, rowK_get f xs ys _ j hj]
theorem rowP_same_len (f g : Int → Int → Int) (xs ys : List Int) : (rowP f xs ys).length = (rowP g xs ys).length := by
  cases h : pairB xs ys with
  | true => rw [rowP_len f xs ys h, rowP_len g xs ys h]
  | false => rw [rowP_len0 f xs ys h, rowP_len0 g xs ys h]

set_option maxRecDepth 100000 in
set_option maxHeartbeats 3200000 in
theorem lawVectors_small (w : World) (p : Option Addr) (cap : Nat) (bs : List UInt8) (hc : CodeIn w.heap.size w p bs) (hE : LaidE w) :
    Calls Tryd.prog 3 #[.slice p bs.length cap] w fun e w' => e = .returned (.bool true) ∧ Below w.heap.size w w' := by
  obtain ⟨i0, hi, hz0, hz1, hz2⟩ := info_parts Tryd.infoI64
  have HC := Lib.hid hc
  have HE := Lib.hid hE
  have hlt := hE.lt
  clear hc hE
  go_enter Tryd.func3, Tryd.ntmps3
  go_wp2_with fail
  refine (big_no p cap bs HC.out.room _).mono ?_
  rintro e w' ⟨rfl, rfl⟩
  go_wp2_with fail
  refine (drawVecAdd_e _ p cap bs HC.out).mono ?_
  rintro e w1 ⟨va, xs, vb, ys, rfl, ⟨hx7, hy7⟩, hra, hrb, hb⟩
  have sw1 := hb.size
  have T := Lib.hid hb
  obtain ⟨na, hna⟩ : ∃ na, xs.length = na := ⟨_, rfl⟩
  obtain ⟨nb, hnb⟩ : ∃ nb, ys.length = nb := ⟨_, rfl⟩
  rw [hna] at hx7
  rw [hnb] at hy7
  have LA := Lib.hid hna
  have LB := Lib.hid hnb
  obtain ⟨aa, ca, rfl, hia⟩ := hra.form' LA (by omega)
  obtain ⟨ab, cb, rfl, hib⟩ := hrb.form' LB (by omega)
  have A := Lib.hid hia
  have B := Lib.hid hib
  clear hra hrb hia hib hna hnb hb
  obtain ⟨X, hX⟩ : ∃ X, rowP addN xs ys = X := ⟨_, rfl⟩
  obtain ⟨K, hK⟩ : ∃ K, rowP maskN xs ys = K := ⟨_, rfl⟩
  obtain ⟨R, hR⟩ : ∃ R, rowP (fun x _ => reluN x) xs xs = R := ⟨_, rfl⟩
  obtain ⟨nx, hnx⟩ : ∃ nx, X.length = nx := ⟨_, rfl⟩
  obtain ⟨nr, hnr⟩ : ∃ nr, R.length = nr := ⟨_, rfl⟩
  have hnk : K.length = nx := by rw [← hnx, ← hX, ← hK]; exact rowP_same_len _ _ _ _
  have hx6 : nx ≤ 6 := by rw [← hnx, ← hX]; exact rowP_length _ _ _
  have hr6 : nr ≤ 6 := by rw [← hnr, ← hR]; exact rowP_length _ _ _
  obtain ⟨f1, hf1⟩ : ∃ f1, flagP addB xs ys = f1 := ⟨_, rfl⟩
  obtain ⟨f2, hf2⟩ : ∃ f2, flagP addB ys xs = f2 := ⟨_, rfl⟩
  have C1 := fun (w : World) (a1 : Option Addr) (c1 : Nat) (a2 : Option Addr) (c2 : Nat) (h1 : IntsIn w.heap.size w a1 na xs) (h2 : IntsIn w.heap.size w a2 nb ys) (hg : LaidE w) => implVecAdd_any w a1 na c1 xs a2 nb c2 ys h1 h2 hg
  have C2 := fun (w : World) (a1 : Option Addr) (c1 : Nat) (a2 : Option Addr) (c2 : Nat) (h1 : IntsIn w.heap.size w a1 nb ys) (h2 : IntsIn w.heap.size w a2 na xs) (hg : LaidE w) => implVecAdd_any w a1 nb c1 ys a2 na c2 xs h1 h2 hg
  have C3 := fun (w : World) (a1 : Option Addr) (c1 : Nat) (a2 : Option Addr) (c2 : Nat) (h1 : IntsIn w.heap.size w a1 na xs) (h2 : IntsIn w.heap.size w a2 nb ys) => implVecMask_any w a1 na c1 xs a2 nb c2 ys h1 h2
  have C4 := fun (w : World) (a1 : Option Addr) (c1 : Nat) (h1 : IntsIn w.heap.size w a1 na xs) (hg : LaidE w) => implVecRelu_any w a1 na c1 xs h1 hg
  rw [hX, hf1] at C1
  rw [rowP_addN_comm, hX, hf2] at C2
  rw [hK] at C3
  rw [hR] at C4
  clear hf1 hf2
  have HX := Lib.hid hX
  have HK := Lib.hid hK
  have HRR := Lib.hid hR
  have LX := Lib.hid hnx
  have LK := Lib.hid hnk
  have LR := Lib.hid hnr
  replace C1 := Lib.hid C1
  replace C2 := Lib.hid C2
  replace C3 := Lib.hid C3
  replace C4 := Lib.hid C4
  clear hX hK hR hnx hnk hnr
  go_wp2_with fail
  refine (C1.out _ _ _ _ _ (A.out.le (by omega)) (B.out.le (by omega)) (HE.out.below hlt T.out)).mono ?_
  rintro e w2 ⟨vx, rfl, hr, hb⟩
  have sw2 := hb.size
  replace A := Lib.hid (A.out.below hb (by omega))
  replace B := Lib.hid (B.out.below hb (by omega))
  replace T := Lib.hid (T.out.trans (hb.mono (by omega)))
  clear hb
  obtain ⟨ax, cx, rfl, hi⟩ := hr.form' LX (by omega)
  have Ix := Lib.hid hi
  clear hr hi
  go_wp2_with fail
  refine (C2.out _ _ _ _ _ (B.out.le (by omega)) (A.out.le (by omega)) (HE.out.below hlt T.out)).mono ?_
  rintro e w3 ⟨vy, rfl, hr, hb⟩
  have sw3 := hb.size
  replace A := Lib.hid (A.out.below hb (by omega))
  replace B := Lib.hid (B.out.below hb (by omega))
  replace Ix := Lib.hid (Ix.out.below hb (by omega))
  replace T := Lib.hid (T.out.trans (hb.mono (by omega)))
  clear hb
  obtain ⟨ay, cy, rfl, hi⟩ := hr.form' LX (by omega)
  have Iy := Lib.hid hi
  clear hr hi
  go_wp2_with fail
  refine (C3.out _ _ _ _ _ (A.out.le (by omega)) (B.out.le (by omega))).mono ?_
  rintro e w4 ⟨vk, rfl, hr, hb⟩
  have sw4 := hb.size
  replace A := Lib.hid (A.out.below hb (by omega))
  replace B := Lib.hid (B.out.below hb (by omega))
  replace Ix := Lib.hid (Ix.out.below hb (by omega))
  replace Iy := Lib.hid (Iy.out.below hb (by omega))
  replace T := Lib.hid (T.out.trans (hb.mono (by omega)))
  clear hb
  obtain ⟨ak, ck, rfl, hi⟩ := hr.form' LK (by omega)
  have Ik := Lib.hid hi
  clear hr hi
  go_wp2_with fail
  refine (C4.out _ _ _ (A.out.le (by omega)) (HE.out.below hlt T.out)).mono ?_
  rintro e w5 ⟨vr, rfl, hr, hb⟩
  have sw5 := hb.size
  replace A := Lib.hid (A.out.below hb (by omega))
  replace B := Lib.hid (B.out.below hb (by omega))
  replace Ix := Lib.hid (Ix.out.below hb (by omega))
  replace Iy := Lib.hid (Iy.out.below hb (by omega))
  replace Ik := Lib.hid (Ik.out.below hb (by omega))
  replace T := Lib.hid (T.out.trans (hb.mono (by omega)))
  clear hb
  obtain ⟨ar, cr, rfl, hi⟩ := hr.form' LR (by omega)
  have Ir := Lib.hid hi
  clear hr hi
  have P0 := fun (w : World) (a1 : Option Addr) (c1 : Nat) (h1 : IntsIn w.heap.size w a1 na xs) => specVecOk_any w a1 na c1 xs h1
  have Q0 := fun (w : World) (a1 : Option Addr) (c1 : Nat) (h1 : IntsIn w.heap.size w a1 nb ys) => specVecOk_any w a1 nb c1 ys h1
  have hs : pairB xs xs = vecOkB xs := pairB_self xs
  cases hp : pairB xs ys with
  | false =>
    have h0 : nx = 0 := by rw [← LX.out, ← HX.out]; exact rowP_len0 _ _ _ hp
    subst h0
    cases hv : vecOkB xs with
    | false =>
      have t3 : nr = 0 := by rw [← LR.out, ← HRR.out]; exact rowP_len0 _ _ _ (by rw [hs]; exact hv)
      subst t3
      rw [hv] at P0
      clear hs hp hv
      have P := Lib.hid P0
      have Q := Lib.hid Q0
      clear P0 Q0
      go_wp2_with fail
      refine (P.out _ _ _ (A.out.le (by omega))).mono ?_
      rintro e w' ⟨rfl, rfl⟩
      go_wp2_with fail
      refine (sameInts_same _ _ _ _ _ _ _ (Ix.out.le (by omega)) (Iy.out.le (by omega))).mono ?_
      rintro e w6 ⟨rfl, hb⟩
      have sw6 := hb.size
      replace A := Lib.hid (A.out.below hb (by omega))
      replace B := Lib.hid (B.out.below hb (by omega))
      replace Ix := Lib.hid (Ix.out.below hb (by omega))
      replace Iy := Lib.hid (Iy.out.below hb (by omega))
      replace Ik := Lib.hid (Ik.out.below hb (by omega))
      replace Ir := Lib.hid (Ir.out.below hb (by omega))
      replace T := Lib.hid (T.out.trans (hb.mono (by omega)))
      clear hb
      go_wp2_with fail
      refine (P.out _ _ _ (A.out.le (by omega))).mono ?_
      rintro e w' ⟨rfl, rfl⟩
      go_wp2_with fail
      go_loopw [12] (fun i wr => i = .int .i64 0 ∧ Below w.heap.size w wr) (fun _ _ => 0)
      case atStart => exact ⟨rfl, T.out⟩
      case round =>
        obtain ⟨rfl, hb⟩ := hrel
        have HB := Lib.hid hb
        clear hb
        go_wp2_with fail
        go_ret
        exact ⟨rfl, HB.out⟩
    | true =>
      have t3 : 0 < nr := by
        have h1 : nr = xs.length := by rw [← LR.out, ← HRR.out]; exact rowP_len _ _ _ (by rw [hs]; exact hv)
        have h2 := (vecOkB_has hv).1
        omega
      have t3' : ¬ nr = 0 := by omega
      rw [hv] at P0
      cases hu : vecOkB ys with
      | false =>
        rw [hu] at Q0
        clear hs hp hv hu
        have P := Lib.hid P0
        have Q := Lib.hid Q0
        clear P0 Q0
        go_wp2_with fail
        refine (P.out _ _ _ (A.out.le (by omega))).mono ?_
        rintro e w' ⟨rfl, rfl⟩
        go_wp2_with fail
        refine (Q.out _ _ _ (B.out.le (by omega))).mono ?_
        rintro e w' ⟨rfl, rfl⟩
        go_wp2_with fail
        refine (sameInts_same _ _ _ _ _ _ _ (Ix.out.le (by omega)) (Iy.out.le (by omega))).mono ?_
        rintro e w6 ⟨rfl, hb⟩
        have sw6 := hb.size
        replace A := Lib.hid (A.out.below hb (by omega))
        replace B := Lib.hid (B.out.below hb (by omega))
        replace Ix := Lib.hid (Ix.out.below hb (by omega))
        replace Iy := Lib.hid (Iy.out.below hb (by omega))
        replace Ik := Lib.hid (Ik.out.below hb (by omega))
        replace Ir := Lib.hid (Ir.out.below hb (by omega))
        replace T := Lib.hid (T.out.trans (hb.mono (by omega)))
        clear hb
        go_wp2_with fail
        refine (P.out _ _ _ (A.out.le (by omega))).mono ?_
        rintro e w' ⟨rfl, rfl⟩
        go_wp2_with fail
        go_loopw [12] (fun i wr => i = .int .i64 0 ∧ Below w.heap.size w wr) (fun _ _ => 0)
        case atStart => exact ⟨rfl, T.out⟩
        case round =>
          obtain ⟨rfl, hb⟩ := hrel
          have HB := Lib.hid hb
          clear hb
          go_wp2_with fail
          go_ret
          exact ⟨rfl, HB.out⟩
      | true =>
        have t4 : ((na : Int) == (nb : Int)) = false := by
          unfold pairB at hp
          rw [hv, hu, LA.out, LB.out] at hp
          simp only [Bool.and_self, Bool.true_and, decide_eq_false_iff_not] at hp
          rw [beq_eq_false_iff_ne]
          omega
        rw [hu] at Q0
        clear hs hp hv hu
        have P := Lib.hid P0
        have Q := Lib.hid Q0
        clear P0 Q0
        go_wp2_with fail
        refine (P.out _ _ _ (A.out.le (by omega))).mono ?_
        rintro e w' ⟨rfl, rfl⟩
        go_wp2_with fail
        refine (Q.out _ _ _ (B.out.le (by omega))).mono ?_
        rintro e w' ⟨rfl, rfl⟩
        go_wp2_with fail
        refine (sameInts_same _ _ _ _ _ _ _ (Ix.out.le (by omega)) (Iy.out.le (by omega))).mono ?_
        rintro e w6 ⟨rfl, hb⟩
        have sw6 := hb.size
        replace A := Lib.hid (A.out.below hb (by omega))
        replace B := Lib.hid (B.out.below hb (by omega))
        replace Ix := Lib.hid (Ix.out.below hb (by omega))
        replace Iy := Lib.hid (Iy.out.below hb (by omega))
        replace Ik := Lib.hid (Ik.out.below hb (by omega))
        replace Ir := Lib.hid (Ir.out.below hb (by omega))
        replace T := Lib.hid (T.out.trans (hb.mono (by omega)))
        clear hb
        go_wp2_with fail
        refine (P.out _ _ _ (A.out.le (by omega))).mono ?_
        rintro e w' ⟨rfl, rfl⟩
        go_wp2_with fail
        go_loopw [12] (fun i wr => i = .int .i64 0 ∧ Below w.heap.size w wr) (fun _ _ => 0)
        case atStart => exact ⟨rfl, T.out⟩
        case round =>
          obtain ⟨rfl, hb⟩ := hrel
          have HB := Lib.hid hb
          clear hb
          go_wp2_with fail
          go_ret
          exact ⟨rfl, HB.out⟩
  | true =>
    obtain ⟨hv, hu, hl⟩ := pairB_has hp
    rw [LA.out, LB.out] at hl
    subst hl
    have hv1 := vecOkB_has hv
    rw [LA.out] at hv1
    have ha1 := hv1.1
    have ha6 := hv1.2.1
    have hnx : na = nx := by rw [← LX.out, ← HX.out, rowP_len _ _ _ hp]; exact LA.out.symm
    subst hnx
    have t1 : 0 < na := ha1
    have t1' : ¬ na = 0 := by omega
    have t3 : 0 < nr := by
      have h1 : nr = xs.length := by rw [← LR.out, ← HRR.out]; exact rowP_len _ _ _ (by rw [hs]; exact hv)
      rw [LA.out] at h1
      omega
    have t3' : ¬ nr = 0 := by omega
    rw [hv] at P0
    rw [hu] at Q0
    have GX : Hid (∀ j, j < na → X.getD j 0 = addN (xs.getD j 0) (ys.getD j 0)) := fun j hj => by rw [← HX.out]; exact rowP_get _ _ _ hp j (by rw [LA.out]; exact hj)
    have GK : Hid (∀ j, j < na → K.getD j 0 = maskN (xs.getD j 0) (ys.getD j 0)) := fun j hj => by rw [← HK.out]; exact rowP_get _ _ _ hp j (by rw [LA.out]; exact hj)
    have HV := Lib.hid hv
    clear hs hp hv hu hv1
    have P := Lib.hid P0
    have Q := Lib.hid Q0
    clear P0 Q0
    go_wp2_with fail
    refine (P.out _ _ _ (A.out.le (by omega))).mono ?_
    rintro e w' ⟨rfl, rfl⟩
    go_wp2_with fail
    refine (Q.out _ _ _ (B.out.le (by omega))).mono ?_
    rintro e w' ⟨rfl, rfl⟩
    go_wp2_with fail
    refine (sameInts_same _ _ _ _ _ _ _ (Ix.out.le (by omega)) (Iy.out.le (by omega))).mono ?_
    rintro e w6 ⟨rfl, hb⟩
    have sw6 := hb.size
    replace A := Lib.hid (A.out.below hb (by omega))
    replace B := Lib.hid (B.out.below hb (by omega))
    replace Ix := Lib.hid (Ix.out.below hb (by omega))
    replace Iy := Lib.hid (Iy.out.below hb (by omega))
    replace Ik := Lib.hid (Ik.out.below hb (by omega))
    replace Ir := Lib.hid (Ir.out.below hb (by omega))
    replace T := Lib.hid (T.out.trans (hb.mono (by omega)))
    clear hb
    go_wp2_with fail
    refine (P.out _ _ _ (A.out.le (by omega))).mono ?_
    rintro e w' ⟨rfl, rfl⟩
    go_wp2_with fail
    go_loopw [12] (fun i wr => ∃ k : Nat, k ≤ na ∧ i = .int .i64 k ∧ Below w6.heap.size w6 wr) (fun i _ => na - (intOf i).toNat)
    case atStart => exact ⟨0, Nat.zero_le _, rfl, Below.refl _ _⟩
    case round =>
      obtain ⟨k, hk, rfl, hb⟩ := hrel
      have HB := Lib.hid hb
      have hsr := hb.size
      clear hb
      by_cases hlk : k < na
      · have A1 := Lib.hid A.out
        obtain ⟨b1, o1, rfl, hb1, hc1⟩ := (A.out.below HB.out (by omega)).cells k hlk
        obtain ⟨b2, o2, rfl, hb2, hc2⟩ := (B.out.below HB.out (by omega)).cells k hlk
        obtain ⟨b3, o3, rfl, hb3, hc3⟩ := (Ix.out.below HB.out (by omega)).cells k hlk
        obtain ⟨b4, o4, rfl, hb4, hc4⟩ := (Ik.out.below HB.out (by omega)).cells k hlk
        rw [GX.out k hlk] at hc3
        rw [GK.out k hlk] at hc4
        obtain ⟨U, hU⟩ : ∃ U, U = xs.getD k 0 := ⟨_, rfl⟩
        obtain ⟨V, hV⟩ : ∃ V, V = ys.getD k 0 := ⟨_, rfl⟩
        rw [← hU, ← hV] at hc3 hc4
        rw [← hU] at hc1
        rw [← hV] at hc2
        obtain ⟨S, hS⟩ : ∃ S, addN U V = S := ⟨_, rfl⟩
        rw [hS] at hc3
        have HT := fun w => specFixAdd_any U V w
        rw [hS] at HT
        replace HT := Lib.hid HT
        have hm := maskN_cases U V
        clear hU hV hS
        go_wp2_with fail
        go_quiet ((go_at_call 16; refine Calls.quiet_of_same ((HT.out _).mono fun e w' ⟨he, hw⟩ => ⟨he, hw.symm⟩)))
        have hbq : Below w6.heap.size w6 (wr.drewN nq) := drewN_below HB.out nq
        replace hc1 := (show (wr.drewN nq).cell? _ = _ from hc1)
        replace hc2 := (show (wr.drewN nq).cell? _ = _ from hc2)
        replace hc3 := (show (wr.drewN nq).cell? _ = _ from hc3)
        replace hc4 := (show (wr.drewN nq).cell? _ = _ from hc4)
        generalize wr.drewN nq = wq at hbq hc1 hc2 hc3 hc4 ⊢
        have HBQ := Lib.hid hbq
        clear hbq
        rcases hm with ⟨hu, hm⟩ | ⟨hu, hm⟩
        · rw [hm] at hc4
          have u1 : decide (U > 0) = true := decide_eq_true hu
          have u2 : decide (U ≤ 0) = false := decide_eq_false (by omega)
          clear hm hu
          by_cases hv : V = 0
          · subst hv
            go_wp2_with fail
            go_quiet (fail)
            go_wp2_with fail
            go_roundw
            case rel => exact ⟨k + 1, by omega, by go_num, drewN_below HBQ.out _⟩
            case measure => simp [intOf]; omega
          · have v1 : (V == 0) = false := by simpa using hv
            go_wp2_with fail
            go_quiet (fail)
            go_wp2_with fail
            go_roundw
            case rel => exact ⟨k + 1, by omega, by go_num, drewN_below HBQ.out _⟩
            case measure => simp [intOf]; omega
        · rw [hm] at hc4
          have u1 : decide (U > 0) = false := decide_eq_false (by omega)
          have u2 : decide (U ≤ 0) = true := decide_eq_true (by omega)
          clear hm hu
          go_wp2_with fail
          go_quiet (fail)
          go_wp2_with fail
          go_roundw
          case rel => exact ⟨k + 1, by omega, by go_num, drewN_below HBQ.out _⟩
          case measure => simp [intOf]; omega
      · obtain rfl : k = na := by omega
        have hb := HB.out
        have swr := hb.size
        replace A := Lib.hid (A.out.below hb (by omega))
        replace B := Lib.hid (B.out.below hb (by omega))
        replace Ix := Lib.hid (Ix.out.below hb (by omega))
        replace Iy := Lib.hid (Iy.out.below hb (by omega))
        replace Ik := Lib.hid (Ik.out.below hb (by omega))
        replace Ir := Lib.hid (Ir.out.below hb (by omega))
        replace T := Lib.hid (T.out.trans (hb.mono (by omega)))
        clear hb
        go_wp2_with fail
        refine (at_zero _ p cap bs ((HC.out.below T.out).le T.out.size)).mono ?_
        rintro e w' ⟨z, rfl, rfl⟩
        obtain ⟨j, hj⟩ : ∃ j : Nat, (z : Int) % (k : Int) = j := ⟨((z : Int) % (k : Int)).toNat, by have := Int.emod_nonneg (z : Int) (b := (k : Int)) (by omega); omega⟩
        have hjk : j < k := by have := Int.emod_lt_of_pos (z : Int) (b := (k : Int)) (by omega); omega
        have hk0 : ((k : Int) == 0) = false := by rw [beq_eq_false_iff_ne]; omega
        have hmk := fun (w : World) => run_make (P := Tryd.prog) w 24 3 i0 (.int .i64 0) Tryd.underlying24 hi hz0 .i64 .i64 k k (by omega) (by omega) (by rw [hz2]; omega) (by omega)
        obtain ⟨Z, hZ⟩ : ∃ Z, Z = madeCells (Value.cells (.int .i64 0)) ((k : Int).toNat * i0.size) := ⟨_, rfl⟩
        have hZl : Z.toList = icells (List.replicate k 0) := by
          rw [hZ, hz1]
          show (madeCells #[Value.int .i64 0] _).toList = _
          rw [toList_madeCells_one]
          simp [icells]
        have hZs : Z.size = k := by have := congrArg List.length hZl; simpa [icells] using this
        rw [← hZ] at hmk
        have hown : (wr.alloc (.cells Z 3)).ownsRow wr.heap.size 3 1 (.slice (some ⟨wr.heap.size, 0, none⟩) k k) k (icells (List.replicate k 0)) :=
          ⟨by simp [icells], .inr ⟨_, _, Z, rfl, Nat.le_refl _, heap_alloc_new wr _, Nat.le_refl _, by unfold maxLen; omega, by rw [hZs]; omega, by rw [hZl]; simp [icells]⟩⟩
        have hfr := World.ownsRow.frozenAt hown j
        obtain ⟨u, hu⟩ : ∃ u, (wr.alloc (.cells Z 3)).cell? ⟨wr.heap.size, j, none⟩ = some u := by
          rw [World.ownsRow.cellAt hown j (by omega)]
          exact ⟨_, List.getElem?_eq_getElem (by rw [icells_length, List.length_replicate]; exact hjk)⟩
        have hZ2 : (Z.setIfInBounds j (Value.int .i64 65536)).toList = icells (unitRow k j) := by
          rw [Array.toList_setIfInBounds, hZl, icells_set]
          rfl
        have hrw : Row wr.heap.size (wr.alloc (.cells (Z.setIfInBounds j (Value.int .i64 65536)) 3)) (.slice (some ⟨wr.heap.size, 0, none⟩) k k) (unitRow k j) := by
          unfold Row
          rw [unitRow_length]
          exact ⟨by rw [icells_length, unitRow_length]; omega, .inr ⟨_, _, _, rfl, Nat.le_refl _, heap_alloc_new wr _, Nat.le_refl _, by unfold maxLen; omega, by rw [Array.size_setIfInBounds, hZs]; omega, by rw [hZ2, Nat.mul_one]; exact List.take_of_length_le (by rw [icells_length, unitRow_length]; omega)⟩⟩
        have hb : Below wr.heap.size wr (wr.alloc (.cells (Z.setIfInBounds j (Value.int .i64 65536)) 3)) := (Below.refl _ _).alloc (Nat.le_refl _) _
        have D1 := fun (w : World) (a1 : Option Addr) (c1 : Nat) (a2 : Option Addr) (c2 : Nat) (h1 : IntsIn w.heap.size w a1 k xs) (h2 : IntsIn w.heap.size w a2 k (unitRow k j)) (hg : LaidE w) => implVecDot_any w a1 k c1 xs a2 k c2 (unitRow k j) h1 h2 hg
        have D2 := fun (w : World) (a1 : Option Addr) (c1 : Nat) (a2 : Option Addr) (c2 : Nat) (h1 : IntsIn w.heap.size w a1 k xs) (h2 : IntsIn w.heap.size w a2 k ys) (hg : LaidE w) => implVecDot_any w a1 k c1 xs a2 k c2 ys h1 h2 hg
        have D3 := fun (w : World) (a1 : Option Addr) (c1 : Nat) (a2 : Option Addr) (c2 : Nat) (h1 : IntsIn w.heap.size w a1 k ys) (h2 : IntsIn w.heap.size w a2 k xs) (hg : LaidE w) => implVecDot_any w a1 k c1 ys a2 k c2 xs h1 h2 hg
        rw [(dot_unit LA.out hjk HV.out).1, (dot_unit LA.out hjk HV.out).2] at D1
        rw [(dot_comm xs ys).1, (dot_comm xs ys).2] at D3
        obtain ⟨M, hM⟩ : ∃ M, M = xs.getD j 0 := ⟨_, rfl⟩
        obtain ⟨d, hd⟩ : ∃ d, dotN xs ys = d := ⟨_, rfl⟩
        obtain ⟨o, ho⟩ : ∃ o, dotB xs ys = o := ⟨_, rfl⟩
        rw [← hM] at D1
        rw [hd, ho] at D2 D3
        replace D1 := Lib.hid D1
        replace D2 := Lib.hid D2
        replace D3 := Lib.hid D3
        have HM := Lib.hid hM
        have HW := Lib.hid hrw
        have HBB := Lib.hid hb
        clear hM hd ho hrw hb hown hZl hZs hZ hZ2
        go_wp2_with fail
        generalize hww : wr.alloc (.cells (Z.setIfInBounds j (Value.int .i64 65536)) 3) = wu
        rw [hww] at HW HBB
        have hb := HBB.out
        clear HBB hww hfr hu hmk
        have swu := hb.size
        replace A := Lib.hid (A.out.below hb (by omega))
        replace B := Lib.hid (B.out.below hb (by omega))
        replace Ix := Lib.hid (Ix.out.below hb (by omega))
        replace Iy := Lib.hid (Iy.out.below hb (by omega))
        replace Ik := Lib.hid (Ik.out.below hb (by omega))
        replace Ir := Lib.hid (Ir.out.below hb (by omega))
        replace T := Lib.hid (T.out.trans (hb.mono (by omega)))
        clear hb
        have UR := Lib.hid (HW.out.ints (unitRow_length k j) (by omega))
        clear HW
        refine (D1.out _ _ _ _ _ (A.out.le (by omega)) (UR.out.le (by omega)) (HE.out.below hlt T.out)).mono ?_
        rintro e w7 ⟨rfl, hb⟩
        have sw7 := hb.size
        replace A := Lib.hid (A.out.below hb (by omega))
        replace B := Lib.hid (B.out.below hb (by omega))
        replace Ix := Lib.hid (Ix.out.below hb (by omega))
        replace Iy := Lib.hid (Iy.out.below hb (by omega))
        replace Ik := Lib.hid (Ik.out.below hb (by omega))
        replace Ir := Lib.hid (Ir.out.below hb (by omega))
        replace UR := Lib.hid (UR.out.below hb (by omega))
        replace T := Lib.hid (T.out.trans (hb.mono (by omega)))
        clear hb
        go_wp2_with fail
        refine (D2.out _ _ _ _ _ (A.out.le (by omega)) (B.out.le (by omega)) (HE.out.below hlt T.out)).mono ?_
        rintro e w8 ⟨rfl, hb⟩
        have sw8 := hb.size
        replace A := Lib.hid (A.out.below hb (by omega))
        replace B := Lib.hid (B.out.below hb (by omega))
        replace Ix := Lib.hid (Ix.out.below hb (by omega))
        replace Iy := Lib.hid (Iy.out.below hb (by omega))
        replace Ik := Lib.hid (Ik.out.below hb (by omega))
        replace Ir := Lib.hid (Ir.out.below hb (by omega))
        replace UR := Lib.hid (UR.out.below hb (by omega))
        replace T := Lib.hid (T.out.trans (hb.mono (by omega)))
        clear hb
        go_wp2_with fail
        refine (D3.out _ _ _ _ _ (B.out.le (by omega)) (A.out.le (by omega)) (HE.out.below hlt T.out)).mono ?_
        rintro e w9 ⟨rfl, hb⟩
        have sw9 := hb.size
        replace A := Lib.hid (A.out.below hb (by omega))
        replace B := Lib.hid (B.out.below hb (by omega))
        replace Ix := Lib.hid (Ix.out.below hb (by omega))
        replace Iy := Lib.hid (Iy.out.below hb (by omega))
        replace Ik := Lib.hid (Ik.out.below hb (by omega))
        replace Ir := Lib.hid (Ir.out.below hb (by omega))
        replace UR := Lib.hid (UR.out.below hb (by omega))
        replace T := Lib.hid (T.out.trans (hb.mono (by omega)))
        clear hb
        obtain ⟨b1, o1, rfl, hb1, hc1⟩ := A.out.cells j hjk
        rw [← HM.out] at hc1
        cases o
        all_goals
          go_wp2_with fail
          go_ret
          exact ⟨rfl, T.out⟩

set_option maxRecDepth 100000 in
theorem lawVectors_big (w : World) (a : Option Addr) (len cap : Nat) (hm : len ≤ 9223372036854775807) (hbig : 1048576 < len) :
    Calls Tryd.prog 3 #[.slice a len cap] w fun e w' => e = .returned (.bool true) ∧ Below w.heap.size w w' := by
  go_enter Tryd.func3, Tryd.ntmps3
  go_wp2_with fail
  refine (big_yes a len cap hbig hm _).mono ?_
  rintro e w' ⟨rfl, rfl⟩
  go_wp2_with fail
  go_ret
  exact ⟨rfl, Below.refl _ _⟩
theorem lawVectors (w : World) (a : Option Addr) (len cap : Nat) (hm : len ≤ 9223372036854775807) (hE : LaidE w)
    (hb : ∃ bs : List UInt8, bs.length = len ∧ ∀ j (hj : j < bs.length), ∃ b o, a = some ⟨b, o, none⟩ ∧ b < w.heap.size ∧ w.cell? ⟨b, o + j, none⟩ = some (.int .u8 (bs[j].toNat : Int))) :
    Calls Tryd.prog 3 #[.slice a len cap] w fun e w' => e = .returned (.bool true) ∧ Below w.heap.size w w' :=
  law_of _ w a len cap hm hb (lawVectors_big w a len cap hm) (fun bs hc => lawVectors_small w a cap bs hc hE)
end Go.Proofs.YtdmkbmpgcpggdabDoor
