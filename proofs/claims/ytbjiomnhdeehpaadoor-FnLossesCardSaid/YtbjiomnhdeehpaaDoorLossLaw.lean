/-
  The law on losses.
-/
import Derived.Test.YtbjiomnhdeehpaaDoorLossI
import Derived.Test.YtbjiomnhdeehpaaDoorLaws
namespace Go.Proofs.YtbjiomnhdeehpaaDoor
open Go.RowKit
set_option linter.unusedVariables false

set_option maxRecDepth 100000 in
set_option maxHeartbeats 1600000 in
theorem lawLosses_small (w : World) (p : Option Addr) (cap : Nat) (bs : List UInt8) (hc : CodeIn w.heap.size w p bs) (hE : LaidE w) :
    Calls Tryd.prog 3 #[.slice p bs.length cap] w fun e w' => e = .returned (.bool true) ∧ Below w.heap.size w w' := by
  have HC := Lib.hid hc
  have HE := Lib.hid hE
  have hlt := hE.lt
  clear hc hE
  go_enter Tryd.func3, Tryd.ntmps3
  go_wp2_with fail
  refine (big_no p cap bs HC.out.room _).mono ?_
  rintro e w' ⟨rfl, rfl⟩
  go_wp2_with fail
  refine (drawLossOf_e _ p cap bs HC.out).mono ?_
  rintro e w1 ⟨va, xs, vb, ys, rfl, ⟨hx7, hy7⟩, hra, hrb, hb⟩
  have sw1 := hb.size
  have T := Lib.hid hb
  obtain ⟨na, hna⟩ : ∃ na, xs.length = na := ⟨_, rfl⟩
  obtain ⟨nb, hnb⟩ : ∃ nb, ys.length = nb := ⟨_, rfl⟩
  rw [hna] at hx7
  rw [hnb] at hy7
  have LA := Lib.hid hna
  have LB := Lib.hid hnb
  obtain ⟨aa, ca, rfl, hia⟩ := hra.form' LA (by omega)
  obtain ⟨ab, cb, rfl, hib⟩ := hrb.form' LB (by omega)
  have A := Lib.hid hia
  have B := Lib.hid hib
  clear hra hrb hia hib hna hnb hb
  obtain ⟨X, hX⟩ : ∃ X, lossN xs ys = X := ⟨_, rfl⟩
  obtain ⟨o, ho⟩ : ∃ o, lossB xs ys = o := ⟨_, rfl⟩
  have hX0 : 0 ≤ X := by rw [← hX]; exact loss_nonneg _ _
  have hz := loss_self xs
  have K1 := fun (w : World) (h1 : IntsIn w.heap.size w aa na xs) (h2 : IntsIn w.heap.size w ab nb ys) (hg : LaidE w) => implLossOf_any w aa na ca xs ab nb cb ys h1 h2 hg
  have K2 := fun (w : World) (h1 : IntsIn w.heap.size w aa na xs) (hg : LaidE w) => implLossOf_any w aa na ca xs aa na ca xs h1 h1 hg
  have K3 := fun (w : World) (h1 : IntsIn w.heap.size w aa na xs) (h2 : IntsIn w.heap.size w ab nb ys) => specLossOf_any w aa na ca xs ab nb cb ys h1 h2
  simp only [hX, ho] at K1 K3
  simp only [hz.1, hz.2] at K2
  replace K1 := Lib.hid K1
  replace K2 := Lib.hid K2
  replace K3 := Lib.hid K3
  clear hX ho hz
  go_wp2_with fail
  refine (K1.out _ A.out B.out (HE.out.below hlt T.out)).mono ?_
  rintro e w2 ⟨rfl, hb⟩
  have sw2 := hb.size
  replace A := Lib.hid (A.out.below hb (Nat.le_refl _))
  replace B := Lib.hid (B.out.below hb (Nat.le_refl _))
  replace T := Lib.hid (T.out.trans (hb.mono sw1))
  clear hb
  go_wp2_with fail
  refine (K2.out _ (A.out.le sw2) (HE.out.below hlt T.out)).mono ?_
  rintro e w3 ⟨rfl, hb⟩
  have sw3 := hb.size
  replace A := Lib.hid (A.out.below hb sw2)
  replace B := Lib.hid (B.out.below hb sw2)
  replace T := Lib.hid (T.out.trans (hb.mono (Nat.le_trans sw1 sw2)))
  clear hb
  go_wp2_with fail
  refine (K3.out _ (A.out.le (Nat.le_trans sw2 sw3)) (B.out.le (Nat.le_trans sw2 sw3))).mono ?_
  rintro e w4 ⟨rfl, hb⟩
  replace T := Lib.hid (T.out.trans (hb.mono (Nat.le_trans sw1 (Nat.le_trans sw2 sw3))))
  clear hb
  go_wp2_with fail
  go_ret
  exact ⟨by simp, T.out⟩
theorem lawLosses_big (w : World) (a : Option Addr) (len cap : Nat) (hm : len ≤ 9223372036854775807) (hbig : 1048576 < len) :
    Calls Tryd.prog 3 #[.slice a len cap] w fun e w' => e = .returned (.bool true) ∧ Below w.heap.size w w' := by
  go_enter Tryd.func3, Tryd.ntmps3
  go_wp2_with fail
  refine (big_yes a len cap hbig hm _).mono ?_
  rintro e w' ⟨rfl, rfl⟩
  go_wp2_with fail
  go_ret
  exact ⟨rfl, Below.refl _ _⟩
theorem lawLosses (w : World) (a : Option Addr) (len cap : Nat) (hm : len ≤ 9223372036854775807) (hE : LaidE w)
    (hb : ∃ bs : List UInt8, bs.length = len ∧ ∀ j (hj : j < bs.length), ∃ b o, a = some ⟨b, o, none⟩ ∧ b < w.heap.size ∧ w.cell? ⟨b, o + j, none⟩ = some (.int .u8 (bs[j].toNat : Int))) :
    Calls Tryd.prog 3 #[.slice a len cap] w fun e w' => e = .returned (.bool true) ∧ Below w.heap.size w w' :=
  law_of _ w a len cap hm hb (lawLosses_big w a len cap hm) (fun bs hc => lawLosses_small w a cap bs hc hE)
end Go.Proofs.YtbjiomnhdeehpaaDoor
