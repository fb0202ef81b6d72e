/-
  What is drawn: a text that is spoilt (a byte more).
-/
import Derived.Test.YthficfeiomddmaaDoorDrawSpoilM
namespace Go.Proofs.YthficfeiomddmaaDoor
open Go.RowKit
set_option linter.unusedVariables false

set_option maxRecDepth 100000 in
set_option maxHeartbeats 1600000 in
theorem spoil_one (B : Nat) (w : World) (C : Nat) (a : Option Addr) (cap : Nat) (bs : List UInt8) (s s1 s2 s3 : St) (t : ByteArray) (K : Nat) (b : Int) (c : UInt8) (hc : CurAt B w C a cap bs s) (ht : t.size ≤ 1000000) (hKt : K < t.size)
    (hk : belowF bs s t.size = ((K : Int), s1)) (hq : belowF bs s1 4 = (1, s2)) (hb : byteF bs s2 = (b, s3)) (hbc : b = (c.toNat : Int)) (b0 : 0 ≤ b) (b1 : b ≤ 255) :
    Calls Tryd.prog 43 #[.pointer (some ⟨C, 0, none⟩), .string t] w fun e w' => e = .returned (.string (t.extract 0 K ++ (⟨#[c]⟩ : ByteArray) ++ t.extract K t.size)) ∧ Drawn B w w' C a cap bs s3 := by
  have HC := Lib.hid hc
  have HK := Lib.hid hk
  have HQ := Lib.hid hq
  have HB := Lib.hid hb
  have HBC := Lib.hid hbc
  have hwb : IntKind.u8.wrap b = b := by rw [IntKind.wrap_u8']; omega
  have t0 : ((t.size : Int) == 0) = false := by rw [beq_eq_false_iff_ne]; omega
  clear hc hk hq hb hbc
  go_enter Tryd.func43, Tryd.ntmps43
  go_wp2_with fail
  refine (l1Below_at B _ C a cap bs s s1 t.size K HK.out HC.out).mono ?_
  rintro e w1 ⟨rfl, hd1⟩
  go_wp2_with fail
  refine (l1Below_at B _ C a cap bs s1 s2 4 1 HQ.out hd1.at_).mono ?_
  rintro e w2 ⟨rfl, hd2⟩
  go_wp2_with fail
  go_region_with (go_at_call 59; refine (l1Byte_at B _ C a cap bs s2 s3 b HB.out hd2.at_.drew).mono ?_; rintro e w3 ⟨rfl, hd3⟩; have hcv := conv_one (P := Tryd.prog) w3 22 9 5 Tryd.underlying22 Tryd.underlying5 Tryd.underlying9 b c HBC.out)
  all_goals
    go_wp2_with fail
    go_ret
    exact ⟨rfl, ((hd1.trans hd2).drew.trans hd3).alloc _⟩

end Go.Proofs.YthficfeiomddmaaDoor
