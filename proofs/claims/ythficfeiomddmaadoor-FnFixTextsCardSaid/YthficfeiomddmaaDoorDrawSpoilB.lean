/-
  What is drawn: a text that is spoilt (a byte turned).
-/
import Derived.Test.YthficfeiomddmaaDoorDrawSpoilM
namespace Go.Proofs.YthficfeiomddmaaDoor
open Go.RowKit
set_option linter.unusedVariables false

set_option maxRecDepth 100000 in
set_option maxHeartbeats 1600000 in
theorem spoil_turn (B : Nat) (w : World) (C : Nat) (a : Option Addr) (cap : Nat) (bs : List UInt8) (s s1 s2 s3 : St) (t : ByteArray) (K : Nat) (q x : Int) (hc : CurAt B w C a cap bs s) (ht : t.size ≤ 1000000) (hKt : K < t.size)
    (hk : belowF bs s t.size = ((K : Int), s1)) (hq : belowF bs s1 4 = (q, s2)) (q0 : q ≠ 0) (q1 : q ≠ 1) (q2 : q ≠ 2) (hx : belowF bs s2 255 = (x, s3)) :
    Calls Tryd.prog 43 #[.pointer (some ⟨C, 0, none⟩), .string t] w fun e w' => e = .returned (.string (t.extract 0 K ++ (⟨#[UInt8.ofNat (bits .xor .i64 ((t.data.toList.getD K 0).toNat : Int) (1 + x) % 256).toNat]⟩ : ByteArray) ++ t.extract (K + 1) t.size)) ∧ Drawn B w w' C a cap bs s3 := by
  obtain ⟨x0, x1⟩ := belowF_range hx (by omega)
  have hg : t.data.toList.getD K 0 = t[K] := by
    have h' : K < t.data.size := hKt
    rw [List.getD, List.getElem?_eq_getElem (by simpa using h')]
    rfl
  rw [hg]
  have hb8 : (t[K].toNat : Int) < 256 := by have := t[K].toNat_lt; omega
  obtain ⟨Z, hZ⟩ : ∃ Z, bits .xor .i64 (t[K].toNat : Int) (1 + x) = Z := ⟨_, rfl⟩
  obtain ⟨c, hcE⟩ : ∃ c, c = UInt8.ofNat (Z % 256).toNat := ⟨_, rfl⟩
  have hbc : Z % 256 = (c.toNat : Int) := by rw [hcE, u8_ofNat_toNat _ (by omega)]; omega
  rw [hZ, ← hcE]
  have HC := Lib.hid hc
  have HK := Lib.hid hk
  have HQ := Lib.hid hq
  have HX := Lib.hid hx
  have HBC := Lib.hid hbc
  have w1 : IntKind.i64.wrap (t[K].toNat : Int) = (t[K].toNat : Int) := IntWalk.i64_in _ (by omega)
  have w2 : IntKind.i64.wrap (1 + x) = 1 + x := IntWalk.i64_in _ (by omega)
  obtain ⟨Y, hY⟩ : ∃ Y, IntKind.u8.wrap Z = Y := ⟨_, rfl⟩
  have hYc : Y = (c.toNat : Int) := by rw [← hY]; exact u8wrap hbc
  have HYC := Lib.hid hYc
  have t0 : ((t.size : Int) == 0) = false := by rw [beq_eq_false_iff_ne]; omega
  have tq0 : (q == 0) = false := by simpa using q0
  have tq1 : (q == 1) = false := by simpa using q1
  have tq2 : (q == 2) = false := by simpa using q2
  clear hc hk hq hx hcE hbc hg q0 q1 q2 hYc
  have k1 : IntKind.i64.wrap ((K : Int) + 1) = (K : Int) + 1 := IntWalk.i64_in _ (by omega)
  have k2 : (0 : Int) ≤ (K : Int) + 1 := by omega
  have k3 : ((K : Int) + 1).toNat = K + 1 := by omega
  have k4 : (K : Int) + 1 ≤ (t.size : Int) := by omega
  go_enter Tryd.func43, Tryd.ntmps43
  go_wp2_with fail
  refine (l1Below_at B _ C a cap bs s s1 t.size K HK.out HC.out).mono ?_
  rintro e v1 ⟨rfl, hd1⟩
  go_wp2_with fail
  refine (l1Below_at B _ C a cap bs s1 s2 4 q HQ.out hd1.at_).mono ?_
  rintro e v2 ⟨rfl, hd2⟩
  go_wp2_with fail
  go_region_with (go_at_call 42; refine (l1Below_at B _ C a cap bs s2 s3 255 x HX.out hd2.at_.drew).mono ?_; rintro e v3 ⟨rfl, hd3⟩; have hcv := conv_one (P := Tryd.prog) v3 22 9 5 Tryd.underlying22 Tryd.underlying5 Tryd.underlying9 Y c HYC.out)
  all_goals
    go_wp2_with fail
    go_ret
    exact ⟨rfl, ((hd1.trans hd2).drew.trans hd3).alloc _⟩

end Go.Proofs.YthficfeiomddmaaDoor
