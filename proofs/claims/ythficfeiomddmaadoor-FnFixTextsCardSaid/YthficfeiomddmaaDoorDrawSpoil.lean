/-
  What is drawn: a text that is spoilt.
-/
import Derived.Test.YthficfeiomddmaaDoorDrawSpoilA
import Derived.Test.YthficfeiomddmaaDoorDrawSpoilB
namespace Go.Proofs.YthficfeiomddmaaDoor
open Go.RowKit
set_option linter.unusedVariables false

set_option maxRecDepth 100000 in
theorem l1Spoil_at (B : Nat) (w : World) (C : Nat) (a : Option Addr) (cap : Nat) (bs : List UInt8) (s s' : St) (t r : ByteArray) (hE : spoilF bs s t = (r, s')) (hc : CurAt B w C a cap bs s) (hB : B ≤ w.heap.size) (ht : t.size ≤ 1000000) :
    Calls Tryd.prog 43 #[.pointer (some ⟨C, 0, none⟩), .string t] w fun e w' => e = .returned (.string r) ∧ Drawn B w w' C a cap bs s' := by
  have HC := Lib.hid hc
  clear hc
  by_cases h0 : t.size = 0
  · rcases h1 : textF bs s 3 with ⟨l, s1⟩
    rw [spoilF, if_pos h0, h1] at hE
    simp only [Prod.mk.injEq] at hE
    have HE := Lib.hid hE
    have H1 := Lib.hid h1
    have t0 : ((t.size : Int) == 0) = true := by rw [h0]; rfl
    clear hE h1 h0
    go_enter Tryd.func43, Tryd.ntmps43
    go_wp2_with fail
    refine (l1Text_at B _ C a cap bs s s1 3 l H1.out HC.out hB (by omega) (by omega)).mono ?_
    rintro e w1 ⟨rfl, hd1⟩
    go_wp2_with fail
    go_ret
    rw [← HE.out.1, ← HE.out.2]
    exact ⟨rfl, hd1⟩
  · rcases hk : belowF bs s t.size with ⟨k, s1⟩
    rcases hq : belowF bs s1 4 with ⟨q, s2⟩
    obtain ⟨k0, k1⟩ := belowF_range hk (by omega)
    obtain ⟨q0, q1⟩ := belowF_range hq (by omega)
    obtain ⟨K, rfl⟩ : ∃ K : Nat, k = K := ⟨k.toNat, by omega⟩
    have hKt : K < t.size := by omega
    rw [spoilF, if_neg h0, hk] at hE
    simp only [hq, Int.toNat_natCast] at hE
    have HK := Lib.hid hk
    have HQ := Lib.hid hq
    have t0 : ((t.size : Int) == 0) = false := by rw [beq_eq_false_iff_ne]; omega
    clear hk hq
    by_cases e0 : q = 0
    · rw [if_pos e0] at hE
      simp only [Prod.mk.injEq] at hE
      have HE := Lib.hid hE
      subst e0
      clear hE
      go_enter Tryd.func43, Tryd.ntmps43
      go_wp2_with fail
      refine (l1Below_at B _ C a cap bs s s1 t.size K HK.out HC.out).mono ?_
      rintro e w1 ⟨rfl, hd1⟩
      go_wp2_with fail
      refine (l1Below_at B _ C a cap bs s1 s2 4 0 HQ.out hd1.at_).mono ?_
      rintro e w2 ⟨rfl, hd2⟩
      go_wp2_with fail
      go_quiet (fail)
      go_wp2_with fail
      go_ret
      rw [← HE.out.1, ← HE.out.2]
      exact ⟨rfl, (hd1.trans hd2).drewN _⟩
    · rw [if_neg e0] at hE
      by_cases e1 : q = 1
      · rw [if_pos e1] at hE
        rcases hb : byteF bs s2 with ⟨b, s3⟩
        obtain ⟨b0, b1⟩ := byteF_at hb
        rw [hb] at hE
        simp only [Prod.mk.injEq] at hE
        have hbc : b = ((UInt8.ofNat b.toNat).toNat : Int) := by rw [u8_ofNat_toNat _ (by omega)]; omega
        subst e1
        rw [← hE.1, ← hE.2]
        exact spoil_one B w C a cap bs s s1 s2 s3 t K b _ HC.out ht hKt HK.out HQ.out hb hbc b0 b1
      · rw [if_neg e1] at hE
        by_cases e2 : q = 2
        · rw [if_pos e2] at hE
          simp only [Prod.mk.injEq] at hE
          have HE := Lib.hid hE
          subst e2
          clear hE e0 e1
          go_enter Tryd.func43, Tryd.ntmps43
          go_wp2_with fail
          refine (l1Below_at B _ C a cap bs s s1 t.size K HK.out HC.out).mono ?_
          rintro e w1 ⟨rfl, hd1⟩
          go_wp2_with fail
          refine (l1Below_at B _ C a cap bs s1 s2 4 2 HQ.out hd1.at_).mono ?_
          rintro e w2 ⟨rfl, hd2⟩
          go_wp2_with fail
          go_ret
          rw [← HE.out.1, ← HE.out.2]
          exact ⟨rfl, hd1.trans hd2⟩
        · rw [if_neg e2] at hE
          rcases hx : belowF bs s2 255 with ⟨x, s3⟩
          rw [hx] at hE
          simp only [Prod.mk.injEq] at hE
          rw [← hE.1, ← hE.2]
          exact spoil_turn B w C a cap bs s s1 s2 s3 t K q x HC.out ht hKt HK.out HQ.out e0 e1 e2 hx
end Go.Proofs.YthficfeiomddmaaDoor
