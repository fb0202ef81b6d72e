import Derived.Test.YtkflinobmagiiaaProg
import Derived.Test.YtkflinobmagiiaaJoin6
import Derived.Outline
/-! YtkflinobmagiiaaFix -/
section

namespace Go.Proofs.Ytkflinobmagiiaa
open Go.RowKit
set_option linter.unusedVariables false

theorem fix_ret {a b : Int} (h : a = b) : Ending.returned (.int .i64 a) = .returned (.int .i64 b) := by rw [h]
theorem inRange_mid (x : Int) (w : World) (h0 : -2147483647 ≤ x) (h1 : x ≤ 2147483647) :
    Calls Try.prog 111 #[.int .i64 x] w fun e w' => e = .returned .nilIface ∧ w = w' := by
  go_enter Try.func111, Try.ntmps111
  go_wp2
  go_ret
  exact ⟨rfl, rfl⟩
theorem inRange_hi (x : Int) (w : World) (h0 : 2147483647 < x) :
    Calls Try.prog 111 #[.int .i64 x] w fun e w' => e = .returned (.iface 145 (.agg #[.int .i64 2147483647])) ∧ w = w' := by
  go_enter Try.func111, Try.ntmps111
  go_wp2
  go_ret
  exact ⟨rfl, rfl⟩
theorem inRange_lo (x : Int) (w : World) (h0 : x < -2147483647) :
    Calls Try.prog 111 #[.int .i64 x] w fun e w' => e = .returned (.iface 145 (.agg #[.int .i64 (-2147483647)])) ∧ w = w' := by
  go_enter Try.func111, Try.ntmps111
  go_wp2
  go_ret
  exact ⟨rfl, rfl⟩

def reluN (a : Int) : Int := if 0 < sat a then sat a else 0
def okB (x : Int) : Bool := inB (-2147483647) 2147483647 x
theorem okB_yes {x : Int} (h0 : -2147483647 ≤ x) (h1 : x ≤ 2147483647) : okB x = true := inB_yes h0 h1
theorem okB_no {x : Int} (h : x < -2147483647 ∨ 2147483647 < x) : okB x = false := inB_no h
theorem implFixOk_any (x : Int) (w : World) :
    Calls Try.prog 110 #[.int .i64 x] w fun e w' => e = .returned (.bool (okB x)) ∧ w = w' := by
  by_cases h1 : 2147483647 < x
  · have HS := Lib.hid (okB_no (Or.inr h1))
    go_enter Try.func110, Try.ntmps110
    go_wp2_with fail
    refine (inRange_hi x _ h1).mono ?_
    rintro e w' ⟨rfl, rfl⟩
    go_wp2_with fail
    go_ret
    exact ⟨by rw [HS.out] <;> rfl, rfl⟩
  · by_cases h2 : x < -2147483647
    · have HS := Lib.hid (okB_no (Or.inl h2))
      go_enter Try.func110, Try.ntmps110
      go_wp2_with fail
      refine (inRange_lo x _ h2).mono ?_
      rintro e w' ⟨rfl, rfl⟩
      go_wp2_with fail
      go_ret
      exact ⟨by rw [HS.out] <;> rfl, rfl⟩
    · have g1 : -2147483647 ≤ x := by omega
      have g2 : x ≤ 2147483647 := by omega
      have HS := Lib.hid (okB_yes g1 g2)
      clear h1 h2
      go_enter Try.func110, Try.ntmps110
      go_wp2_with fail
      refine (inRange_mid x _ g1 g2).mono ?_
      rintro e w' ⟨rfl, rfl⟩
      go_wp2_with fail
      go_ret
      exact ⟨by rw [HS.out] <;> rfl, rfl⟩
end Go.Proofs.Ytkflinobmagiiaa

end

/-! YtkflinobmagiiaaDrawNum -/
section

namespace Go.Proofs.Ytkflinobmagiiaa
open Go.RowKit
set_option linter.unusedVariables false

theorem tdiv_abs {x y : Int} (h0 : 1 ≤ y) {m : Int} (hx0 : -m ≤ x) (hx1 : x ≤ m) : -m ≤ x.tdiv y ∧ x.tdiv y ≤ m := by
  have h : (x.tdiv y).natAbs = x.natAbs / y.natAbs := Int.natAbs_tdiv x y
  have h1 : x.natAbs / y.natAbs ≤ x.natAbs := Nat.div_le_self _ _
  generalize x.natAbs / y.natAbs = q at h h1
  generalize x.tdiv y = z at h ⊢
  omega

set_option maxRecDepth 100000 in
theorem l2Fix_e (B : Nat) (w : World) (C : Nat) (hc : Cu B w C) :
    Calls Try.prog 104 #[.pointer (some ⟨C, 0, none⟩)] w (DrewI (fun x => -2147483647 ≤ x ∧ x ≤ 2147483647) B w C) := by
  have HC := Lib.hid hc
  clear hc
  go_enter Try.func104, Try.ntmps104
  go_wp2_with fail
  refine (l1Below_e B _ C 12 (by omega) HC.out).mono ?_
  rintro e w1 ⟨k, rfl, ⟨k0, k1⟩, ht1⟩
  have hlt1 := ht1.cu.lt
  by_cases e0 : k = 0
  · subst e0
    go_wp2_with fail
    refine (l1PickInt_e B _ C w1.heap.size 6 [2147483647, -2147483647, 2147483646, 1, -1, 0] (fun x => -2147483647 ≤ x ∧ x ≤ 2147483647) rfl (by omega) (by omega) (by decide) (ht1.cu.alloc _) (by omega) (fun j hj => ints_cells w1 _ _ j hj)).mono ?_
    rintro e w2 ⟨x, rfl, hx, ht2⟩
    go_wp2_with fail
    go_ret
    exact ⟨x, rfl, hx, (ht1.alloc _).trans ht2⟩
  · have t0 : (k == 0) = false := by simpa using e0
    by_cases e1 : k = 1
    · subst e1
      go_wp2_with fail
      refine (l1Below_e B _ C 4000 (by omega) ht1.cu).mono ?_
      rintro e w2 ⟨x, rfl, ⟨x0, x1⟩, ht2⟩
      go_wp2_with fail
      go_ret
      exact ⟨_, rfl, ⟨by omega, by omega⟩, ht1.trans ht2⟩
    · have t1 : (k == 1) = false := by simpa using e1
      by_cases e2 : k = 2
      · subst e2
        go_wp2_with fail
        refine (l1Below_e B _ C 9 (by omega) ht1.cu).mono ?_
        rintro e w2 ⟨x, rfl, ⟨x0, x1⟩, ht2⟩
        go_wp2_with fail
        go_ret
        exact ⟨_, rfl, ⟨by omega, by omega⟩, ht1.trans ht2⟩
      · have t2 : (k == 2) = false := by simpa using e2
        clear e0 e1 e2
        go_wp2_with fail
        refine (l1Below_e B _ C 17 (by omega) ht1.cu).mono ?_
        rintro e w2 ⟨x, rfl, ⟨x0, x1⟩, ht2⟩
        have ht12 := ht1.trans ht2
        have hlt2 := ht12.cu.lt
        go_wp2_with fail
        refine (l1PickInt_e B _ C w2.heap.size 5 [1, 1, 2, 4, 3] (fun x => 1 ≤ x ∧ x ≤ 4) rfl (by omega) (by omega) (by decide) (ht12.cu.alloc _) (by omega) (fun j hj => ints_cells w2 _ _ j hj)).mono ?_
        rintro e w3 ⟨y, rfl, ⟨y0, y1⟩, ht3⟩
        have hq := tdiv_abs (x := (x - 8) * 65536) y0 (m := 524288) (by omega) (by omega)
        have hy : (y == 0) = false := by rw [beq_eq_false_iff_ne]; omega
        have HQ := Lib.hid hq
        have HW := Lib.hid (IntWalk.wrap64_in (((x - 8) * 65536).tdiv y) (by omega))
        clear hq
        go_wp2_with fail
        go_ret
        refine ⟨((x - 8) * 65536).tdiv y, ?_, ⟨by have := HQ.out; omega, by have := HQ.out; omega⟩, (ht12.alloc _).trans ht3⟩
        first | rfl | exact fix_ret HW.out

set_option maxRecDepth 100000 in
theorem l2Raw_e (B : Nat) (w : World) (C : Nat) (hc : Cu B w C) :
    Calls Try.prog 101 #[.pointer (some ⟨C, 0, none⟩)] w (DrewI (fun x => -9223372036854775808 ≤ x ∧ x ≤ 9223372036854775807) B w C) := by
  have HC := Lib.hid hc
  clear hc
  go_enter Try.func101, Try.ntmps101
  go_wp2_with fail
  refine (l1Once_e B _ C 8 HC.out).mono ?_
  rintro e w1 ⟨k, rfl, ht1⟩
  have hlt1 := ht1.cu.lt
  cases k
  · go_wp2_with fail
    refine (l2Fix_e B _ C ht1.cu).mono ?_
    rintro e w2 ⟨x, rfl, ⟨x0, x1⟩, ht2⟩
    go_wp2_with fail
    go_ret
    exact ⟨_, rfl, ⟨by omega, by omega⟩, ht1.trans ht2⟩
  · go_wp2_with fail
    refine (l1PickInt_e B _ C w1.heap.size 4 [2147483648, -2147483648, 9223372036854775807, -9223372036854775807] (fun x => -9223372036854775808 ≤ x ∧ x ≤ 9223372036854775807) rfl (by omega) (by omega) (by decide) (ht1.cu.alloc _) (by omega) (fun j hj => ints_cells w1 _ _ j hj)).mono ?_
    rintro e w2 ⟨x, rfl, hx, ht2⟩
    go_wp2_with fail
    go_ret
    exact ⟨x, rfl, hx, (ht1.alloc _).trans ht2⟩
end Go.Proofs.Ytkflinobmagiiaa

end
