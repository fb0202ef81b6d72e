/-
  The contract of spec.ReadDec.
-/
import Derived.Test.YthficfeiomddmaaDoorProg
import Derived.Test.YthficfeiomddmaaDoorBytes
import Derived.Test.YthficfeiomddmaaDoorReadFixed
import Derived.Test.YthficfeiomddmaaDoorReadDecM
import Derived.Test.YthficfeiomddmaaDoorDec
import Derived.Lib.Hide
import Derived.WalkSpells
import Derived.WalkLawsBesides
namespace Go.Proofs.YthficfeiomddmaaDoor
open Go.RowKit
set_option linter.unusedVariables false

/-- What ReadDec tells. -/
def rsN (s : ByteArray) : Int := (rdO s.data.toList).getD 0
def rsB (s : ByteArray) : Bool := (rdO s.data.toList).isSome
theorem rs_some {s : ByteArray} {n : Int} (h : rdO s.data.toList = some n) : rsN s = n ∧ rsB s = true := by simp [rsN, rsB, h]
theorem rs_none {s : ByteArray} (h : rdO s.data.toList = none) : rsN s = 0 ∧ rsB s = false := by simp [rsN, rsB, h]
theorem dval_lt (l : List UInt8) : dval 0 l < 10 ^ l.length := by
  have h : ∀ (l : List UInt8) (a k : Nat), a < 10 ^ k → dval a l < 10 ^ (k + l.length) := by
    intro l
    induction l with
    | nil => intro a k h; simpa [dval] using h
    | cons c t ih =>
      intro a k h
      have hk : 10 ^ k ≤ 10 ^ (k + 1) := Nat.pow_le_pow_right (by omega) (by omega)
      have e : k + (c :: t).length = (k + 1) + t.length := by simp; omega
      rw [e, dval]
      split
      · rename_i hc
        refine ih _ _ ?_
        have := hc.2
        rw [Nat.pow_succ]
        omega
      · exact ih _ _ (by omega)
  have := h l 0 0 (by simp)
  simpa using this
theorem dval_take (l : List UInt8) (k : Nat) (h : k < l.length) : dval 0 (l.take (k + 1)) = if isD (l.getD k 0) then dval 0 (l.take k) * 10 + ((l.getD k 0).toNat - 48) else dval 0 (l.take k) := by
  have e : l.getD k 0 = l[k] := by simp [List.getD, h]
  rw [List.take_succ_eq_append_getElem h, dval_append, e, dval]
  split <;> rfl
theorem dcnt_take (l : List UInt8) (k : Nat) (h : k < l.length) : dcnt (l.take (k + 1)) = if isD (l.getD k 0) then dcnt (l.take k) + 1 else dcnt (l.take k) := by
  have e : l.getD k 0 = l[k] := by simp [List.getD, h]
  rw [List.take_succ_eq_append_getElem h, dcnt_append, e, dcnt]
  split <;> rfl
theorem dval_take_lt (l : List UInt8) (k : Nat) (h : k ≤ 11) : dval 0 (l.take k) < 100000000000 := by
  have h1 := dval_lt (l.take k)
  have h2 : 10 ^ (l.take k).length ≤ 10 ^ 11 := Nat.pow_le_pow_right (by omega) (Nat.le_trans (List.length_take_le _ _) h)
  have h3 : 10 ^ 11 = 100000000000 := by decide
  omega
/-- The three ways to end. -/
theorem rs_many {l : List UInt8} {j : Nat} (hj : j = l.length ∨ j = 11) (h : 9 < dcnt (l.take j)) : rdO l = none := rdO_not fun n hn hb => by
  have h10 := itoa_length10 hb
  have hc := (dcnt_itoa n).2 hb
  rw [hn] at h10 hc
  rw [List.take_of_length_le (by omega)] at h
  omega
theorem rs_long {l : List UInt8} (h : 10 < l.length) : rdO l = none := rdO_not fun n hn hb => by
  have h10 := itoa_length10 hb
  rw [hn] at h10
  omega
theorem rs_yes {l : List UInt8} {j : Nat} (hj : j = l.length ∨ j = 11) (h : ¬ 9 < dcnt (l.take j)) (h10 : ¬ 10 < l.length) (he : Lib.itoa (pD l) = l) : rdO l = some (pD l) := by
  rw [List.take_of_length_le (by omega)] at h
  exact rdO_of he ((dcnt_itoa (pD l)).1 (by rw [he]; omega))
theorem rs_no {l : List UInt8} (he : Lib.itoa (pD l) ≠ l) : rdO l = none := rdO_none fun h => he h.1
theorem pD_neg {l : List UInt8} {j a : Nat} (hj : j = l.length ∨ j = 11) (h10 : ¬ 10 < l.length) (h : l.head? = some 45) (ha : a = dval 0 (l.take j)) : pD l = -(a : Int) := by
  rw [List.take_of_length_le (by omega)] at ha
  rw [pD, if_pos h, ha]
theorem pD_pos {l : List UInt8} {j a : Nat} (hj : j = l.length ∨ j = 11) (h10 : ¬ 10 < l.length) (h : ¬ l.head? = some 45) (ha : a = dval 0 (l.take j)) : pD l = (a : Int) := by
  rw [List.take_of_length_le (by omega)] at ha
  rw [pD, if_neg h, ha]
theorem head45 {s : ByteArray} (h : 0 < s.size) : s.data.toList.head? = some 45 ↔ s[0].toNat = 45 := by
  have hl : 0 < s.data.toList.length := by simpa using h
  have e1 : s.data.toList.head? = some s[0] := by
    rw [List.head?_eq_getElem?, List.getElem?_eq_getElem hl]
    rfl
  rw [e1, Option.some.injEq]
  constructor
  · intro h; rw [h]; rfl
  · intro h; exact UInt8.toNat_inj.1 h

theorem dsum (a D : Nat) (h : 48 ≤ D) : Value.int .i64 ((a : Int) * 10 + ((D : Int) - 48)) = Value.int .i64 ((a * 10 + (D - 48) : Nat) : Int) := by
  have e : ((D - 48 : Nat) : Int) = (D : Int) - 48 := by omega
  rw [Int.natCast_add, Int.natCast_mul, e]
  rfl

set_option maxRecDepth 100000 in
theorem specReadDec_any (s : ByteArray) (w : World) (hs : s.size ≤ 281474976710656) :
    Calls Tryd.prog 49 #[.string s] w fun e w' => e = .returned (.tuple #[.int .i64 (rsN s), .bool (rsB s)]) ∧ Below w.heap.size w w' := by
  have hll : s.data.toList.length = s.size := by simp
  have HLL := Lib.hid hll
  have hsl : s.toList = s.data.toList := Lib.toList_data s
  have HSL := Lib.hid hsl
  clear hll hsl
  go_enter Tryd.func49, Tryd.ntmps49
  go_wp2
  go_loop [4, 5, 6] (fun n c i => ∃ j a k : Nat, j ≤ s.size ∧ j ≤ 11 ∧ a < 100000000000 ∧ k ≤ j ∧ Hid (a = dval 0 (s.data.toList.take j)) ∧ Hid (k = dcnt (s.data.toList.take j)) ∧ n = .int .i64 a ∧ c = .int .i64 k ∧ i = .int .i64 j) (fun _ _ i => 11 - (intOf i).toNat)
  case atStart => exact ⟨0, 0, 0, Nat.zero_le _, by omega, by omega, by omega, Lib.hid (by simp [dval]), Lib.hid (by simp [dcnt]), rfl, rfl, rfl⟩
  case round =>
    obtain ⟨j, a, k, hj, hj11, ha11, hkj, ha, hk, rfl, rfl, rfl⟩ := hrel
    by_cases hlt : j < s.size ∧ j < 11
    · obtain ⟨hl1, hl2⟩ := hlt
      have hb8 : (s[j].toNat : Int) < 256 := by have := s[j].toNat_lt; omega
      have hV := Lib.hid (dval_take s.data.toList j (by rw [HLL.out]; exact hl1))
      have hC := Lib.hid (dcnt_take s.data.toList j (by rw [HLL.out]; exact hl1))
      rw [str_getD s j hl1, ← ha.out] at hV
      rw [str_getD s j hl1, ← hk.out] at hC
      by_cases hd : isD s[j]
      · have hV1 := Lib.hid (hV.out.trans (if_pos hd))
        have hC1 := Lib.hid (hC.out.trans (if_pos hd))
        have hlt := dval_take_lt s.data.toList (j + 1) (by omega)
        rw [hV1.out] at hlt
        have hd1 : 48 ≤ (s[j].toNat : Int) := by have := hd.1; omega
        have hd2 : (s[j].toNat : Int) ≤ 57 := by have := hd.2; omega
        clear hd hV hC
        go_wp2
        go_round
        case rel => exact ⟨j + 1, _, k + 1, by omega, by omega, hlt, by omega, Lib.hid hV1.out.symm, Lib.hid hC1.out.symm, dsum a s[j].toNat (by omega), by go_num, by go_num⟩
        case measure => simp [intOf]; omega
      · have hV1 := Lib.hid (hV.out.trans (if_neg hd))
        have hC1 := Lib.hid (hC.out.trans (if_neg hd))
        by_cases hd1 : 48 ≤ (s[j].toNat : Int)
        · have hd2 : 57 < (s[j].toNat : Int) := by
            refine Int.lt_of_not_ge fun h => hd ⟨by omega, by omega⟩
          have hdd : decide ((s[j].toNat : Int) ≤ 57) = false := by simp; omega
          clear hd hV hC
          go_wp2
          go_round
          case rel => exact ⟨j + 1, a, k, by omega, by omega, ha11, by omega, Lib.hid hV1.out.symm, Lib.hid hC1.out.symm, rfl, rfl, by go_num⟩
          case measure => simp [intOf]; omega
        · clear hd hV hC
          go_wp2
          go_round
          case rel => exact ⟨j + 1, a, k, by omega, by omega, ha11, by omega, Lib.hid hV1.out.symm, Lib.hid hC1.out.symm, rfl, rfl, by go_num⟩
          case measure => simp [intOf]; omega
    · have hend : j = s.data.toList.length ∨ j = 11 := by rw [HLL.out]; omega
      have HE := Lib.hid hend
      clear hend hlt
      by_cases hex : j < s.size
      · have hj11' : j = 11 := by have := HE.out; rw [HLL.out] at this; omega
        have hd11 : decide ((j : Int) < 11) = false := by simp; omega
        have h0 : 0 < s.size := by omega
        have hs12 : 11 < s.size := by omega
        clear hj11'
        have h45 := Lib.hid (head45 (s := s) h0)
        by_cases hn : s[0].toNat = 45
        · have ht45 : ((s[0].toNat : Int) == 45) = true := by simp; omega
          have hneg := Lib.hid (h45.out.2 hn)
          clear hn
          by_cases h9 : 9 < k
          · have HR := Lib.hid (rs_none (s := s) (rs_many HE.out (by rw [← hk.out]; exact h9)))
            go_wp2_with fail
            go_ret2
            exact ⟨by rw [HR.out.1, HR.out.2]; rfl, Below.refl _ _⟩
          · have hk9 : decide (9 < (k : Int)) = false := by simp; omega
            have HR := Lib.hid (rs_none (s := s) (rs_long (by rw [HLL.out]; omega)))
            have h10 : 10 < s.size := by omega
            go_wp2_with fail
            go_ret2
            exact ⟨by rw [HR.out.1, HR.out.2]; rfl, Below.refl _ _⟩
        · have ht45 : ((s[0].toNat : Int) == 45) = false := by simp; omega
          have hneg := Lib.hid (fun h => hn (h45.out.1 h))
          clear hn
          by_cases h9 : 9 < k
          · have HR := Lib.hid (rs_none (s := s) (rs_many HE.out (by rw [← hk.out]; exact h9)))
            go_wp2_with fail
            go_ret2
            exact ⟨by rw [HR.out.1, HR.out.2]; rfl, Below.refl _ _⟩
          · have hk9 : decide (9 < (k : Int)) = false := by simp; omega
            have HR := Lib.hid (rs_none (s := s) (rs_long (by rw [HLL.out]; omega)))
            have h10 : 10 < s.size := by omega
            go_wp2_with fail
            go_ret2
            exact ⟨by rw [HR.out.1, HR.out.2]; rfl, Below.refl _ _⟩
      · have hdj : decide (j < s.size) = false := by simpa using hex
        by_cases h0 : 0 < s.size
        · skip
          have h45 := Lib.hid (head45 (s := s) h0)
          by_cases hn : s[0].toNat = 45
          · have ht45 : ((s[0].toNat : Int) == 45) = true := by simp; omega
            have hneg := Lib.hid (h45.out.2 hn)
            clear hn
            by_cases h9 : 9 < k
            · have HR := Lib.hid (rs_none (s := s) (rs_many HE.out (by rw [← hk.out]; exact h9)))
              go_wp2_with fail
              go_ret2
              exact ⟨by rw [HR.out.1, HR.out.2]; rfl, Below.refl _ _⟩
            · have hk9 : decide (9 < (k : Int)) = false := by simp; omega
              by_cases h10 : 10 < s.size
              · have HR := Lib.hid (rs_none (s := s) (rs_long (by rw [HLL.out]; exact h10)))
                go_wp2_with fail
                go_ret2
                exact ⟨by rw [HR.out.1, HR.out.2]; rfl, Below.refl _ _⟩
              · have hs10 : decide (10 < (s.size : Int)) = false := by simp; omega
                have HP : Hid (pD s.data.toList = (-(a : Int))) := Lib.hid (pD_neg HE.out (by rw [HLL.out]; exact h10) hneg.out ha.out)
                by_cases he : Lib.itoa (-(a : Int)) = s.data.toList
                · have HR := Lib.hid (rs_some (s := s) (rs_yes HE.out (by rw [← hk.out]; exact h9) (by rw [HLL.out]; exact h10) (by rw [HP.out]; exact he)))
                  rw [HP.out] at HR
                  have htest : (Lib.itoa (-(a : Int)) == s.toList) = true := by rw [HSL.out, he]; simp
                  clear he
                  go_wp2_with (go_at_call 48; refine (specDec_any _ _ (by omega) (by omega)).mono ?_; rintro e w1 ⟨rfl, hb1⟩)
                  go_ret2
                  exact ⟨by rw [HR.out.1, HR.out.2]; rfl, hb1⟩
                · have HR := Lib.hid (rs_none (s := s) (rs_no (by rw [HP.out]; exact he)))
                  have htest : (Lib.itoa (-(a : Int)) == s.toList) = false := by rw [HSL.out]; simpa using he
                  clear he
                  go_wp2_with (go_at_call 48; refine (specDec_any _ _ (by omega) (by omega)).mono ?_; rintro e w1 ⟨rfl, hb1⟩)
                  go_ret2
                  exact ⟨by rw [HR.out.1, HR.out.2]; rfl, hb1⟩
          · have ht45 : ((s[0].toNat : Int) == 45) = false := by simp; omega
            have hneg := Lib.hid (fun h => hn (h45.out.1 h))
            clear hn
            by_cases h9 : 9 < k
            · have HR := Lib.hid (rs_none (s := s) (rs_many HE.out (by rw [← hk.out]; exact h9)))
              go_wp2_with fail
              go_ret2
              exact ⟨by rw [HR.out.1, HR.out.2]; rfl, Below.refl _ _⟩
            · have hk9 : decide (9 < (k : Int)) = false := by simp; omega
              by_cases h10 : 10 < s.size
              · have HR := Lib.hid (rs_none (s := s) (rs_long (by rw [HLL.out]; exact h10)))
                go_wp2_with fail
                go_ret2
                exact ⟨by rw [HR.out.1, HR.out.2]; rfl, Below.refl _ _⟩
              · have hs10 : decide (10 < (s.size : Int)) = false := by simp; omega
                have HP : Hid (pD s.data.toList = (a : Int)) := Lib.hid (pD_pos HE.out (by rw [HLL.out]; exact h10) hneg.out ha.out)
                by_cases he : Lib.itoa (a : Int) = s.data.toList
                · have HR := Lib.hid (rs_some (s := s) (rs_yes HE.out (by rw [← hk.out]; exact h9) (by rw [HLL.out]; exact h10) (by rw [HP.out]; exact he)))
                  rw [HP.out] at HR
                  have htest : (Lib.itoa (a : Int) == s.toList) = true := by rw [HSL.out, he]; simp
                  clear he
                  go_wp2_with (go_at_call 48; refine (specDec_any _ _ (by omega) (by omega)).mono ?_; rintro e w1 ⟨rfl, hb1⟩)
                  go_ret2
                  exact ⟨by rw [HR.out.1, HR.out.2]; rfl, hb1⟩
                · have HR := Lib.hid (rs_none (s := s) (rs_no (by rw [HP.out]; exact he)))
                  have htest : (Lib.itoa (a : Int) == s.toList) = false := by rw [HSL.out]; simpa using he
                  clear he
                  go_wp2_with (go_at_call 48; refine (specDec_any _ _ (by omega) (by omega)).mono ?_; rintro e w1 ⟨rfl, hb1⟩)
                  go_ret2
                  exact ⟨by rw [HR.out.1, HR.out.2]; rfl, hb1⟩
        · have hneg : Hid (¬ s.data.toList.head? = some 45) := Lib.hid (by
            have e : s.data.toList = [] := List.eq_nil_of_length_eq_zero (by rw [HLL.out]; omega)
            rw [e]; simp)
          have hd0 : decide (0 < s.size) = false := by simpa using h0
          by_cases h9 : 9 < k
          · exfalso; omega
          · have hk9 : decide (9 < (k : Int)) = false := by simp; omega
            by_cases h10 : 10 < s.size
            · exfalso; omega
            · have hs10 : decide (10 < (s.size : Int)) = false := by simp; omega
              have HP : Hid (pD s.data.toList = (a : Int)) := Lib.hid (pD_pos HE.out (by rw [HLL.out]; exact h10) hneg.out ha.out)
              by_cases he : Lib.itoa (a : Int) = s.data.toList
              · have HR := Lib.hid (rs_some (s := s) (rs_yes HE.out (by rw [← hk.out]; exact h9) (by rw [HLL.out]; exact h10) (by rw [HP.out]; exact he)))
                rw [HP.out] at HR
                have htest : (Lib.itoa (a : Int) == s.toList) = true := by rw [HSL.out, he]; simp
                clear he
                go_wp2_with (go_at_call 48; refine (specDec_any _ _ (by omega) (by omega)).mono ?_; rintro e w1 ⟨rfl, hb1⟩)
                go_ret2
                exact ⟨by rw [HR.out.1, HR.out.2]; rfl, hb1⟩
              · have HR := Lib.hid (rs_none (s := s) (rs_no (by rw [HP.out]; exact he)))
                have htest : (Lib.itoa (a : Int) == s.toList) = false := by rw [HSL.out]; simpa using he
                clear he
                go_wp2_with (go_at_call 48; refine (specDec_any _ _ (by omega) (by omega)).mono ?_; rintro e w1 ⟨rfl, hb1⟩)
                go_ret2
                exact ⟨by rw [HR.out.1, HR.out.2]; rfl, hb1⟩
end Go.Proofs.YthficfeiomddmaaDoor
