/-
  The contracts of spec.ReadFixed and impl.ReadFixed.
-/
import Derived.Test.YtehlbloalfclcaaDoorProg
import Derived.Test.YtehlbloalfclcaaDoorBytes
import Derived.Test.YtehlbloalfclcaaDoorFixM
import Derived.Test.YtehlbloalfclcaaDoorFixed
import Derived.Lib.Hide
import Derived.WalkSpells
import Derived.WalkLawsBesides
namespace Go.Proofs.YtehlbloalfclcaaDoor
open Go.RowKit
set_option linter.unusedVariables false

/-- The number of the first k bytes, the highest first. -/
def numL (l : List UInt8) : Nat → Nat
  | 0 => 0
  | k + 1 => numL l k * 256 + (l.getD k 0).toNat
theorem numL_lt (l : List UInt8) (k : Nat) : numL l k < 256 ^ k := by
  induction k with
  | zero => simp [numL]
  | succ k ih =>
    have h := (l.getD k 0).toNat_lt
    simp only [numL, Nat.pow_succ]
    omega
theorem numL_le {l : List UInt8} {k : Nat} (h : k ≤ 7) : numL l k < 72057594037927936 := by
  have h1 := numL_lt l k
  have h2 : 256 ^ k ≤ 256 ^ 7 := Nat.pow_le_pow_right (by omega) h
  have h3 : 256 ^ 7 = 72057594037927936 := by decide
  omega
theorem numL_le6 {l : List UInt8} {k : Nat} (h : k < 7) : numL l k < 281474976710656 := by
  have h1 := numL_lt l k
  have h2 : 256 ^ k ≤ 256 ^ 6 := Nat.pow_le_pow_right (by omega) (by omega)
  have h3 : 256 ^ 6 = 281474976710656 := by decide
  omega

theorem str_getD (s : ByteArray) (k : Nat) (h : k < s.size) : s.data.toList.getD k 0 = s[k] := by
  have h' : k < s.data.size := h
  rw [List.getD, List.getElem?_eq_getElem (by simpa using h')]
  rfl

theorem implReadFixed_yes (s : ByteArray) (W : Nat) (w : World) (hs : s.size ≤ 9223372036854775807) (h4 : 1 ≤ W) (h5 : W ≤ 7) (h6 : W ≤ s.size) :
    Calls Tryd.prog 12 #[.string s, .int .i64 W] w fun e w' => e = .returned (.tuple #[.int .i64 (numL s.data.toList W), .bool true]) ∧ w = w' := by
  have hd : decide (s.size < W) = false := by simpa using h6
  have g4 : 1 ≤ (W : Int) := by omega
  have g5 : (W : Int) ≤ 7 := by omega
  go_enter Tryd.func12, Tryd.ntmps12
  go_wp2_with (go_at_call 24; refine (widthOk_yes _ _ g4 g5).mono ?_; rintro e w' ⟨rfl, rfl⟩)
  go_loop [6, 7] (fun n i => ∃ k m : Nat, k ≤ W ∧ Hid (m = numL s.data.toList k) ∧ n = .int .i64 m ∧ i = .int .i64 k) (fun _ i => W - (intOf i).toNat)
  case atStart => exact ⟨0, 0, Nat.zero_le _, Lib.hid rfl, rfl, rfl⟩
  case round =>
    obtain ⟨k, m, hk, hm, rfl, rfl⟩ := hrel
    by_cases hlt : k < W
    · have hm6 : m < 281474976710656 := by rw [hm.out]; exact numL_le6 (by omega)
      have hks : k < s.size := by omega
      have hb : (s[k].toNat : Int) < 256 := by have := s[k].toNat_lt; omega
      have hor : bits .or .i64 ((m : Int) * 256) (s[k].toNat : Int) = (m : Int) * 256 + (s[k].toNat : Int) := i64_join 8 (by omega) _ _ (by omega) (by omega) (by omega) (by omega) (by omega)
      have HE : Hid (numL s.data.toList (k + 1) = m * 256 + s[k].toNat) := by
        rw [hm.out, numL]
        rw [str_getD s k hks]
        exact Lib.hid rfl
      go_wp2
      go_round
      case rel => exact ⟨k + 1, m * 256 + s[k].toNat, by omega, Lib.hid HE.out.symm, by go_num, by go_num⟩
      case measure => simp [intOf]; omega
    · obtain rfl : k = W := by omega
      go_wp2
      go_ret2
      exact ⟨by rw [← hm.out]; rfl, rfl⟩

theorem implReadFixed_no (s : ByteArray) (width : Int) (w : World) (hs : s.size ≤ 9223372036854775807) (h : width < 1 ∨ 7 < width ∨ (s.size : Int) < width) :
    Calls Tryd.prog 12 #[.string s, .int .i64 width] w fun e w' => e = .returned (.tuple #[.int .i64 0, .bool false]) ∧ w = w' := by
  by_cases h1 : width < 1 ∨ 7 < width
  · go_enter Tryd.func12, Tryd.ntmps12
    go_wp2_with (go_at_call 24; refine (widthOk_no _ _ h1).mono ?_; rintro e w' ⟨rfl, rfl⟩)
    go_ret2
    exact ⟨rfl, rfl⟩
  · have h3 : (s.size : Int) < width := by omega
    have h4 : 1 ≤ width := by omega
    have h5 : width ≤ 7 := by omega
    clear h h1
    go_enter Tryd.func12, Tryd.ntmps12
    go_wp2_with (go_at_call 24; refine (widthOk_yes _ _ h4 h5).mono ?_; rintro e w' ⟨rfl, rfl⟩)
    go_ret2
    exact ⟨rfl, rfl⟩

/-- What ReadFixed tells. -/
def rfN (s : ByteArray) (width : Int) : Int := if 1 ≤ width ∧ width ≤ 7 ∧ width ≤ s.size then numL s.data.toList width.toNat else 0
def rfB (s : ByteArray) (width : Int) : Bool := decide (1 ≤ width ∧ width ≤ 7 ∧ width ≤ s.size)
theorem implReadFixed_any (s : ByteArray) (width : Int) (w : World) (hs : s.size ≤ 9223372036854775807) :
    Calls Tryd.prog 12 #[.string s, .int .i64 width] w fun e w' => e = .returned (.tuple #[.int .i64 (rfN s width), .bool (rfB s width)]) ∧ w = w' := by
  by_cases h : 1 ≤ width ∧ width ≤ 7 ∧ width ≤ s.size
  · have h2 : width = (width.toNat : Int) := by omega
    have hb : rfB s width = true := decide_eq_true h
    rw [hb, rfN, if_pos h]
    generalize width.toNat = W at *
    subst h2
    exact implReadFixed_yes s W w hs (by omega) (by omega) (by omega)
  · have hb : rfB s width = false := decide_eq_false h
    rw [hb, rfN, if_neg h]
    exact implReadFixed_no s width w hs (by omega)

end Go.Proofs.YtehlbloalfclcaaDoor
