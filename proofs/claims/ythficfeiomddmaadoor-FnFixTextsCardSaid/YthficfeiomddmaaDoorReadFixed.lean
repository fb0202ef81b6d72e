/-
  The contracts of spec.ReadFixed and impl.ReadFixed.
-/
import Derived.Test.YthficfeiomddmaaDoorProg
import Derived.Test.YthficfeiomddmaaDoorBytes
import Derived.Test.YthficfeiomddmaaDoorFixM
import Derived.Test.YthficfeiomddmaaDoorFixed
import Derived.Lib.Hide
import Derived.WalkSpells
import Derived.WalkLawsBesides
namespace Go.Proofs.YthficfeiomddmaaDoor
open Go.RowKit
set_option linter.unusedVariables false

/-- The number of the first k bytes, the highest first. -/
def numL (l : List UInt8) : Nat → Nat
  | 0 => 0
  | k + 1 => numL l k * 256 + (l.getD k 0).toNat
theorem numL_lt (l : List UInt8) (k : Nat) : numL l k < 256 ^ k := by
  induction k with
  | zero => simp [numL]
  | succ k ih =>
    have h := (l.getD k 0).toNat_lt
    simp only [numL, Nat.pow_succ]
    omega
theorem numL_le {l : List UInt8} {k : Nat} (h : k ≤ 7) : numL l k < 72057594037927936 := by
  have h1 := numL_lt l k
  have h2 : 256 ^ k ≤ 256 ^ 7 := Nat.pow_le_pow_right (by omega) h
  have h3 : 256 ^ 7 = 72057594037927936 := by decide
  omega
theorem numL_le6 {l : List UInt8} {k : Nat} (h : k < 7) : numL l k < 281474976710656 := by
  have h1 := numL_lt l k
  have h2 : 256 ^ k ≤ 256 ^ 6 := Nat.pow_le_pow_right (by omega) (by omega)
  have h3 : 256 ^ 6 = 281474976710656 := by decide
  omega

theorem str_getD (s : ByteArray) (k : Nat) (h : k < s.size) : s.data.toList.getD k 0 = s[k] := by
  have h' : k < s.data.size := h
  rw [List.getD, List.getElem?_eq_getElem (by simpa using h')]
  rfl

/-- What ReadFixed tells. -/
def rfN (s : ByteArray) (width : Int) : Int := if 1 ≤ width ∧ width ≤ 7 ∧ width ≤ s.size then numL s.data.toList width.toNat else 0
def rfB (s : ByteArray) (width : Int) : Bool := decide (1 ≤ width ∧ width ≤ 7 ∧ width ≤ s.size)
end Go.Proofs.YthficfeiomddmaaDoor
