import Derived.Test.YtpnifgpmleaohaaGreatDoorJoin28
import Derived.Test.YtpnifgpmleaohaaGreatDoorProg
import Derived.Test.YtpnifgpmleaohaaGreatDoorJoin2
import Derived.Lib.Hide
import Derived.WalkSpells
import Derived.WalkLawsBesides
import Derived.Deep.QuietTactic
import Derived.BigQuiet
/-! YtpnifgpmleaohaaGreatDoorDrawSpoilA -/
section

namespace Go.Proofs.YtpnifgpmleaohaaGreatDoor
open Go.RowKit
set_option linter.unusedVariables false

end Go.Proofs.YtpnifgpmleaohaaGreatDoor

end

/-! YtpnifgpmleaohaaGreatDoorDrawSpoilB -/
section

namespace Go.Proofs.YtpnifgpmleaohaaGreatDoor
open Go.RowKit
set_option linter.unusedVariables false

end Go.Proofs.YtpnifgpmleaohaaGreatDoor

end

/-! YtpnifgpmleaohaaGreatDoorDrawSpoil -/
section

namespace Go.Proofs.YtpnifgpmleaohaaGreatDoor
open Go.RowKit
set_option linter.unusedVariables false

end Go.Proofs.YtpnifgpmleaohaaGreatDoor

end

/-! YtpnifgpmleaohaaGreatDoorVarM -/
section

namespace Go.Proofs.YtpnifgpmleaohaaGreatDoor

/-- The bytes of Var. -/
def varL (n : Nat) : List UInt8 := if n < 128 then [UInt8.ofNat n] else UInt8.ofNat (128 + n % 128) :: varL (n / 128)
termination_by n
decreasing_by omega
theorem varL_small {n : Nat} (h : n < 128) : varL n = [UInt8.ofNat n] := by rw [varL, if_pos h]
theorem varL_big {n : Nat} (h : ¬ n < 128) : varL n = UInt8.ofNat (128 + n % 128) :: varL (n / 128) := by rw [varL, if_neg h]
theorem varL_length_le (k : Nat) : ∀ n, n < 128 ^ (k + 1) → (varL n).length ≤ k + 1 := by
  induction k with
  | zero => intro n h; rw [varL_small (by simpa using h)]; simp
  | succ k ih =>
    intro n h
    by_cases h1 : n < 128
    · rw [varL_small h1]; simp
    · rw [varL_big h1, List.length_cons]
      have : n / 128 < 128 ^ (k + 1) := by rw [Nat.div_lt_iff_lt_mul (by omega)]; rw [Nat.pow_succ] at h; exact h
      have := ih _ this
      omega
theorem varL_len7 {n : Nat} (h : n ≤ 562949953421311) : (varL n).length ≤ 7 := by
  have h7 : 128 ^ (6 + 1) = 562949953421312 := by decide
  exact varL_length_le 6 n (by omega)
end Go.Proofs.YtpnifgpmleaohaaGreatDoor

end

/-! YtpnifgpmleaohaaGreatDoorPut -/
section

namespace Go.Proofs.YtpnifgpmleaohaaGreatDoor
open Go.RowKit

theorem Tryz.infoU8 : (Tryz.prog.info? 5).map (fun i => (i.zero, i.size, i.bytes)) = some (some (.int .u8 0), 1, 1) := by kernel_rfl

/-- What put leaves: a row of the call's own with the bytes behind it. -/
def PutPost (B n : Nat) (l : List UInt8) (w : World) (e : Ending) (w' : World) : Prop :=
  ∃ v', e = .returned v' ∧ w'.ownsRow B 5 1 v' n (bcells l) ∧ Below B w w'

end Go.Proofs.YtpnifgpmleaohaaGreatDoor

end

/-! YtpnifgpmleaohaaGreatDoorFixM -/
section

namespace Go.Proofs.YtpnifgpmleaohaaGreatDoor

/-- k bytes of n, the highest first. -/
def fixL (n : Nat) : Nat → List UInt8
  | 0 => []
  | k + 1 => fixL (n / 256) k ++ [UInt8.ofNat (n % 256)]
theorem fixL_length (n k : Nat) : (fixL n k).length = k := by
  induction k generalizing n with
  | zero => rfl
  | succ k ih => simp [fixL, ih]
theorem fixL_cons (n k : Nat) : fixL n (k + 1) = UInt8.ofNat (n / 256 ^ k % 256) :: fixL n k := by
  induction k generalizing n with
  | zero => simp [fixL]
  | succ k ih =>
    rw [fixL, ih (n / 256)]
    simp only [fixL, List.cons_append]
    rw [Nat.div_div_eq_div_mul, Nat.pow_succ, Nat.mul_comm 256]
theorem fixL_push (n k j : Nat) (h : n / 256 ^ (k + 1) = n / 256 ^ k / 256) : fixL (n / 256 ^ k) (j + 1) = fixL (n / 256 ^ (k + 1)) j ++ [UInt8.ofNat (n / 256 ^ k % 256)] := by
  rw [fixL, h]
theorem div_pow_succ (n k : Nat) : n / 256 ^ (k + 1) = n / 256 ^ k / 256 := by
  rw [Nat.div_div_eq_div_mul, Nat.pow_succ]
/-- What Fixed tells of a number that is not below nought, at a right width. -/
def fixW (N W : Nat) : ByteArray := if N / 256 ^ W = 0 then ⟨(fixL N W).toArray⟩ else ByteArray.empty
theorem fixW_yes {N W : Nat} (h : N / 256 ^ W = 0) : fixW N W = ⟨(fixL N W).toArray⟩ := if_pos h
theorem fixW_no {N W : Nat} (h : N / 256 ^ W ≠ 0) : fixW N W = ByteArray.empty := if_neg h
theorem pow8 (k : Nat) : 2 ^ (8 * k) = 256 ^ k := by rw [Nat.pow_mul]
theorem shr_pow (N k : Nat) : (N : Int) / 2 ^ (8 * k) = ((N / 256 ^ k : Nat) : Int) := by
  have h : (2 : Int) ^ (8 * k) = ((256 ^ k : Nat) : Int) := by rw [← pow8]; simp
  rw [h]; simp
end Go.Proofs.YtpnifgpmleaohaaGreatDoor

end
