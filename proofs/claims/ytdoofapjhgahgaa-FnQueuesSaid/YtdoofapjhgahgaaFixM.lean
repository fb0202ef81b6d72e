/-
  The bytes of a number, the highest first: plain facts.
-/
namespace Go.Proofs.Ytdoofapjhgahgaa

/-- k bytes of n, the highest first. -/
def fixL (n : Nat) : Nat → List UInt8
  | 0 => []
  | k + 1 => fixL (n / 256) k ++ [UInt8.ofNat (n % 256)]
theorem fixL_length (n k : Nat) : (fixL n k).length = k := by
  induction k generalizing n with
  | zero => rfl
  | succ k ih => simp [fixL, ih]
theorem fixL_cons (n k : Nat) : fixL n (k + 1) = UInt8.ofNat (n / 256 ^ k % 256) :: fixL n k := by
  induction k generalizing n with
  | zero => simp [fixL]
  | succ k ih =>
    rw [fixL, ih (n / 256)]
    simp only [fixL, List.cons_append]
    rw [Nat.div_div_eq_div_mul, Nat.pow_succ, Nat.mul_comm 256]
theorem fixL_push (n k j : Nat) (h : n / 256 ^ (k + 1) = n / 256 ^ k / 256) : fixL (n / 256 ^ k) (j + 1) = fixL (n / 256 ^ (k + 1)) j ++ [UInt8.ofNat (n / 256 ^ k % 256)] := by
  rw [fixL, h]
theorem div_pow_succ (n k : Nat) : n / 256 ^ (k + 1) = n / 256 ^ k / 256 := by
  rw [Nat.div_div_eq_div_mul, Nat.pow_succ]
/-- What Fixed tells of a number that is not below nought, at a right width. -/
def fixW (N W : Nat) : ByteArray := if N / 256 ^ W = 0 then ⟨(fixL N W).toArray⟩ else ByteArray.empty
theorem fixW_yes {N W : Nat} (h : N / 256 ^ W = 0) : fixW N W = ⟨(fixL N W).toArray⟩ := if_pos h
theorem fixW_no {N W : Nat} (h : N / 256 ^ W ≠ 0) : fixW N W = ByteArray.empty := if_neg h
theorem pow8 (k : Nat) : 2 ^ (8 * k) = 256 ^ k := by rw [Nat.pow_mul]
theorem shr_pow (N k : Nat) : (N : Int) / 2 ^ (8 * k) = ((N / 256 ^ k : Nat) : Int) := by
  have h : (2 : Int) ^ (8 * k) = ((256 ^ k : Nat) : Int) := by rw [← pow8]; simp
  rw [h]; simp
end Go.Proofs.Ytdoofapjhgahgaa
