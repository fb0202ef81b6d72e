/-
  Decimal digits: plain facts.
-/
import Derived.Lib.ItoaNum
namespace Go.Proofs.YtikjhpljaanakaaDoor

/-- The digits of u; none for nought. -/
def preD (u : Nat) : List UInt8 := if u = 0 then [] else Lib.decDigits u
theorem preD_zero : preD 0 = [] := rfl
theorem preD_pos {u : Nat} (h : u ≠ 0) : preD u = Lib.decDigits u := if_neg h
theorem preD_step {u : Nat} (h : u ≠ 0) : preD u = preD (u / 10) ++ [UInt8.ofNat (48 + u % 10)] := by
  rw [preD_pos h, Lib.decDigits]
  by_cases h1 : u < 10
  · rw [dif_pos h1, show u / 10 = 0 by omega, preD_zero, show u % 10 = u by omega]
    rfl
  · rw [dif_neg h1, preD_pos (by omega)]
theorem decDigits_length_le : ∀ (k u : Nat), u < 10 ^ (k + 1) → (Lib.decDigits u).length ≤ k + 1
  | 0, u, h => by rw [Lib.decDigits, dif_pos (by simpa using h)]; simp
  | k + 1, u, h => by
    rw [Lib.decDigits]
    by_cases h1 : u < 10
    · rw [dif_pos h1]; simp
    · rw [dif_neg h1, List.length_append]
      have h2 : u / 10 < 10 ^ (k + 1) := by
        rw [Nat.div_lt_iff_lt_mul (by omega)]
        rw [Nat.pow_succ] at h
        exact h
      have := decDigits_length_le k (u / 10) h2
      simp
      omega
theorem decDigits_len20 {u : Nat} (h : u ≤ 9223372036854775808) : (Lib.decDigits u).length ≤ 20 := decDigits_length_le 19 u (by
  have h20 : 10 ^ (19 + 1) = 100000000000000000000 := by decide
  omega)
end Go.Proofs.YtikjhpljaanakaaDoor
