import Derived.Test.YtkflinobmagiiaaJoin3
import Derived.Test.YtkflinobmagiiaaProg
import Derived.Test.YtkflinobmagiiaaJoin1
import Derived.Lib.Hide
import Derived.WalkSpells
import Derived.WalkLawsBesides
import Derived.Deep.QuietTactic
import Derived.BigQuiet
/-! YtkflinobmagiiaaDrawSpoilB -/
section

namespace Go.Proofs.Ytkflinobmagiiaa
open Go.RowKit
set_option linter.unusedVariables false

end Go.Proofs.Ytkflinobmagiiaa

end

/-! YtkflinobmagiiaaDrawSpoil -/
section

namespace Go.Proofs.Ytkflinobmagiiaa
open Go.RowKit
set_option linter.unusedVariables false

end Go.Proofs.Ytkflinobmagiiaa

end

/-! YtkflinobmagiiaaVarM -/
section

namespace Go.Proofs.Ytkflinobmagiiaa

/-- The bytes of Var. -/
def varL (n : Nat) : List UInt8 := if n < 128 then [UInt8.ofNat n] else UInt8.ofNat (128 + n % 128) :: varL (n / 128)
termination_by n
decreasing_by omega
theorem varL_small {n : Nat} (h : n < 128) : varL n = [UInt8.ofNat n] := by rw [varL, if_pos h]
theorem varL_big {n : Nat} (h : ¬ n < 128) : varL n = UInt8.ofNat (128 + n % 128) :: varL (n / 128) := by rw [varL, if_neg h]
theorem varL_length_le (k : Nat) : ∀ n, n < 128 ^ (k + 1) → (varL n).length ≤ k + 1 := by
  induction k with
  | zero => intro n h; rw [varL_small (by simpa using h)]; simp
  | succ k ih =>
    intro n h
    by_cases h1 : n < 128
    · rw [varL_small h1]; simp
    · rw [varL_big h1, List.length_cons]
      have : n / 128 < 128 ^ (k + 1) := by rw [Nat.div_lt_iff_lt_mul (by omega)]; rw [Nat.pow_succ] at h; exact h
      have := ih _ this
      omega
theorem varL_len7 {n : Nat} (h : n ≤ 562949953421311) : (varL n).length ≤ 7 := by
  have h7 : 128 ^ (6 + 1) = 562949953421312 := by decide
  exact varL_length_le 6 n (by omega)
end Go.Proofs.Ytkflinobmagiiaa

end

/-! YtkflinobmagiiaaPut -/
section

namespace Go.Proofs.Ytkflinobmagiiaa
open Go.RowKit

theorem Try.infoU8 : (Try.prog.info? 5).map (fun i => (i.zero, i.size, i.bytes)) = some (some (.int .u8 0), 1, 1) := by kernel_rfl

/-- What put leaves: a row of the call's own with the bytes behind it. -/
def PutPost (B n : Nat) (l : List UInt8) (w : World) (e : Ending) (w' : World) : Prop :=
  ∃ v', e = .returned v' ∧ w'.ownsRow B 5 1 v' n (bcells l) ∧ Below B w w'

end Go.Proofs.Ytkflinobmagiiaa

end
