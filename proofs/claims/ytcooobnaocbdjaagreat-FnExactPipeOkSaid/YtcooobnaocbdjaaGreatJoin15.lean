import Derived.Test.YtcooobnaocbdjaaGreatJoin14
import Derived.Deep.QuietTactic
import Derived.BigQuiet
import Derived.Test.YtcooobnaocbdjaaGreatJoin6
/-! YtcooobnaocbdjaaGreatPVecS -/
section

namespace Go.Proofs.YtcooobnaocbdjaaGreat
open Go.RowKit
set_option linter.unusedVariables false

theorem Row.drewN {base : Nat} {w : World} {v : Value} {zs : List Int} (h : Row base w v zs) (m : Nat) : Row base (w.drewN m) v zs := h.below ⟨rfl, rfl, rfl, Nat.le_refl _, fun _ _ => rfl⟩

end Go.Proofs.YtcooobnaocbdjaaGreat

end

/-! YtcooobnaocbdjaaGreatPMatS -/
section

namespace Go.Proofs.YtcooobnaocbdjaaGreat
open Go.RowKit
set_option linter.unusedVariables false

theorem prod36 {r c : Int} (hr : inB 1 6 r = true) (hc : inB 1 6 c = true) : 1 ≤ r * c ∧ r * c ≤ 36 := by
  obtain ⟨a0, a1⟩ := inB_has hr
  obtain ⟨b0, b1⟩ := inB_has hc
  have h : r = 1 ∨ r = 2 ∨ r = 3 ∨ r = 4 ∨ r = 5 ∨ r = 6 := by omega
  rcases h with rfl | rfl | rfl | rfl | rfl | rfl <;> omega
end Go.Proofs.YtcooobnaocbdjaaGreat

end
