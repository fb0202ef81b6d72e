/-
  The contracts of spec.Fixed and impl.Fixed.
-/
import Derived.Test.YtdoofapjhgahgaaProg
import Derived.Test.YtdoofapjhgahgaaBytes
import Derived.Test.YtdoofapjhgahgaaFixM
import Derived.Test.YtdoofapjhgahgaaPut
import Derived.OpenShut
import Derived.Lib.Hide
import Derived.WalkSpells
import Derived.WalkLawsBesides
namespace Go.Proofs.Ytdoofapjhgahgaa
open Go.RowKit

theorem l1In_yes (x lo hi : Int) (w : World) (h1 : lo ≤ x) (h2 : x ≤ hi) :
    Calls Try.prog 36 #[.int .i64 x, .int .i64 lo, .int .i64 hi] w fun e w' => e = .returned (.bool true) ∧ w = w' := by
  go_enter Try.func36, Try.ntmps36
  go_wp2
  go_ret
  exact ⟨rfl, rfl⟩
theorem l1In_no (x lo hi : Int) (w : World) (h : x < lo ∨ hi < x) :
    Calls Try.prog 36 #[.int .i64 x, .int .i64 lo, .int .i64 hi] w fun e w' => e = .returned (.bool false) ∧ w = w' := by
  by_cases h1 : x < lo
  · go_enter Try.func36, Try.ntmps36
    go_wp2
    go_ret
    exact ⟨rfl, rfl⟩
  · have h2 : hi < x := by omega
    have h3 : decide (x ≤ hi) = false := by simpa using h2
    clear h
    go_enter Try.func36, Try.ntmps36
    go_wp2
    go_ret
    exact ⟨rfl, rfl⟩

/-- What both tell, at any two integers. -/
def fixI (n width : Int) : ByteArray := if 1 ≤ width ∧ width ≤ 7 ∧ 0 ≤ n then fixW n.toNat width.toNat else ByteArray.empty
theorem i64_le {a : Int} (h : (Lit.int .i64 a).wf = true) : a ≤ 9223372036854775807 := by
  have := (bounds_i64 h).2
  omega
end Go.Proofs.Ytdoofapjhgahgaa
