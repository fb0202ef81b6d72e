import Derived.Test.YtcooobnaocbdjaaProg
import Derived.WalkKit
import Derived.LaidEql
import Derived.Stop.Asserts
import Derived.RowKitTokens
import Derived.Below
import Derived.Lib.Hide
import Derived.WalkSpells
import Derived.WalkLawsBesides
/-! YtcooobnaocbdjaaPSat -/
section

namespace Go.Proofs.Ytcooobnaocbdjaa

/-- A number taken into the range, and whether it was out of it. -/
def sat (x : Int) : Int := if 2147483647 < x then 2147483647 else if x < -2147483647 then -2147483647 else x
def satB (x : Int) : Bool := decide (2147483647 < x ∨ x < -2147483647)
/-- Is it from lo to hi? -/
def inB (lo hi x : Int) : Bool := decide (lo ≤ x ∧ x ≤ hi)
/-- The four operations. -/
def addN (a b : Int) : Int := sat (sat a + sat b)
def addB (a b : Int) : Bool := satB (sat a + sat b)
def subN (a b : Int) : Int := sat (sat a - sat b)
def subB (a b : Int) : Bool := satB (sat a - sat b)
def mulN (a b : Int) : Int := sat (sat a * sat b / 65536)
def mulB (a b : Int) : Bool := satB (sat a * sat b / 65536)
end Go.Proofs.Ytcooobnaocbdjaa

end

/-! YtcooobnaocbdjaaPAs -/
section

namespace Go.Proofs.Ytcooobnaocbdjaa
open Go.RowKit Go.Extern.Stop Go.Stop Go.Extern
set_option linter.unusedVariables false
set_option linter.unusedSimpArgs false

end Go.Proofs.Ytcooobnaocbdjaa

end
