import Derived.Test.YtpnifgpmleaohaaGreatDoorProg
import Derived.Test.YtpnifgpmleaohaaGreatDoorJoin1
import Derived.Test.YtpnifgpmleaohaaGreatDoorJoin30
import Derived.OpenShut
import Derived.Lib.Hide
import Derived.WalkSpells
import Derived.WalkLawsBesides
import Derived.Test.YtpnifgpmleaohaaGreatDoorJoin29
/-! YtpnifgpmleaohaaGreatDoorZFixed -/
section

namespace Go.Proofs.YtpnifgpmleaohaaGreatDoor
open Go.RowKit

/-- What both tell, at any two integers. -/
def fixI (n width : Int) : ByteArray := if 1 ≤ width ∧ width ≤ 7 ∧ 0 ≤ n then fixW n.toNat width.toNat else ByteArray.empty
end Go.Proofs.YtpnifgpmleaohaaGreatDoor

end

/-! YtpnifgpmleaohaaGreatDoorZVar -/
section

namespace Go.Proofs.YtpnifgpmleaohaaGreatDoor
open Go.RowKit
set_option linter.unusedVariables false

/-- What Var tells. -/
def varI (n : Int) : ByteArray := if 0 ≤ n ∧ n ≤ 562949953421311 then ⟨(varL n.toNat).toArray⟩ else ByteArray.empty
end Go.Proofs.YtpnifgpmleaohaaGreatDoor

end
