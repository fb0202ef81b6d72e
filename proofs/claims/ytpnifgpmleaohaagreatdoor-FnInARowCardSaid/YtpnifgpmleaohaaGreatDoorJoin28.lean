import Derived.Test.YtpnifgpmleaohaaGreatDoorJoin27
/-! YtpnifgpmleaohaaGreatDoorZDrawSpoilA -/
section

namespace Go.Proofs.YtpnifgpmleaohaaGreatDoor
open Go.RowKit
set_option linter.unusedVariables false

end Go.Proofs.YtpnifgpmleaohaaGreatDoor

end

/-! YtpnifgpmleaohaaGreatDoorZDrawSpoilB -/
section

namespace Go.Proofs.YtpnifgpmleaohaaGreatDoor
open Go.RowKit
set_option linter.unusedVariables false

end Go.Proofs.YtpnifgpmleaohaaGreatDoor

end
