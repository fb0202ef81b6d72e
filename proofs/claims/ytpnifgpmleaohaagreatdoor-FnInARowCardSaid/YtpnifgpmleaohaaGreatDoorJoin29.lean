import Derived.Test.YtpnifgpmleaohaaGreatDoorJoin28
/-! YtpnifgpmleaohaaGreatDoorZDrawSpoil -/
section

namespace Go.Proofs.YtpnifgpmleaohaaGreatDoor
open Go.RowKit
set_option linter.unusedVariables false

end Go.Proofs.YtpnifgpmleaohaaGreatDoor

end

/-! YtpnifgpmleaohaaGreatDoorZVarM -/
section

namespace Go.Proofs.YtpnifgpmleaohaaGreatDoor

/-- The bytes of Var. -/
def varL (n : Nat) : List UInt8 := if n < 128 then [UInt8.ofNat n] else UInt8.ofNat (128 + n % 128) :: varL (n / 128)
termination_by n
decreasing_by omega
end Go.Proofs.YtpnifgpmleaohaaGreatDoor

end
