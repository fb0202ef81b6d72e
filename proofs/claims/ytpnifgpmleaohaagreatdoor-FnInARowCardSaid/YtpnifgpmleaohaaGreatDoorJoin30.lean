import Derived.Test.YtpnifgpmleaohaaGreatDoorProg
import Derived.Test.YtpnifgpmleaohaaGreatDoorJoin1
import Derived.Lib.Hide
import Derived.WalkSpells
import Derived.WalkLawsBesides
import Derived.Deep.QuietTactic
import Derived.BigQuiet
/-! YtpnifgpmleaohaaGreatDoorZPut -/
section

namespace Go.Proofs.YtpnifgpmleaohaaGreatDoor
open Go.RowKit

/-- What put leaves: a row of the call's own with the bytes behind it. -/
def PutPost (B n : Nat) (l : List UInt8) (w : World) (e : Ending) (w' : World) : Prop :=
  ∃ v', e = .returned v' ∧ w'.ownsRow B 5 1 v' n (bcells l) ∧ Below B w w'

end Go.Proofs.YtpnifgpmleaohaaGreatDoor

end

/-! YtpnifgpmleaohaaGreatDoorZFixM -/
section

namespace Go.Proofs.YtpnifgpmleaohaaGreatDoor

/-- k bytes of n, the highest first. -/
def fixL (n : Nat) : Nat → List UInt8
  | 0 => []
  | k + 1 => fixL (n / 256) k ++ [UInt8.ofNat (n % 256)]
/-- What Fixed tells of a number that is not below nought, at a right width. -/
def fixW (N W : Nat) : ByteArray := if N / 256 ^ W = 0 then ⟨(fixL N W).toArray⟩ else ByteArray.empty
end Go.Proofs.YtpnifgpmleaohaaGreatDoor

end
