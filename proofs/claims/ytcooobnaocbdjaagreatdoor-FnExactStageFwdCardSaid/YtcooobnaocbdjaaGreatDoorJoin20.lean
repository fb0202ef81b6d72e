import Derived.Test.YtcooobnaocbdjaaGreatDoorProg
import Derived.Test.YtcooobnaocbdjaaGreatDoorJoin1
import Derived.Lib.Hide
import Derived.WalkSpells
import Derived.WalkLawsBesides
import Derived.Deep.QuietTactic
import Derived.BigQuiet
import Derived.OpenShut
/-! YtcooobnaocbdjaaGreatDoorPVarM -/
section
namespace Go.Proofs.YtcooobnaocbdjaaGreatDoor
def varL (n:Nat):List UInt8:=if n<128 then [UInt8.ofNat n] else UInt8.ofNat (128+n % 128)::varL (n / 128)
termination_by n
decreasing_by omega
end Go.Proofs.YtcooobnaocbdjaaGreatDoor

end

/-! YtcooobnaocbdjaaGreatDoorPPut -/
section
namespace Go.Proofs.YtcooobnaocbdjaaGreatDoor
open Go.RowKit
def Qsq (B n:Nat) (l:List UInt8) (w:World) (e:Ending) (w':World):Prop:=
 ∃ v',e = .returned v'/\w'.ownsRow B 5 1 v' n (Qrk l)/\Below B w w'
end Go.Proofs.YtcooobnaocbdjaaGreatDoor

end

/-! YtcooobnaocbdjaaGreatDoorPFixM -/
section
namespace Go.Proofs.YtcooobnaocbdjaaGreatDoor
def fixL (n:Nat):Nat->List UInt8
 | 0=>[]
 | k+1=>fixL (n / 256) k ++ [UInt8.ofNat (n % 256)]
def fixW (N W:Nat):ByteArray:=if N / 256 ^ W=0 then ⟨(fixL N W).toArray⟩ else ByteArray.empty
end Go.Proofs.YtcooobnaocbdjaaGreatDoor

end

/-! YtcooobnaocbdjaaGreatDoorPFixed -/
section
namespace Go.Proofs.YtcooobnaocbdjaaGreatDoor
open Go.RowKit
def fixI (n width:Int):ByteArray:=if 1<=width/\width<=7/\0<=n then fixW n.toNat width.toNat else ByteArray.empty
end Go.Proofs.YtcooobnaocbdjaaGreatDoor

end
