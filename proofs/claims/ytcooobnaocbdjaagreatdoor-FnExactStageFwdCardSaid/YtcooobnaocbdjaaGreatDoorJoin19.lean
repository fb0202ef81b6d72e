import Derived.Test.YtcooobnaocbdjaaGreatDoorJoin18
import Derived.Deep.RegionWith
import Derived.Lib.Strings
/-! YtcooobnaocbdjaaGreatDoorPDrawSpoilM -/
section
set_option linter.unusedVariables false
namespace Go.Proofs.YtcooobnaocbdjaaGreatDoor
open Go.RowKit
def Qr9 (bs:List UInt8) (s:St) (t:ByteArray):ByteArray × St:=
 if t.size=0 then (⟨(Qoc bs s 3).1.toArray⟩,(Qoc bs s 3).2)
 else if (Qy bs (Qy bs s t.size).2 4).1=0 then
  (t.extract 0 (Qy bs s t.size).1.toNat ++ t.extract ((Qy bs s t.size).1.toNat+1) t.size,(Qy bs (Qy bs s t.size).2 4).2)
 else if (Qy bs (Qy bs s t.size).2 4).1=1 then
  (t.extract 0 (Qy bs s t.size).1.toNat ++ (⟨#[UInt8.ofNat (Qbm bs (Qy bs (Qy bs s t.size).2 4).2).1.toNat]⟩:ByteArray) ++ t.extract (Qy bs s t.size).1.toNat t.size,(Qbm bs (Qy bs (Qy bs s t.size).2 4).2).2)
 else if (Qy bs (Qy bs s t.size).2 4).1=2 then (t.extract 0 (Qy bs s t.size).1.toNat,(Qy bs (Qy bs s t.size).2 4).2)
 else
  (t.extract 0 (Qy bs s t.size).1.toNat ++ (⟨#[UInt8.ofNat (bits .xor .i64 ((t.data.toList.getD (Qy bs s t.size).1.toNat 0).toNat:Int) (1+(Qy bs (Qy bs (Qy bs s t.size).2 4).2 255).1) % 256).toNat]⟩:ByteArray) ++ t.extract ((Qy bs s t.size).1.toNat+1) t.size,
   (Qy bs (Qy bs (Qy bs s t.size).2 4).2 255).2)
theorem Drawn.drewN {B:Nat} {w w':World} {C:Nat} {a:Option Addr} {cap:Nat} {bs:List UInt8} {s:St} (h:Drawn B w w' C a cap bs s) (k:Nat):Drawn B w (w'.drewN k) C a cap bs s:=
 ⟨h.at_.keep rfl fun _ _=>rfl,⟨h.grown.os,h.grown.tape,h.grown.output,h.grown.size,h.grown.block⟩⟩
theorem Drawn.drew {B:Nat} {w w':World} {C:Nat} {a:Option Addr} {cap:Nat} {bs:List UInt8} {s:St} (h:Drawn B w w' C a cap bs s):Drawn B w w'.drew C a cap bs s:=h.drewN 1
theorem Drawn.alloc {B:Nat} {w w':World} {C:Nat} {a:Option Addr} {cap:Nat} {bs:List UInt8} {s:St} (h:Drawn B w w' C a cap bs s) (o:Obj):Drawn B w (w'.alloc o) C a cap bs s:=
 ⟨h.at_.alloc o,Qaw h.grown (World.grownBy_alloc w' o _)⟩
end Go.Proofs.YtcooobnaocbdjaaGreatDoor

end

/-! YtcooobnaocbdjaaGreatDoorPDrawSpoilA -/
section
set_option linter.unusedVariables false
namespace Go.Proofs.YtcooobnaocbdjaaGreatDoor
open Go.RowKit
end Go.Proofs.YtcooobnaocbdjaaGreatDoor

end

/-! YtcooobnaocbdjaaGreatDoorPDrawSpoilB -/
section
set_option linter.unusedVariables false
namespace Go.Proofs.YtcooobnaocbdjaaGreatDoor
open Go.RowKit
end Go.Proofs.YtcooobnaocbdjaaGreatDoor

end

/-! YtcooobnaocbdjaaGreatDoorPDrawSpoil -/
section
set_option linter.unusedVariables false
namespace Go.Proofs.YtcooobnaocbdjaaGreatDoor
open Go.RowKit
end Go.Proofs.YtcooobnaocbdjaaGreatDoor

end
