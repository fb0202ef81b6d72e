import Derived.Test.YtcooobnaocbdjaaGreatDoorProg
import Derived.Test.YtcooobnaocbdjaaGreatDoorJoin1
import Derived.Test.YtcooobnaocbdjaaGreatDoorJoin20
import Derived.Lib.Hide
import Derived.WalkSpells
import Derived.WalkLawsBesides
import Derived.Test.YtcooobnaocbdjaaGreatDoorJoin19
import Derived.Test.YtcooobnaocbdjaaGreatDoorJoin2
/-! YtcooobnaocbdjaaGreatDoorPVar -/
section
set_option linter.unusedVariables false
namespace Go.Proofs.YtcooobnaocbdjaaGreatDoor
open Go.RowKit
def varI (n:Int):ByteArray:=if 0<=n/\n<=562949953421311 then ⟨(varL n.toNat).toArray⟩ else ByteArray.empty
end Go.Proofs.YtcooobnaocbdjaaGreatDoor

end

/-! YtcooobnaocbdjaaGreatDoorPDraw1 -/
section
set_option linter.unusedVariables false
namespace Go.Proofs.YtcooobnaocbdjaaGreatDoor
open Go.RowKit
structure CodeIn (B:Nat) (w:World) (a:Option Addr) (bs:List UInt8):Prop where
 room:bs.length<=1048576
 code : ∀ j (hj:j<bs.length),∃ b o,a=some ⟨b,o,none⟩/\b<B/\w.cell? ⟨b,o+j,none⟩=some (.int .u8 (bs[j].toNat:Int))
theorem CodeIn.below {B:Nat} {w w':World} {a:Option Addr} {bs:List UInt8} (h:CodeIn B w a bs) (hb:Below B w w'):CodeIn B w' a bs:=
 ⟨h.room,fun j hj=>by
  obtain ⟨b,o,e1,e2,e3⟩:=h.code j hj
  exact ⟨b,o,e1,e2,(hb.cell (p:=⟨b,o+j,none⟩) e2).trans e3⟩⟩
def Qse (bs:List UInt8):Int:=(numF bs (Qob bs)).1
def Qsf (bs:List UInt8):List UInt8:=(Qoc bs (Qob bs) 40).1
def Qe1 (bs:List UInt8):ByteArray × St:=
 (varI (numF bs (Qob bs)).1 ++ (⟨(Qoc bs (numF bs (Qob bs)).2 4).1.toArray⟩:ByteArray),(Qoc bs (numF bs (Qob bs)).2 4).2)
def Qqi (bs:List UInt8):ByteArray:=
 if (Qy bs (Qe1 bs).2 4).1=0 then (Qr9 bs (Qy bs (Qe1 bs).2 4).2 (Qe1 bs).1).1 else (Qe1 bs).1
end Go.Proofs.YtcooobnaocbdjaaGreatDoor

end

/-! YtcooobnaocbdjaaGreatDoorPDrawE -/
section
set_option linter.unusedVariables false
namespace Go.Proofs.YtcooobnaocbdjaaGreatDoor
open Go.RowKit
def Cu (B:Nat) (w:World) (C:Nat):Prop:= ∃ a cap bs s,CurAt B w C a cap bs s
def Zz (B:Nat) (w w':World) (C:Nat):Prop:=Cu B w' C/\w.grownBy w' (some C)
theorem Drawn.turned {B:Nat} {w w':World} {C:Nat} {a:Option Addr} {cap:Nat} {bs:List UInt8} {s:St} (h:Drawn B w w' C a cap bs s):Zz B w w' C:=⟨⟨a,cap,bs,s,h.at_⟩,h.grown⟩
theorem Cu.lt {B:Nat} {w:World} {C:Nat} (h:Cu B w C):C<w.heap.size:=by
 obtain ⟨a,cap,bs,s,h⟩:=h
 exact (Array.getElem?_eq_some_iff.1 h.cur).1
theorem Cu.up {B:Nat} {w:World} {C:Nat} (h:Cu B w C):B<=C:=by
 obtain ⟨a,cap,bs,s,h⟩:=h
 exact CurAt.up h
theorem Cu.grown {B:Nat} {w w':World} {C:Nat} {row:Option Nat} (h:Cu B w C) (hg:w.grownBy w' row) (hr : ∀ k,row=some k->B<=k/\k≠C):Cu B w' C:=by
 obtain ⟨a,cap,bs,s,h⟩:=h
 exact ⟨a,cap,bs,s,h.grown hg hr⟩
theorem Cu.alloc {B:Nat} {w:World} {C:Nat} (h:Cu B w C) (o:Obj):Cu B (w.alloc o) C:=h.grown (World.grownBy_alloc w o none) (fun k hk=>by cases hk)
theorem Qc8 {w w':World} (hb:Below w.heap.size w w') (row:Option Nat):w.grownBy w' row:=⟨hb.os,hb.tape,hb.output,hb.size,fun b hb' _=>hb.block b hb'⟩
theorem Cu.below {B:Nat} {w w':World} {C:Nat} (h:Cu B w C) (hb:Below w.heap.size w w'):Cu B w' C:=h.grown (Qc8 hb none) (fun k hk=>by cases hk)
theorem Zz.refl {B:Nat} {w:World} {C:Nat} (h:Cu B w C):Zz B w w C:=⟨h,World.grownBy.refl _ _⟩
theorem Zz.trans {B:Nat} {w w1 w2:World} {C:Nat} (h:Zz B w w1 C) (k:Zz B w1 w2 C):Zz B w w2 C:=⟨k.1,Qaw h.2 k.2⟩
theorem Zz.then {B:Nat} {w w1 w2:World} {C:Nat} (h:Zz B w w1 C) (k:Below w1.heap.size w1 w2):Zz B w w2 C:=⟨h.1.below k,Qaw h.2 (Qc8 k _)⟩
theorem Zz.alloc {B:Nat} {w w1:World} {C:Nat} (h:Zz B w w1 C) (o:Obj):Zz B w (w1.alloc o) C:=h.then ((Below.refl _ _).alloc (Nat.le_refl _) o)
theorem Zz.drewN {B:Nat} {w w1:World} {C:Nat} (h:Zz B w w1 C) (n:Nat):Zz B w (w1.drewN n) C:=h.then ⟨rfl,rfl,rfl,Nat.le_refl _,fun _ _=>rfl⟩
theorem Zz.size {B:Nat} {w w1:World} {C:Nat} (h:Zz B w w1 C):w.heap.size<=w1.heap.size:=h.2.size
theorem Zz.below {B B':Nat} {w w':World} {C:Nat} (h:Zz B w w' C) (hB:B'<=w.heap.size) (hC:B'<=C):Below B' w w':=
 (Below.refl B' w).grown h.2 hB (fun k hk=>by cases hk;exact hC)
def Qsx (P:Int->Prop) (B:Nat) (w:World) (C:Nat) (e:Ending) (w':World):Prop:= ∃ x,e = .returned (.int .i64 x)/\P x/\Zz B w w' C
def Qsy (P:ByteArray->Prop) (B:Nat) (w:World) (C:Nat) (e:Ending) (w':World):Prop:= ∃ x,e = .returned (.string x)/\P x/\Zz B w w' C
def Qsz (B:Nat) (w:World) (C:Nat) (e:Ending) (w':World):Prop:= ∃ x,e = .returned (.bool x)/\Zz B w w' C
end Go.Proofs.YtcooobnaocbdjaaGreatDoor

end

/-! YtcooobnaocbdjaaGreatDoorPDrawNum -/
section
set_option linter.unusedVariables false
namespace Go.Proofs.YtcooobnaocbdjaaGreatDoor
open Go.RowKit
end Go.Proofs.YtcooobnaocbdjaaGreatDoor

end
