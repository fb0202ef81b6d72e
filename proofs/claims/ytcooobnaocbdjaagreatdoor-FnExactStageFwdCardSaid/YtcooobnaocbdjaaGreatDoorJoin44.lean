import Derived.Test.YtcooobnaocbdjaaGreatDoorJoin24
import Derived.Test.YtcooobnaocbdjaaGreatDoorJoin26
import Derived.Test.YtcooobnaocbdjaaGreatDoorJoin43
import Derived.Test.YtcooobnaocbdjaaGreatDoorJoin2
import Derived.WideShapes
import Derived.Test.YtcooobnaocbdjaaGreatDoorJoin5
/-! YtcooobnaocbdjaaGreatDoorPFewS -/
section
set_option linter.unusedSimpArgs false
set_option linter.unusedVariables false
namespace Go.Proofs.YtcooobnaocbdjaaGreatDoor
open Go.RowKit
theorem Qju (x:Qx):Qe.ctT x<=16*Qc.bulk x:=by
 rw [Qeo,Zi]
 have e0:=Qdw x.2
 omega
theorem Qkx (x:Qx):Qe.ct x=Qe.ctT x+1:=by
 rw [Qeo]
 simp only [Qe,Owned.struct,OwnedFields.cons,OwnedFields.last,Owned.int,Owned.bool,Owned.list]
 try omega
theorem Qg5 (xs:List Qx):Shape.sum Qe.ct xs<=16*(Shape.list Qc).bulk xs:=by
 refine Qh8 Qe.ct Qc.bulk (fun x => ?_) xs
 rw [Qkx]
 have:=Qju x
 omega
theorem Qjv (x:Qq):Qg.ctT x<=16*Qd.bulk x:=by
 rw [Qbg,Q2]
 have e0:=Qlh x.2.1
 have e1:=Qoh x.2.2.1
 have e2:=Qg5 x.2.2.2.2.2.1
 have e3:=Qdw x.2.2.2.2.2.2.1
 have e4:=Qaa x.2.2.2.2.2.2.2.1
 have e5:=Qaa x.2.2.2.2.2.2.2.2.1
 have e6:=Qaa x.2.2.2.2.2.2.2.2.2.1
 have e7:=Qaa x.2.2.2.2.2.2.2.2.2.2.1
 have e8:=Qdw x.2.2.2.2.2.2.2.2.2.2.2.1
 omega
theorem Qez {x:Qq} (h:Js x):Qg.ctT x<=167772160:=by
 rw [Qbg]
 obtain ⟨b0,b1,b2,b3,b4,b5,b6,b7,b8⟩:=h
 have e0:=Qlh x.2.1
 have e1:=Qoh x.2.2.1
 have e2:=Qg5 x.2.2.2.2.2.1
 have e3:=Qdw x.2.2.2.2.2.2.1
 have e4:=Qaa x.2.2.2.2.2.2.2.1
 have e5:=Qaa x.2.2.2.2.2.2.2.2.1
 have e6:=Qaa x.2.2.2.2.2.2.2.2.2.1
 have e7:=Qaa x.2.2.2.2.2.2.2.2.2.2.1
 have e8:=Qdw x.2.2.2.2.2.2.2.2.2.2.2.1
 have l2:=b2.1
 omega
end Go.Proofs.YtcooobnaocbdjaaGreatDoor

end

/-! YtcooobnaocbdjaaGreatDoorPOpen -/
section
set_option linter.unusedVariables false
namespace Go.Proofs.YtcooobnaocbdjaaGreatDoor
open Go.RowKit Go.WideShapes
theorem Qky {α H:Type} {enc:TypeId × Value->H} {P:Program} {w:World} {r:Reach} {b0 base:Nat} {spare:Nat->Bool} {held:Bool} {t:TypeId} {fs:Array Field} {v:Value} {d:DataW H} {p:List MemPlace} (S:Shape α)
  (ht:P.underlying t=some (.struct fs)) (hf:S.fits P t=true) (hv:Value.okWide P w r b0 t v) (h:DataW.Trod enc P w base spare held t v d p) :
  ∃ es x,v = .agg es.toArray/\S.reads (Qf w.heap.size) w es x:=by
 obtain ⟨cs,rfl,_⟩:=okWide_struct ht hv
 obtain ⟨fuel,hfu⟩:=h
 obtain ⟨x,hx⟩:=S.opens hf hfu
 exact ⟨cs.toList,x,by simp,hx⟩
end Go.Proofs.YtcooobnaocbdjaaGreatDoor

end

/-! YtcooobnaocbdjaaGreatDoorPBoxed -/
section
set_option linter.unusedSimpArgs false
set_option linter.unusedVariables false
namespace Go.Proofs.YtcooobnaocbdjaaGreatDoor
open Go.RowKit
def Qjw (W w:World) (g:Nat) (o:Obj):Prop:=w.heap[g]? = some o/\W.heap.size<=g/\g<w.heap.size
theorem Qjw.call {W w w':World} {g:Nat} {o:Obj} (h:Qjw W w g o) (hb:Below w.heap.size w w'):Qjw W w' g o:=
 ⟨(hb.block g h.2.2).trans h.1,h.2.1,Nat.lt_of_lt_of_le h.2.2 hb.size⟩
theorem Qjw.new {W w:World} (h:Below W.heap.size W w) (o:Obj):Qjw W (w.alloc o) w.heap.size o:=
 ⟨heap_alloc_new w o,h.size,by simp⟩
theorem Qjw.drew {W w:World} {g:Nat} {o:Obj} (h:Qjw W w g o):Qjw W w.drew g o:=h
def Qqk {α:Type} (S:Shape α) (T:TypeId) (W wx:World) (t:Value) (v:α):Prop:=
 ∃ g es,t = .pointer (some ⟨g,0,none⟩)/\wx.heap[g]? = some (.cells es.toArray T (0,0))/\S.reads (Qf wx.heap.size) wx es v/\W.heap.size<=g/\g<wx.heap.size/\Below W.heap.size W wx
theorem Qqk.last {α:Type} {S:Shape α} {T:TypeId} {W w:World} {lo:Nat} {es:List Value} {v:α} (hB:Below W.heap.size W w) (hr:S.reads (From lo w.heap.size) w es v) :
  Qqk S T W (w.alloc (.cells es.toArray T (0,0))) (.pointer (some ⟨w.heap.size,0,none⟩)) v:=by
 have ha:=(Below.refl w.heap.size w).alloc (Nat.le_refl _) (.cells es.toArray T (0,0))
 exact ⟨_,es,rfl,heap_alloc_new w _,S.le (S.below (S.under hr) ha (Nat.le_refl _)) ha.size,hB.size,by simp,hB.trans (ha.mono hB.size)⟩
end Go.Proofs.YtcooobnaocbdjaaGreatDoor

end
