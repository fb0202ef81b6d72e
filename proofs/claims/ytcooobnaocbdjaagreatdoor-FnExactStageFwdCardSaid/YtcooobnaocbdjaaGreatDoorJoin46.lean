import Derived.Test.YtcooobnaocbdjaaGreatDoorJoin2
import Derived.ChangeArms
import Derived.Test.YtcooobnaocbdjaaGreatDoorJoin6
import Derived.Test.YtcooobnaocbdjaaGreatDoorJoin17
import Derived.Test.YtcooobnaocbdjaaGreatDoorJoin1
import Derived.Test.YtcooobnaocbdjaaGreatDoorJoin45
/-! YtcooobnaocbdjaaGreatDoorPIntR -/
section
set_option linter.unusedVariables false
namespace Go.Proofs.YtcooobnaocbdjaaGreatDoor
open Go.RowKit
def Shape.intR:Shape Int where
 size:=1
 reads:=fun _ _ cs x=>cs=[.int .i64 x] /\ -9223372036854775808<=x/\x<=9223372036854775807
 fits:=fun P t=>match P.underlying t with | some (.int .i64)=>true | _=>false
 bulk:=fun _=>0
 len:=by rintro _ _ _ _ ⟨rfl,-⟩;rfl
 keep:=fun h _=>h
 sub:=fun h _=>h
 opens:=by
  intro H enc P w base spare held fuel t cs x hf h
  split at hf
  ·rename_i ht
   obtain ⟨n,hn,-,hw⟩:=DataW.trod_int ht h
   unfold Lit.wf at hw
   simp only [Bool.and_eq_true,decide_eq_true_eq] at hw
   exact ⟨n,hn,hw.1,hw.2⟩
  ·cases hf
end Go.Proofs.YtcooobnaocbdjaaGreatDoor

end

/-! YtcooobnaocbdjaaGreatDoorPSavR -/
section
set_option linter.unusedVariables false
namespace Go.Proofs.YtcooobnaocbdjaaGreatDoor
open Go.RowKit
def Qll:Shape Qx:= .struct (.cons Shape.intR (.last (Shape.list Qi)))
theorem Qb.wideS {I:Nat->Prop} {w:World} {a:Option Addr} {n:Nat} {l:List Qx} (h:Qb Qll I w a n l):Qb Qc I w a n l/\Qkl l:=by
 refine ⟨⟨h.1,fun j x hx => ?_⟩,fun x hx => ?_⟩
 ·obtain ⟨b,o,es,e,hb,hr,hs⟩:=h.2 j x hx
  obtain ⟨c1,c2,rfl,⟨e1,-⟩,h2⟩:=hs
  exact ⟨b,o,_,e,hb,hr,c1,c2,rfl,e1,h2⟩
 ·obtain ⟨j,hj⟩:=List.mem_iff_getElem?.1 hx
  obtain ⟨b,o,es,e,hb,hr,hs⟩:=h.2 j x hj
  obtain ⟨c1,c2,rfl,⟨-,h1⟩,-⟩:=hs
  exact h1
theorem In64.of_wf {x:Int} (h:(Lit.int .i64 x).wf=true):In64 x:=by
 unfold Lit.wf at h
 simp only [Bool.and_eq_true,decide_eq_true_eq] at h
 exact h
def Qie:Shape Qq:= .struct (.cons Shape.int (.cons (Shape.list Z1) (.cons (Shape.list shOp) (.cons Shape.bool (.cons Shape.bool (.cons (Shape.list Qll) (.cons (Shape.list Qi) (.cons (Shape.list Shape.int) (.cons (Shape.list Shape.int) (.cons (Shape.list Shape.int) (.cons (Shape.list Shape.int) (.last Je))))))))))))
theorem Qd0 {I:Nat->Prop} {w:World} {cs:List Value} {d:Qq} (h:Qie.reads I w cs d):Qd.reads I w cs d/\Qkl (Zc d):=by
 obtain ⟨_,_,rfl,rfl,_,_,rfl,⟨a0,n0,c0,rfl,g0⟩,_,_,rfl,⟨a1,n1,c1,rfl,g1⟩,_,_,rfl,rfl,_,_,rfl,rfl,_,_,rfl,⟨a2,n2,c2,rfl,g2⟩,_,_,rfl,⟨a3,n3,c3,rfl,g3⟩,_,_,rfl,⟨a4,n4,c4,rfl,g4⟩,_,_,rfl,⟨a5,n5,c5,rfl,g5⟩,_,_,rfl,⟨a6,n6,c6,rfl,g6⟩,_,_,rfl,⟨a7,n7,c7,rfl,g7⟩,⟨_,_,rfl,⟨a8,n8,c8,rfl,g8⟩,_,_,rfl,rfl,rfl⟩⟩:=h
 exact ⟨Qn.2 ⟨a0,n0,c0,a1,n1,c1,a2,n2,c2,a3,n3,c3,a4,n4,c4,a5,n5,c5,a6,n6,c6,a7,n7,c7,a8,n8,c8,rfl,g0,g1,⟨g2.1,g2.2.1,g2.2.2.wideS.1⟩,g3,g4,g5,g6,g7,g8⟩,g2.2.2.wideS.2⟩
end Go.Proofs.YtcooobnaocbdjaaGreatDoor

end

/-! YtcooobnaocbdjaaGreatDoorPIntRow -/
section
set_option linter.unusedVariables false
namespace Go.Proofs.YtcooobnaocbdjaaGreatDoor
open Go.RowKit
def Qep (W:World) (a:Option Addr) (len:Nat):Prop:= ∃ xs:List Int,xs.length=len /\ ∀ j,j<len -> ∃ b o,a=some ⟨b,o,none⟩/\b<W.heap.size/\W.cell? ⟨b,o+j,none⟩=some (.int .i64 (xs.getD j 0))
theorem Qg6 (W:World):Qep W none 0:=⟨[],rfl,fun j hj=>absurd hj (Nat.not_lt_zero _)⟩
theorem Qg7 (W:World) (x:Addr) (len:Nat) (zs:List Int) (hl:len<=zs.length) (hcell : ∀ i,i<zs.length->W.cell? (x.add i)=some (.int .i64 (zs.getD i 0))):Qep W (some x) len:=by
 refine ⟨zs.take len,by simp [hl],fun j hj => ?_⟩
 obtain ⟨b,off,spot⟩:=x
 have hc:=hcell j (by omega)
 have hspot:spot=none:=by
  have:=World.cell?_spot (hcell 0 (by omega))
  simpa [Addr.add] using this
 subst hspot
 rw [Addr.add_lit] at hc
 refine ⟨b,off,rfl,World.block_lt_of_cell? W _ hc,?_⟩
 rw [hc]
 simp [List.getD,hj]
end Go.Proofs.YtcooobnaocbdjaaGreatDoor

end

/-! YtcooobnaocbdjaaGreatDoorPStgFW -/
section
namespace Go.Proofs.YtcooobnaocbdjaaGreatDoor
open Go.RowKit
theorem Qep.listAt {W:World} {a:Option Addr} {n:Nat} (h:Qep W a n) : ∃ xs,Qb Shape.int (Qf W.heap.size) W a n xs:=by
 obtain ⟨xs,hl,hc⟩:=h
 refine ⟨xs,hl,fun j x hx => ?_⟩
 have hj:=(List.getElem?_eq_some_iff.1 hx).1
 obtain ⟨b,o,e,hb,hc⟩:=hc j (by rw [<- hl];exact hj)
 have hxe:xs.getD j 0=x:=by rw [List.getD_eq_getElem?_getD,hx];rfl
 refine ⟨b,o,[.int .i64 x],e,hb,fun i v hv => ?_,rfl⟩
 cases i with
 | zero=>cases hv;rw [<- hxe];simpa [Shape.int] using hc
 | succ i=>simp at hv
theorem Qkz (w:World) (es0:List Value) (x0:Qq) (h0:Qie.reads (Qf w.heap.size) w es0 x0) (a1:Int) (h1:(Lit.int .i64 a1).wf=true) (a2:Option Addr) (n2 c2:Nat) (w2:Qep w a2 n2) (m2:n2<=9223372036854775807) (a3:Option Addr) (n3 c3:Nat) (w3:Qep w a3 n3) (m3:n3<=9223372036854775807) (hg:Z0 w) :
  Calls Tryz.prog 4 #[(.agg es0.toArray),(.int .i64 a1),(.slice a2 n2 c2),(.slice a3 n3 c3)] w fun e w'=>e = .returned (.bool true)/\Below w.heap.size w w':=by
 obtain ⟨x2,l2⟩:=w2.listAt
 obtain ⟨x3,l3⟩:=w3.listAt
 exact Qfx w es0 x0 (Qd0 h0).1 a1 a2 n2 c2 x2 l2 m2 a3 n3 c3 x3 l3 m3 (Qd0 h0).2 (In64.of_wf h1) hg
end Go.Proofs.YtcooobnaocbdjaaGreatDoor

end
